/-
  Texts of this seat, one behind the other: LoCmp, LoLay, LoSort, LoSearch, LoOpen, LoIf, LoLaw, LoSrch, LoNewIf, LoMade, LoOne, LoAgain, LoAwake, LoGoesP.
-/
import Derived.Shelf.SlSortCmp.WholeK
import Derived.OrdersHeld
import Derived.Deep.RegionHeld
import Derived.Shelf.SlGeneric
import Derived.Ground.SlsfProg
import Derived.Test.YthadomboiockhaaProg
import Derived.Shelf.SlSortCmp.NoneTotal
import Derived.Deep.LoopGhost
import Derived.Lib.SlBytesConst
import Derived.Test.YthadomboiockhaaLa5
/-
  How what is found is held against each other: by the generation, and of one generation by the place.
-/
namespace Go.Proofs.Ythadomboiockhaa.Lo
open Go.RowKit Go.Shelf Go.Sort Mi
attribute [local go_sem ↓] Go.wp_at_zero Go.wp_at_succ
/-- -1, 0, 1. -/
def cmpI (a b : Int) : Int := if a < b then -1 else if b < a then 1 else 0
theorem cmpI_neg (a b : Int) : cmpI a b < 0 ↔ a < b := by unfold cmpI; split <;> (try split) <;> omega
theorem cmpI_zero (a b : Int) : cmpI a b = 0 ↔ a = b := by unfold cmpI; split <;> (try split) <;> omega
set_option maxRecDepth 100000 in
theorem cmpU_any (a b : Nat) (w : World) : Calls Try.prog 89 #[.int .u64 (a : Int), .int .u64 (b : Int)] w (fun e w' => e = .returned (.int .i64 (cmpI a b)) ∧ w' = w) := by
  have e1 : ((a : Int) != (a : Int)) = false := by simp
  have e2 : ((b : Int) != (b : Int)) = false := by simp
  by_cases h1 : a < b
  · have HV := Lib.hid (show cmpI a b = -1 by rw [cmpI, if_pos (by omega)])
    rw [HV.out]
    clear HV
    go_enter Try.func89, Try.ntmps89
    go_wp2
    all_goals (first | omega | (go_ret; exact ⟨rfl, rfl⟩))
  · by_cases h2 : b < a
    · have HV := Lib.hid (show cmpI a b = 1 by rw [cmpI, if_neg (by omega), if_pos (by omega)])
      rw [HV.out]
      clear HV
      go_enter Try.func89, Try.ntmps89
      go_wp2
      all_goals (first | omega | (go_ret; exact ⟨rfl, rfl⟩))
    · have HV := Lib.hid (show cmpI a b = 0 by rw [cmpI, if_neg (by omega), if_neg (by omega)])
      rw [HV.out]
      clear HV
      go_enter Try.func89, Try.ntmps89
      go_wp2
      all_goals (first | omega | (go_ret; exact ⟨rfl, rfl⟩))
set_option maxRecDepth 100000 in
theorem cmpI_any (a b : Int) (w : World) : Calls Try.prog 90 #[.int .i64 a, .int .i64 b] w (fun e w' => e = .returned (.int .i64 (cmpI a b)) ∧ w' = w) := by
  have e1 : ((a : Int) != (a : Int)) = false := by simp
  have e2 : ((b : Int) != (b : Int)) = false := by simp
  by_cases h1 : a < b
  · have HV := Lib.hid (show cmpI a b = -1 by rw [cmpI, if_pos (by omega)])
    rw [HV.out]
    clear HV
    go_enter Try.func90, Try.ntmps90
    go_wp2
    all_goals (first | omega | (go_ret; exact ⟨rfl, rfl⟩))
  · by_cases h2 : b < a
    · have HV := Lib.hid (show cmpI a b = 1 by rw [cmpI, if_neg (by omega), if_pos (by omega)])
      rw [HV.out]
      clear HV
      go_enter Try.func90, Try.ntmps90
      go_wp2
      all_goals (first | omega | (go_ret; exact ⟨rfl, rfl⟩))
    · have HV := Lib.hid (show cmpI a b = 0 by rw [cmpI, if_neg (by omega), if_neg (by omega)])
      rw [HV.out]
      clear HV
      go_enter Try.func90, Try.ntmps90
      go_wp2
      all_goals (first | omega | (go_ret; exact ⟨rfl, rfl⟩))
/-- The first of two that isn't 0. -/
def orI (x y : Int) : Int := if x = 0 then y else x
set_option maxRecDepth 100000 in
theorem cmpOr_any (b : Nat) (x y : Int) (w : World) (h : Blk w b #[.int .i64 x, .int .i64 y] 3) : Calls Try.prog 88 #[.slice (some ⟨b, 0, none⟩) 2 2] w (fun e w' => e = .returned (.int .i64 (orI x y)) ∧ w' = w) := by
  have c0 : w.cell? ⟨b, 0, none⟩ = some (.int .i64 x) := h.cell 0
  have c1 : w.cell? ⟨b, 1, none⟩ = some (.int .i64 y) := h.cell 1
  clear h
  go_enter Try.func88, Try.ntmps88
  go_wp2_with fail
  go_loop [8] (fun i => i = .int .i64 0 ∨ (i = .int .i64 1 ∧ x = 0) ∨ (i = .int .i64 2 ∧ x = 0 ∧ y = 0)) (fun i => 2 - (intOf i).toNat)
  case atStart => exact .inl rfl
  case round =>
    rcases hrel with rfl | ⟨rfl, hx⟩ | ⟨rfl, hx, hy⟩
    · by_cases hz : x = 0
      · subst hz
        go_wp2_with fail
        go_round
        case rel => simp
        case measure => decide
      · have e1 : (x != 0) = true := bne_iff_ne.2 hz
        have HV := Lib.hid (show orI x y = x from if_neg hz)
        clear hz
        go_wp2_with fail
        go_ret
        exact ⟨by rw [HV.out]; rfl, rfl⟩
    · subst hx
      have HV := Lib.hid (show orI 0 y = y from if_pos rfl)
      by_cases hz : y = 0
      · subst hz
        go_wp2_with fail
        go_round
        case rel => simp
        case measure => decide
      · have e1 : (y != 0) = true := bne_iff_ne.2 hz
        clear hz
        go_wp2_with fail
        go_ret
        exact ⟨by rw [HV.out]; rfl, rfl⟩
    · subst hx
      subst hy
      go_wp2_with fail
      go_ret
      exact ⟨by rfl, rfl⟩
end Go.Proofs.Ythadomboiockhaa.Lo
/-
  The sort of what is found: the library's contract over any program, laid at this program: a table of numbers, and one theorem.
-/
namespace Go.Proofs.Ythadomboiockhaa.Lo
open Go.Shelf
def sortFd_ren : Go.Shelf.Ren := ⟨fun | 6 => 86 | 15 => 118 | 14 => 117 | 28 => 136 | 29 => 137 | 20 => 128 | 21 => 129 | 22 => 130 | 23 => 131 | 24 => 132 | 25 => 133 | 26 => 134 | 27 => 135 | 46 => 140 | 47 => 141 | 48 => 142 | 49 => 143 | 50 => 144 | 57 => 145 | n => n, fun | 22 => 101 | 24 => 113 | 25 => 170 | 3 => 3 | 39 => 200 | 0 => 0 | 53 => 220 | 55 => 77 | 4 => 4 | 46 => 214 | 45 => 213 | 50 => 145 | 5 => 5 | 9 => 9 | 66 => 226 | 70 => 208 | 76 => 231 | 77 => 121 | n => n, fun | n => n⟩
theorem sortFd : Go.Proofs.SlLaysF0.n6 Try.prog sortFd_ren := {
  mixed := by kernel_rfl
  f6 := ⟨Try.f86.name, by decide, Try.func86.trans (congrArg some (by kernel_rfl))⟩
  f14 := ⟨Try.f117.name, by decide, Try.func117.trans (congrArg some (by kernel_rfl))⟩
  f15 := Try.func118.trans (congrArg some (by kernel_rfl))
  f20 := ⟨Try.f128.name, by decide, Try.func128.trans (congrArg some (by kernel_rfl))⟩
  f21 := ⟨Try.f129.name, by decide, Try.func129.trans (congrArg some (by kernel_rfl))⟩
  f22 := ⟨Try.f130.name, by decide, Try.func130.trans (congrArg some (by kernel_rfl))⟩
  f23 := ⟨Try.f131.name, by decide, Try.func131.trans (congrArg some (by kernel_rfl))⟩
  f24 := ⟨Try.f132.name, by decide, Try.func132.trans (congrArg some (by kernel_rfl))⟩
  f25 := ⟨Try.f133.name, by decide, Try.func133.trans (congrArg some (by kernel_rfl))⟩
  f26 := ⟨Try.f134.name, by decide, Try.func134.trans (congrArg some (by kernel_rfl))⟩
  f27 := ⟨Try.f135.name, by decide, Try.func135.trans (congrArg some (by kernel_rfl))⟩
  f28 := Try.func136.trans (congrArg some (by kernel_rfl))
  f29 := Try.func137.trans (congrArg some (by kernel_rfl))
  f46 := ⟨Try.f140.name, by decide, Try.func140.trans (congrArg some (by kernel_rfl))⟩
  f47 := Try.func141.trans (congrArg some (by kernel_rfl))
  f48 := Try.func142.trans (congrArg some (by kernel_rfl))
  f49 := ⟨Try.f143.name, by decide, Try.func143.trans (congrArg some (by kernel_rfl))⟩
  f50 := ⟨Try.f144.name, by decide, Try.func144.trans (congrArg some (by kernel_rfl))⟩
  f57 := ⟨Try.f145.name, by decide, Try.func145.trans (congrArg some (by kernel_rfl))⟩
  t0 := Try.underlying0
  a0 := Try.isAgg0
  z0 := Try.sizeOf0
  v0 := Try.zeroValue0
  t3 := Try.underlying3
  a3 := Try.isAgg3
  z3 := Try.sizeOf3
  v3 := Try.zeroValue3
  t4 := Try.underlying4
  a4 := Try.isAgg4
  z4 := Try.sizeOf4
  v4 := Try.zeroValue4
  t5 := Try.underlying5
  a5 := Try.isAgg5
  z5 := Try.sizeOf5
  v5 := Try.zeroValue5
  t9 := Try.underlying9
  a9 := Try.isAgg9
  z9 := Try.sizeOf9
  v9 := Try.zeroValue9
  t22 := Try.underlying101
  a22 := Try.isAgg101
  z22 := Try.sizeOf101
  v22 := Try.zeroValue101
  t25 := Try.underlying170
  a25 := Try.isAgg170
  z25 := Try.sizeOf170
  v25 := Try.zeroValue170
  t39 := Try.underlying200
  a39 := Try.isAgg200
  z39 := Try.sizeOf200
  v39 := Try.zeroValue200
  t45 := Try.underlying213
  a45 := Try.isAgg213
  z45 := Try.sizeOf213
  v45 := Try.zeroValue213
  t46 := Try.underlying214
  a46 := Try.isAgg214
  z46 := Try.sizeOf214
  v46 := Try.zeroValue214
  t50 := Try.underlying145
  a50 := Try.isAgg145
  z50 := Try.sizeOf145
  v50 := Try.zeroValue145
  t53 := Try.underlying220
  a53 := Try.isAgg220
  z53 := Try.sizeOf220
  v53 := Try.zeroValue220
  t55 := Try.underlying77
  a55 := Try.isAgg77
  z55 := Try.sizeOf77
  v55 := Try.zeroValue77
  t66 := Try.underlying226
  a66 := Try.isAgg226
  z66 := Try.sizeOf226
  v66 := Try.zeroValue226
  t70 := Try.underlying208
  a70 := Try.isAgg208
  z70 := Try.sizeOf208
  v70 := Try.zeroValue208
  t76 := Try.underlying231
  a76 := Try.isAgg231
  z76 := Try.sizeOf231
  v76 := Try.zeroValue231
  t77 := Try.underlying121
  a77 := Try.isAgg121
  z77 := Try.sizeOf121
  v77 := Try.zeroValue121 }
end Go.Proofs.Ythadomboiockhaa.Lo
/-
  The function by which what is found is sorted, and the sort.
-/
namespace Go.Proofs.Ythadomboiockhaa.Lo
open Go.RowKit Go.Shelf Go.Sort Mi
attribute [local go_sem ↓] Go.wp_at_zero Go.wp_at_succ
def cfFd (x y : Fd) : Int := orI (cmpI (x.gen : Int) (y.gen : Int)) (cmpI (x.at_ : Int) (y.at_ : Int))
theorem cfFd_neg (x y : Fd) : cfFd x y < 0 ↔ ltF x.it y.it := by
  unfold cfFd orI ltF
  have e1 : (cmpI (x.gen : Int) (y.gen : Int) = 0) ↔ x.gen = y.gen := by rw [cmpI_zero]; omega
  have e2 : (cmpI (x.gen : Int) (y.gen : Int) < 0) ↔ x.gen < y.gen := by rw [cmpI_neg]; omega
  have e3 : (cmpI (x.at_ : Int) (y.at_ : Int) < 0) ↔ x.at_ < y.at_ := by rw [cmpI_neg]; omega
  show _ ↔ (x.gen < y.gen ∨ (x.gen = y.gen ∧ x.at_ < y.at_))
  by_cases h : cmpI (x.gen : Int) (y.gen : Int) = 0
  · rw [if_pos h, e3]; have := e1.1 h; omega
  · rw [if_neg h, e2]; have : ¬ x.gen = y.gen := fun e => h (e1.2 e); omega
theorem ltOf_cf (x y : Fd) : ltOf cfFd x y = true ↔ ltF x.it y.it := by
  unfold ltOf; rw [decide_eq_true_iff]; exact cfFd_neg x y
theorem ltOf_cf_no (x y : Fd) : ltOf cfFd x y = false ↔ ¬ ltF x.it y.it := by
  rw [← ltOf_cf]; simp
theorem ltFdef (x y : Fd) : ltF x.it y.it ↔ (x.gen < y.gen ∨ (x.gen = y.gen ∧ x.at_ < y.at_)) := Iff.rfl
theorem swoFd : SWO (ltOf cfFd) where
  irrefl x := by rw [ltOf_cf_no, ltFdef]; omega
  trans x y z h1 h2 := by rw [ltOf_cf, ltFdef] at *; omega
  ntrans x y z h1 h2 := by rw [ltOf_cf_no, ltFdef] at *; omega
set_option maxRecDepth 100000 in
set_option maxHeartbeats 3200000 in
theorem closure_any (x y : Fd) (w : World) : Calls Try.prog 87 #[.agg #[.int .i64 (x.at_ : Int), .int .u64 (x.gen : Int), .slice x.A x.b.length x.c], .agg #[.int .i64 (y.at_ : Int), .int .u64 (y.gen : Int), .slice y.A y.b.length y.c]] w
    (fun e w' => e = .returned (.int .i64 (cfFd x y)) ∧ ∃ q os, w' = Sort.grow (w.drewN q) os) := by
  obtain ⟨xs, hxs⟩ : ∃ l : Array Value, l = #[.int .i64 (x.at_ : Int), .int .u64 (x.gen : Int), .slice x.A x.b.length x.c] := ⟨_, rfl⟩
  obtain ⟨ys, hys⟩ : ∃ l : Array Value, l = #[.int .i64 (y.at_ : Int), .int .u64 (y.gen : Int), .slice y.A y.b.length y.c] := ⟨_, rfl⟩
  obtain ⟨w2, hw2⟩ : ∃ w2, w2 = (w.alloc (.cells xs 113)).alloc (.cells ys 113) := ⟨_, rfl⟩
  have B0 := Lib.hid (show Blk w2 w.heap.size xs 113 by rw [hw2]; exact (show Blk (w.alloc _) w.heap.size xs 113 from heap_alloc_new _ _).below ((Below.refl _ _).alloc (Nat.le_refl _) _))
  have B1 := Lib.hid (show Blk w2 (w.heap.size + 1) ys 113 by rw [hw2]; exact heap_alloc2_new _ _ _)
  have HW2 := Lib.hid hw2
  have HXS := Lib.hid hxs
  have HYS := Lib.hid hys
  rw [← hxs, ← hys]
  obtain ⟨cv, hcv⟩ : ∃ v, v = cfFd x y := ⟨_, rfl⟩
  have HCV := Lib.hid hcv
  rw [← hcv]
  clear hxs hys hcv
  go_enter Try.func87, Try.ntmps87
  go_upto_region 1 with fail
  rw [← hw2]
  obtain ⟨b0, hb0⟩ : ∃ b, b = w.heap.size := ⟨_, rfl⟩
  rw [← hb0] at B0 B1
  rw [← hb0]
  clear hw2 hb0
  refine wp_region_held_drew (S := (fun w' => Blk w' b0 xs 113 ∧ Blk w' (b0 + 1) ys 113)) (by kernel_rfl) ⟨(show Blk (World.drew _) _ _ _ from B0.out), (show Blk (World.drew _) _ _ _ from B1.out)⟩ (fun hh => ?_)
  have HH := Lib.hid hh
  clear hh
  refine wpAnyH_take (i := 0) (v := ?vc0) rfl (by kernel_rfl) (by kernel_rfl) (by kernel_rfl) (fun _ _ _ h => h) (Or.inl ⟨by rfl, fun w' _ => ?yc0⟩) HH.out ?_
  case yc0 => (go_simp; try with_reducible rfl)
  refine wpAnyH_take (i := 1) (v := .int .u64 (x.gen : Int)) rfl (by kernel_rfl) (by kernel_rfl) (by kernel_rfl) (fun _ _ _ h => h) (Or.inl ⟨by rfl, fun w' hw' => ?la1⟩) HH.out ?_
  case la1 =>
    have hc : w'.cell? ⟨b0, 1, none⟩ = some (.int .u64 (x.gen : Int)) := by rw [Blk.cell hw'.1 1, HXS.out]; rfl
    go_simp; try with_reducible rfl
  try simp only [List.getElem_toArray, List.getElem_cons_succ, List.getElem_cons_zero, Act.put, List.setIfInBounds_toArray, List.set_cons_zero, List.set_cons_succ]
  try simp only [List.getElem_toArray, List.getElem_cons_succ, List.getElem_cons_zero, Act.put, List.setIfInBounds_toArray, List.set_cons_zero, List.set_cons_succ]
  refine wpAnyH_take (i := 2) (v := ?vc2) rfl (by kernel_rfl) (by kernel_rfl) (by kernel_rfl) (fun _ _ _ h => h) (Or.inl ⟨by rfl, fun w' _ => ?yc2⟩) HH.out ?_
  case yc2 => (go_simp; try with_reducible rfl)
  refine wpAnyH_take (i := 3) (v := .int .u64 (y.gen : Int)) rfl (by kernel_rfl) (by kernel_rfl) (by kernel_rfl) (fun _ _ _ h => h) (Or.inl ⟨by rfl, fun w' hw' => ?la3⟩) HH.out ?_
  case la3 =>
    have hc : w'.cell? ⟨b0 + 1, 1, none⟩ = some (.int .u64 (y.gen : Int)) := by rw [Blk.cell hw'.2 1, HYS.out]; rfl
    go_simp; try with_reducible rfl
  try simp only [List.getElem_toArray, List.getElem_cons_succ, List.getElem_cons_zero, Act.put, List.setIfInBounds_toArray, List.set_cons_zero, List.set_cons_succ]
  refine wpAnyH_take (i := 5) (v := ?vc5) rfl (by kernel_rfl) (by kernel_rfl) (by kernel_rfl) (fun _ _ _ h => h) (Or.inl ⟨by rfl, fun w' _ => ?yc5⟩) HH.out ?_
  case yc5 => (go_simp; try with_reducible rfl)
  try simp only [List.getElem_toArray, List.getElem_cons_succ, List.getElem_cons_zero, Act.put, List.setIfInBounds_toArray, List.set_cons_zero, List.set_cons_succ]
  refine wpAnyH_take (i := 6) (v := .int .i64 (x.at_ : Int)) rfl (by kernel_rfl) (by kernel_rfl) (by kernel_rfl) (fun _ _ _ h => h) (Or.inl ⟨by rfl, fun w' hw' => ?la6⟩) HH.out ?_
  case la6 =>
    have hc : w'.cell? ⟨b0, 0, none⟩ = some (.int .i64 (x.at_ : Int)) := by rw [Blk.cell hw'.1 0, HXS.out]; rfl
    go_simp; try with_reducible rfl
  try simp only [List.getElem_toArray, List.getElem_cons_succ, List.getElem_cons_zero, Act.put, List.setIfInBounds_toArray, List.set_cons_zero, List.set_cons_succ]
  refine wpAnyH_take (i := 7) (v := ?vc7) rfl (by kernel_rfl) (by kernel_rfl) (by kernel_rfl) (fun _ _ _ h => h) (Or.inl ⟨by rfl, fun w' _ => ?yc7⟩) HH.out ?_
  case yc7 => (go_simp; try with_reducible rfl)
  refine wpAnyH_take (i := 8) (v := .int .i64 (y.at_ : Int)) rfl (by kernel_rfl) (by kernel_rfl) (by kernel_rfl) (fun _ _ _ h => h) (Or.inl ⟨by rfl, fun w' hw' => ?la8⟩) HH.out ?_
  case la8 =>
    have hc : w'.cell? ⟨b0 + 1, 0, none⟩ = some (.int .i64 (y.at_ : Int)) := by rw [Blk.cell hw'.2 0, HYS.out]; rfl
    go_simp; try with_reducible rfl
  try simp only [List.getElem_toArray, List.getElem_cons_succ, List.getElem_cons_zero, Act.put, List.setIfInBounds_toArray, List.set_cons_zero, List.set_cons_succ]
  try simp only [List.getElem_toArray, List.getElem_cons_succ, List.getElem_cons_zero, Act.put, List.setIfInBounds_toArray, List.set_cons_zero, List.set_cons_succ]
  refine wpAnyH_ready (rs := [4]) (by kernel_rfl) (by simp) (AllReadyH.cons rfl (fun K hK => ?_) AllReadyH.nil)
  go_simp
  refine (cmpU_any x.gen y.gen _).mono ?_
  rintro e w' ⟨rfl, rfl⟩
  obtain ⟨c1, hc1⟩ : ∃ c, c = cmpI (x.gen : Int) (y.gen : Int) := ⟨_, rfl⟩
  rw [← hc1]
  have HC1 := Lib.hid hc1
  clear hc1
  go_simp
  refine hK.out _ _ HH.out (fun hh => ?_)
  have HH' := Lib.hid hh
  clear hh hK K HH 
  have HH := Lib.hid HH'.out
  clear HH'
  try simp only [List.getElem_toArray, List.getElem_cons_succ, List.getElem_cons_zero, Act.put, List.setIfInBounds_toArray, List.set_cons_zero, List.set_cons_succ]
  refine wpAnyH_ready (rs := [9]) (by kernel_rfl) (by simp) (AllReadyH.cons rfl (fun K hK => ?_) AllReadyH.nil)
  go_simp
  refine (cmpI_any (x.at_ : Int) (y.at_ : Int) _).mono ?_
  rintro e w' ⟨rfl, rfl⟩
  obtain ⟨c2, hc2⟩ : ∃ c, c = cmpI (x.at_ : Int) (y.at_ : Int) := ⟨_, rfl⟩
  rw [← hc2]
  have HC2 := Lib.hid hc2
  clear hc2
  go_simp
  refine hK.out _ _ HH.out (fun hh => ?_)
  have HH' := Lib.hid hh
  clear hh hK K HH 
  have HH := Lib.hid HH'.out
  clear HH'
  try simp only [List.getElem_toArray, List.getElem_cons_succ, List.getElem_cons_zero, Act.put, List.setIfInBounds_toArray, List.set_cons_zero, List.set_cons_succ]
  refine wpAnyH_ready (rs := [10]) (by kernel_rfl) (by simp) (AllReadyH.cons rfl (fun K hK => ?_) AllReadyH.nil)
  rw [if_pos (by rfl)]
  refine wp_buildSliceN 201 2 #[(0, .tmp 9), (1, .tmp 14)] rfl (v := .slice (some ⟨w2.drew.heap.size, 0, none⟩) 2 2) (w' := w2.drew.alloc (.cells #[.int .i64 c1, .int .i64 c2] 3)) (by simp only [List.map_toArray, List.map_cons, List.map_nil]; kernel_rfl) ?_
  have BC := Lib.hid (show Blk (w2.drew.alloc (.cells #[.int .i64 c1, .int .i64 c2] 3)) w2.drew.heap.size #[.int .i64 c1, .int .i64 c2] 3 from heap_alloc_new _ _)
  have bb : Below w2.drew.heap.size w2.drew (w2.drew.alloc (.cells #[.int .i64 c1, .int .i64 c2] 3)) := (Below.refl _ _).alloc (Nat.le_refl _) _
  refine hK.out _ _ ⟨Blk.below HH.out.1 bb, Blk.below HH.out.2 bb⟩ (fun hh => ?_)
  have HH' := Lib.hid hh
  clear hh hK K HH bb
  have HH := Lib.hid HH'.out
  clear HH'
  try simp only [List.getElem_toArray, List.getElem_cons_succ, List.getElem_cons_zero, Act.put, List.setIfInBounds_toArray, List.set_cons_zero, List.set_cons_succ]
  try simp only [List.getElem_toArray, List.getElem_cons_succ, List.getElem_cons_zero, Act.put, List.setIfInBounds_toArray, List.set_cons_zero, List.set_cons_succ]
  refine wpAnyH_ready (rs := [11]) (by kernel_rfl) (by simp) (AllReadyH.cons rfl (fun K hK => ?_) AllReadyH.nil)
  go_simp
  refine (cmpOr_any _ c1 c2 _ BC.out).mono ?_
  rintro e w' ⟨rfl, rfl⟩
  go_simp
  refine hK.out _ _ HH.out (fun hh => ?_)
  have HH' := Lib.hid hh
  clear hh hK K HH 
  have HH := Lib.hid HH'.out
  clear HH'
  refine wpAnyH_take (i := 12) (v := ?vc12) rfl (by kernel_rfl) (by kernel_rfl) (by kernel_rfl) (fun _ _ _ h => h) (Or.inl ⟨by rfl, fun w' _ => ?yc12⟩) HH.out ?_
  case yc12 => (go_simp; try with_reducible rfl)
  try simp only [List.getElem_toArray, List.getElem_cons_succ, List.getElem_cons_zero, Act.put, List.setIfInBounds_toArray, List.set_cons_zero, List.set_cons_succ]
  refine wpAnyH_done (by kernel_rfl) ?_ _
  go_wp2_with fail
  go_ret
  refine ⟨by rw [HCV.out, cfFd, HC1.out, HC2.out]; rfl, 1, #[.cells xs 113, .cells ys 113, .cells #[.int .i64 c1, .int .i64 c2] 3], ?_⟩
  simp only [HW2.out, alloc_eq_grow, grow_grow, drew_grow]
  rfl
/-! ### The row, sorted -/
instance : Inhabited Fd := ⟨⟨0, 0, [], none, 0⟩⟩
theorem fdV_one (x : Fd) : ∀ v ∈ fdV x, v.oneCell' = true := by
  intro v hv
  simp [fdV] at hv
  rcases hv with rfl | rfl | rfl <;> rfl
theorem fds_at {l : List Fd} {k c : Nat} (hk : k < l.length) (hc : c < 3) : (fds l)[k * 3 + c]? = some ((fdV l[k])[c]!) := by
  obtain ⟨h0, h1, h2⟩ := fds_get (List.getElem?_eq_getElem hk)
  have : c = 0 ∨ c = 1 ∨ c = 2 := by omega
  rcases this with rfl | rfl | rfl
  · exact h0
  · exact h1
  · exact h2
theorem flat_fds (d : Array Fd) : flatK fdV 3 d = (fds d.toList).toArray := by
  apply Array.ext
  · rw [size_flatK]; simp [fds_length]
  · intro t h1 h2
    have ht : t < d.size * 3 := by rwa [size_flatK] at h1
    have hk : t / 3 < d.toList.length := by rw [Array.length_toList]; omega
    have e := fds_at (l := d.toList) (c := t % 3) hk (by omega)
    rw [show t / 3 * 3 + t % 3 = t by omega] at e
    have e2 := get_flatK fdV 3 d t ht
    rw [getElem!_pos _ t (by rw [size_flatK]; exact ht)] at e2
    rw [e2]
    have e3 : (fds d.toList).toArray[t]'h2 = (fds d.toList)[t]'(by simpa using h2) := by simp
    rw [e3]
    have e4 := List.getElem?_eq_getElem (l := fds d.toList) (i := t) (by simpa using h2)
    rw [e] at e4
    injection e4 with e4
    rw [← e4, getElem!_pos d (t / 3) (by omega)]
    simp
theorem holds_fds {w : World} {g base n c : Nat} {l : List Fd} (h : w.ownsRow base 113 3 (.slice (some ⟨g, 0, none⟩) n c) n (fds l)) : HoldsK fdV 3 w g 0 l.toArray := by
  intro j hj
  have hf := flat_fds l.toArray
  rw [hf] at hj ⊢
  simp only [id, Nat.zero_add] at *
  have hj' : j < (fds l).length := by simpa using hj
  obtain ⟨g', cap, cur, hv, _, hb, _, _, hsz, htk⟩ := h.2.resolve_left (fun h0 => by cases h0.1)
  injection hv with hv _ hc
  injection hv with hv
  injection hv with hv
  subst hv
  have hB : Blk w g cur 113 := hb
  refine ⟨?_, hB.free j⟩
  rw [hB.cell j, getElem!_pos _ j (by simpa using hj)]
  have hjc : j < n * 3 := by have := h.1; omega
  have e : (cur.toList.take (n * 3))[j]? = some ((fds l)[j]) := by rw [htk, List.getElem?_eq_getElem hj']
  rw [List.getElem?_take_of_lt hjc] at e
  simpa using e
theorem own_sorted {w : World} {g base n c : Nat} {l : List Fd} (h : w.ownsRow base 113 3 (.slice (some ⟨g, 0, none⟩) n c) n (fds l)) (d : Array Fd) (hd : d.size = n) (m : Nat) (os : Array Obj) :
    (sortWorldK fdV 3 w g 0 m d os).ownsRow base 113 3 (.slice (some ⟨g, 0, none⟩) n c) n (fds d.toList) ∧ But (fun k => k = g) w (sortWorldK fdV 3 w g 0 m d os) := by
  have hH := holds_fds h
  have hl : l.toArray.size = n := by have := h.1; rw [fds_length] at this; simp; omega
  obtain ⟨g', cap, cur, hv, hbase, hb, hnc, hcm, hsz, htk⟩ := h.2.resolve_left (fun h0 => by cases h0.1)
  injection hv with hv _ hc
  injection hv with hv
  injection hv with hv
  subst hv
  subst hc
  have hlt : g < w.heap.size := (Array.getElem?_eq_some_iff.1 hb).1
  obtain ⟨Fl, hFl⟩ : ∃ Fl, Fl = fds d.toList := ⟨_, rfl⟩
  have hFz : Fl.length = n * 3 := by rw [hFl, fds_length]; simp [hd]
  have hfl : flatK fdV 3 d = Fl.toArray := by rw [flat_fds, hFl]
  have hmod : ∀ k, k < w.heap.size → (sortWorldK fdV 3 w g 0 m d os).heap[k]? = if g = k then some (.cells (putCells id 0 Fl.toArray cur) 113 (0, 0)) else w.heap[k]? := by
    intro k hk
    unfold sortWorldK putRowK putRow mapBlock
    rw [heap_grow_old _ _ (by simp; exact hk), hfl]
    show ((Sort.ahead w m).heap.modify g _)[k]? = _
    rw [Array.getElem?_modify]
    by_cases e : g = k
    · subst e
      rw [if_pos rfl, if_pos rfl]
      show (w.heap[g]?).map _ = _
      rw [hb]; rfl
    · rw [if_neg e, if_neg e]; rfl
  refine ⟨⟨by rw [fds_length]; simp [hd], .inr ⟨g, c, putCells id 0 Fl.toArray cur, rfl, hbase, ?_, hnc, hcm, ?_, ?_⟩⟩, ?_⟩
  · rw [hmod g hlt, if_pos rfl]
  · rw [putCells, Array.size_mapIdx]; exact hsz
  · rw [← hFl]
    apply List.ext_getElem?
    intro j
    by_cases hj : j < n * 3
    · rw [List.getElem?_take_of_lt hj]
      have hjc : j < cur.size := by rw [hsz]; have := Nat.mul_le_mul_right 3 hnc; omega
      have hjF : j < Fl.length := by omega
      rw [Array.getElem?_toList, putCells, Array.getElem?_mapIdx, Array.getElem?_eq_getElem hjc]
      simp [hjF]
    · rw [List.getElem?_eq_none (by rw [List.length_take]; omega), List.getElem?_eq_none (by omega)]
  · refine ⟨rfl, rfl, rfl, ?_, fun k hk hS => ?_⟩
    · unfold sortWorldK putRowK putRow mapBlock
      rw [size_grow]
      simp [Sort.ahead]
    · rw [hmod k hk, if_neg (fun e => hS e.symm)]
/-- What is found is put in order. -/
theorem sort_any {w : World} {l : List Fd} {A : Option Addr} {n c : Nat} {F : Nat → Prop} (h : (FdL A n c).At w l F) (hn : n < 1000000) :
    Calls Try.prog 86 #[.slice A n c, .func (.func 87) #[] #[]] w (fun e w' => e = .returned (.tuple #[]) ∧ ∃ l', l'.Perm l ∧ l'.Pairwise (fun x y => ¬ ltF y.it x.it) ∧ (FdL A n c).At w' l' F ∧ But F w w') := by
  cases A with
  | none =>
    have hl : l = [] ∧ n = 0 := by
      have h1 := h.1.row.2
      rcases h1 with ⟨_, h0⟩ | ⟨g, cap, cur, hv, _⟩
      · have := fd_len h
        subst h0
        exact ⟨List.eq_nil_of_length_eq_zero this, rfl⟩
      · injection hv with hv; cases hv
    obtain ⟨rfl, rfl⟩ := hl
    have hc := AnyF.slices_SortFunc_none sortFd none c (.func (.func 87) #[] #[]) w
    refine Calls.mono (show Calls Try.prog 86 _ _ _ from hc) ?_
    rintro e w' ⟨rfl, rfl⟩
    exact ⟨rfl, [], List.Perm.refl _, List.Pairwise.nil, h, But.refl _⟩
  | some ad =>
    have hrow := h.1.row
    have hform := hrow.2.resolve_left (fun h0 => by cases h0.1)
    obtain ⟨g, cap, cur, hv, hbase, hb, hnc, hcm, hsz, htk⟩ := hform
    injection hv with hv _ hcc
    injection hv with hv
    subst hv
    subst hcc
    have hlt : g < w.heap.size := (Array.getElem?_eq_some_iff.1 hb).1
    have hl : l.toArray.size = n := by have := fd_len h; simpa using this
    have hg : F g := h.2.1 g (.inl rfl)
    have eg : ∀ args w, (callFunc 87 args).run Try.prog w = .ok (.enter 87 args) w := fun _ _ => by kernel_rfl
    have hC := AnyQ.slices_SortFunc sortFd 3 (fun _ => by kernel_rfl) (fun _ => by kernel_rfl) fdV (fun _ => rfl) fdV_one cfFd swoFd 87 #[] g 0 c l.toArray w eg (fun _ _ _ _ x y => closure_any x y _) (holds_fds hrow) hlt (by rw [hl]; omega)
    rw [hl] at hC
    refine Calls.mono (show Calls Try.prog 86 _ _ _ from hC) ?_
    rintro e w' ⟨rfl, d', m, os, hp, hs, rfl⟩
    have hd : d'.size = n := by rw [hp.1, hl]
    obtain ⟨ho, hbut⟩ := own_sorted hrow d' hd m os
    have hperm : d'.toList.Perm l := by
      have h3 := hp.2.2
      have e1 : d'.extract 0 n = d' := by rw [← hd]; simp
      have e2 : l.toArray.extract 0 n = l.toArray := by rw [← hl]; simp
      rw [e1, e2] at h3
      simpa using h3
    refine ⟨rfl, d'.toList, hperm, ?_, ⟨⟨ho, fun x hx => ?_⟩, ?_, fun k hk => Nat.lt_of_lt_of_le (h.2.2 k hk) hbut.size⟩, hbut.mono (fun k hk => by rw [hk]; exact hg)⟩
    · rw [List.pairwise_iff_getElem]
      intro i j hi hj hij
      have h1 := hs i j (Nat.zero_le _) hij (by rw [Array.length_toList] at hj; omega)
      rw [Array.length_toList] at hi hj
      rw [getElem!_pos d' i hi, getElem!_pos d' j hj, ltOf_cf_no] at h1
      simpa using h1
    · have hx2 := hperm.mem_iff.1 hx
      refine Own.but (h.1.bod x hx2) hbut (fun k hk e => ?_)
      subst e
      obtain ⟨cs, hcs⟩ := row_type (h.1.bod x hx2) k hk
      rw [hb] at hcs
      injection hcs with hcs
      injection hcs with _ hcs
      exact absurd hcs (by decide)
    · rintro k (hk | ⟨x, hx, hk⟩)
      · exact h.2.1 k (.inl hk)
      · exact h.2.1 k (.inr ⟨x, hperm.mem_iff.1 hx, hk⟩)
end Go.Proofs.Ythadomboiockhaa.Lo
/-
  What search tells: all that is found, slot by slot; both devices have it then.
-/
namespace Go.Proofs.Ythadomboiockhaa.Lo
open Go.RowKit Go.Maps Kd Mi Sx Sg
attribute [local go_sem ↓] Go.wp_at_zero Go.wp_at_succ
/-- What is found at the first places, and what the mirror is then. -/
def srchX (f : List UInt8 → List UInt8 → List UInt8) (gf : Int → List UInt8 → Bool) (x : Md) : Nat → Md × List (Nat × Nat × List UInt8)
  | 0 => (x, [])
  | k + 1 => match pickL f ((k + 2 : Nat) : Int) ((srchX f gf x k).1.both gf ((k + 2 : Nat) : Int)) with
    | some y => (((srchX f gf x k).1.write ((k + 2 : Nat) : Int) y).2, (srchX f gf x k).2 ++ [(k + 2, genS y, bodyS y)])
    | none => srchX f gf x k
theorem srch_len (f : List UInt8 → List UInt8 → List UInt8) (gf : Int → List UInt8 → Bool) (x : Md) : ∀ k, (srchX f gf x k).2.length ≤ k
  | 0 => Nat.le_refl _
  | k + 1 => by
    have ih := srch_len f gf x k
    rw [srchX]
    split
    · rw [List.length_append]; simpa using ih
    · omega
theorem foundElt : EltN Try.prog 101 113 (.agg #[.int .i64 0, .int .u64 0, .slice none 0 0]) 3 40 := ⟨Try.underlying101, by kernel_rfl, rfl, by omega, by omega⟩
theorem fd_snoc {w w' : World} {l : List Fd} {A A' : Option Addr} {n c c' : Nat} {F : Nat → Prop} (h : (FdL A n c).At w l F) (x : Fd) {base : Nat} (hb : w.ownsRow base 5 1 (.slice x.A x.b.length x.c) x.b.length (bv x.b))
    (ho : w'.ownsRow 0 113 3 (.slice A' (n + 1) c') (n + 1) (fds l ++ fdV x)) (hg : w.grownBy w' (Value.slice A n c).ownBlock) (hl : (Value.slice A' (n + 1) c').ownBlock = (Value.slice A n c).ownBlock ∨ (Value.slice A' (n + 1) c').ownBlock = some w.heap.size) :
    (FdL A' (n + 1) c').At w' (l ++ [x]) (fun k => F k ∨ (Value.slice x.A x.b.length x.c).ownBlock = some k ∨ (k = w.heap.size ∧ k < w'.heap.size)) ∧ But F w w' := by
  have hbut : But (fun k => (Value.slice A n c).ownBlock = some k) w w' := (But.refl w).grown hg (fun k hk => .inl hk)
  have hdis : ∀ {xs : List Value} {v : Value} {m b0 : Nat}, w.ownsRow b0 5 1 v m xs → ∀ k, v.ownBlock = some k → (Value.slice A n c).ownBlock = some k → False := by
    intro xs v m b0 hv k h1 h2
    obtain ⟨cs, e1⟩ := row_type hv k h1
    obtain ⟨cs', e2⟩ := row_type h.1.row k h2
    rw [e1] at e2
    injection e2 with e2
    injection e2 with _ e2
    exact absurd e2 (by decide)
  refine ⟨⟨⟨by rw [fds_append, fds, fds, List.append_nil]; exact ho, fun y hy => ?_⟩, ?_, ?_⟩, hbut.mono (fun k hk => h.2.1 k (.inl hk))⟩
  · rw [List.mem_append, List.mem_singleton] at hy
    rcases hy with hy | rfl
    · exact Own.but (h.1.bod y hy) hbut (hdis (h.1.bod y hy))
    · exact own_more (Own.but hb hbut (hdis hb)) (Nat.zero_le _)
  · rintro k (hk | ⟨y, hy, hk⟩)
    · rcases hl with e | e
      · rw [e] at hk; exact .inl (h.2.1 k (.inl hk))
      · rw [e] at hk
        injection hk with hk
        exact .inr (.inr ⟨hk.symm, by rw [← hk]; exact (ho.lt w.heap.size e).2⟩)
    · rw [List.mem_append, List.mem_singleton] at hy
      rcases hy with hy | rfl
      · exact .inl (h.2.1 k (.inr ⟨y, hy, hk⟩))
      · exact .inr (.inl hk)
  · rintro k (hk | hk | hk)
    · exact Nat.lt_of_lt_of_le (h.2.2 k hk) hbut.size
    · exact Nat.lt_of_lt_of_le (hb.lt k hk).2 hbut.size
    · exact hk.2
theorem logr_mlA {C : Duo} {G : Gd} {g q : Nat} {ci : SCiph} {w : World} {s : Mr C} {r : Rl} {F : Nat → Prop} (h : (LogR C G g q ci).At w (s, r) F) : ∃ F1, (ML C G g).At w s F1 ∧ ∀ {v : Value} {e : Ending} {s' : Mr C} {w' : World}, RetA (ML C G g) v s' F1 w e w' → RetA (LogR C G g q ci) v (s', r) F w e w' := by
  obtain ⟨F1, F2, h1, ⟨bm, ho, hq, hbm, h3⟩, hd, hF⟩ := h
  refine ⟨F1, h1, ?_⟩
  rintro v e s' w' ⟨rfl, F', hm⟩
  exact ⟨rfl, _, fin_own ⟨hq, hbm, h3, hd, hF⟩ hm (ho.but hm.but (fun h => hd q h hq) (fun h => hd bm h hbm)) (But.refl _)⟩
section
variable {p g1 g2 g q : Nat} {G : Gd} {ci : SCiph} {w w' : World} {s s' : Mr (Mu.one p g1 g2)} {r : Rl} {F : Nat → Prop} {x : Md} {m : Nat}
/-- So far. -/
def SrR (p g1 g2 g q : Nat) (G : Gd) (ci : SCiph) (w : World) (r : Rl) (F : Nat → Prop) (x : Md) (m k : Nat) (v : Value) (w' : World) : Prop :=
  ∃ (A : Option Addr) (n c : Nat) (l : List Fd) (s' : Mr (Mu.one p g1 g2)) (F' FF : Nat → Prop), v = .slice A n c ∧ Mv (LogR (Mu.one p g1 g2) G g q ci) w F w' (s', r) F' ∧ Mu.Sees s' (srchX ci.f G.f x k).1 (m + 2 * k) ∧ Mu.Dry s' (srchX ci.f G.f x k).1 ∧ (FdL A n c).At w' l FF ∧ l.map Fd.it = (srchX ci.f G.f x k).2 ∧ (∀ j, FF j → w.heap.size ≤ j) ∧ (∀ j, F' j → FF j → False)
theorem SrR.below {k : Nat} {v : Value} {w1 : World} (h : SrR p g1 g2 g q G ci w r F x m k v w1) (hb : Below w1.heap.size w1 w') : SrR p g1 g2 g q G ci w r F x m k v w' := by
  obtain ⟨A, n, c, l, s', F', FF, h1, h2, h3, h4, h5, h6⟩ := h
  exact ⟨A, n, c, l, s', F', FF, h1, h2.below hb, h3, h4, (FdL A n c).below h5 hb, h6⟩
set_option maxRecDepth 100000 in
set_option maxHeartbeats 12800000 in
theorem search_any (h : (LogR (Mu.one p g1 g2) G g q ci).At w (s, r) F) (hs : Mu.Sees s x m) (hd : Mu.Dry s x) (hm : m + 2 * (r.segs * r.size) < 900000) :
    Calls Try.prog 85 #[.pointer (some ⟨q, 0, none⟩)] w (fun e w' => ∃ v, e = .returned v ∧ SrR p g1 g2 g q G ci w r F x m (r.segs * r.size) v w') := by
  obtain ⟨bm, ho⟩ := logr_own h
  have hok := ho.ok
  have c2 : w.cell? ⟨q, 2, none⟩ = some (.int .i64 (r.segs : Int)) := ho.blk.cell 2
  have hsm := hok.small
  have HSM := Lib.hid (show r.segs ≤ 64 ∧ r.size ≤ 32 by omega)
  have HOK := Lib.hid hok
  have HM := Lib.hid hm
  have S0 := Lib.hid (show SrR p g1 g2 g q G ci w r F x m 0 (.slice none 0 0) w from ⟨none, 0, 0, [], s, F, fun _ => False, rfl, Mv.start h, hs, hd, ⟨⟨World.ownsRow_nil _ _ _ _, fun y hy => by cases hy⟩, (fun k hk => by rcases hk with hk | ⟨y, hy, _⟩ <;> (first | cases hk | cases hy)), fun k hk => hk.elim⟩, rfl, fun j hj => hj.elim, fun j _ hj => hj.elim⟩)
  clear h ho hs hd hm hok hsm
  go_enter Try.func85, Try.ntmps85
  go_wp2_with fail
  go_loopw [2, 15] (fun v i wr => ∃ a : Nat, a ≤ r.segs ∧ i = .int .i64 a ∧ Hid (SrR p g1 g2 g q G ci w r F x m (a * r.size) v wr)) (fun _ i _ => r.segs - (intOf i).toNat)
  case atStart => exact ⟨0, Nat.zero_le _, rfl, by rw [Nat.zero_mul]; exact S0⟩
  case round =>
    obtain ⟨a, ha, rfl, HR⟩ := hrel
    by_cases hlt : a < r.segs
    · have HLT := Lib.hid hlt
      have j0 : (0 : Int) ≤ (a : Int) := by omega
      have j1 : (a : Int) < (r.segs : Int) := by omega
      have wp1 : IntKind.i64.wrap ((a : Int) + 1) = ((a + 1 : Nat) : Int) := IntWalk.i64_in _ (by have := HSM.out; omega)
      have hq : ∃ bm, RlO g q bm ci wr r := by
        obtain ⟨A, n, c, l, s', F', FF, _, h2, _⟩ := HR.out
        exact logr_own h2.at_
      obtain ⟨bm2, OR⟩ := hq
      have c3 : wr.cell? ⟨q, 3, none⟩ = some (.int .i64 (r.size : Int)) := OR.blk.cell 3
      clear ha hlt OR
      go_wp2_with fail
      go_loopw [2, 23] (fun v i wr => ∃ b : Nat, b ≤ r.size ∧ i = .int .i64 b ∧ Hid (SrR p g1 g2 g q G ci w r F x m (a * r.size + b) v wr)) (fun _ i _ => r.size - (intOf i).toNat)
      case atStart => exact ⟨0, Nat.zero_le _, rfl, HR⟩
      case round =>
        obtain ⟨b, hb, rfl, HR1⟩ := hrel
        by_cases hlb : b < r.size
        · have HLB := Lib.hid hlb
          have k0 : (0 : Int) ≤ (b : Int) := by omega
          have k1 : (b : Int) < (r.size : Int) := by omega
          have wp2 : IntKind.i64.wrap ((b : Int) + 1) = ((b + 1 : Nat) : Int) := IntWalk.i64_in _ (by have := HSM.out; omega)
          obtain ⟨k, hk⟩ : ∃ k, k = a * r.size + b := ⟨_, rfl⟩
          have hkN : k + 1 ≤ r.segs * r.size := by
            have h1 : (a + 1) * r.size ≤ r.segs * r.size := Nat.mul_le_mul_right _ HLT.out
            rw [Nat.add_mul, Nat.one_mul] at h1
            omega
          have hN : r.segs * r.size ≤ 64 * 32 := Nat.mul_le_mul HSM.out.1 HSM.out.2
          have hat : 2 + (a : Int) * (r.size : Int) + (b : Int) = ((k + 2 : Nat) : Int) := by rw [hk]; push_cast; omega
          have hse := fun W => sector_yes (r.segs : Int) (r.size : Int) (a : Int) (b : Int) ⟨HOK.out.shape, by omega, by omega⟩ W
          simp only [hat] at hse
          have HSE := Lib.hid hse
          have HR2 := HR1.out
          rw [← hk] at HR2
          obtain ⟨A, n, c, l, s1, F1, FF, rfl, hmv, hse1, hdr, hfd, hit, hf1, hf2⟩ := HR2
          have HKN := Lib.hid (show k + 1 ≤ r.segs * r.size ∧ k < 2048 ∧ m + 2 * k < 900000 by have := HM.out; omega)
          have HK := Lib.hid hk
          have M1 := Lib.hid hmv
          have SE1 := Lib.hid hse1
          have DR1 := Lib.hid hdr
          have FD1 := Lib.hid hfd
          have HIT := Lib.hid hit
          have HFF := Lib.hid (And.intro hf1 hf2)
          have FD1L := Lib.hid (show ∀ j, FF j → j < wr.heap.size from hfd.2.2)
          have MSZ := Lib.hid (And.intro hmv.but.size (show ∀ j, F1 j → j < wr.heap.size from (LogR (Mu.one p g1 g2) G g q ci).lt hmv.at_))
          have HNK := Lib.hid (show n ≤ k by
            have h1 := srch_len ci.f G.f x k
            rw [← hit, List.length_map, fd_len hfd] at h1
            exact h1)
          have hno : ∀ W, Below wr.heap.size wr W → Calls Try.prog 115 #[.pointer (some ⟨q, 0, none⟩), .int .i64 ((k + 2 : Nat) : Int)] W (RetNw ((k + 2 : Nat) : Int) (pickL ci.f ((k + 2 : Nat) : Int) ((srchX ci.f G.f x k).1.both G.f ((k + 2 : Nat) : Int))) W) := fun W hb => by
            have hc := newest_any ((LogR (Mu.one p g1 g2) G g q ci).below hmv.at_ hb) ((k + 2 : Nat) : Int)
            rwa [hse1.both] at hc
          obtain ⟨o, hoo⟩ : ∃ o, o = pickL ci.f ((k + 2 : Nat) : Int) ((srchX ci.f G.f x k).1.both G.f ((k + 2 : Nat) : Int)) := ⟨_, rfl⟩
          simp only [← hoo] at hno
          have HNO := Lib.hid hno
          have HOO := Lib.hid hoo
          have HFS := Lib.hid (show (fsO o).length = 128 by
            cases hx : o with
            | none => exact zeroS_length
            | some y =>
              have h1 := (pickL_ok (hoo.symm.trans hx)).2
              rw [← hse1.both] at h1
              obtain ⟨F9, hml, _⟩ := logr_mlA hmv.at_
              unfold bothL at h1
              split at h1
              · exact bothTo_len hml ((k + 2 : Nat) : Int) 2 (Nat.le_refl _) y h1
              · cases h1)
          obtain ⟨bm2, OR⟩ := logr_own hmv.at_
          have cq2 : wr.cell? ⟨q, 2, none⟩ = some (.int .i64 (r.segs : Int)) := OR.blk.cell 2
          have cq3 : wr.cell? ⟨q, 3, none⟩ = some (.int .i64 (r.size : Int)) := OR.blk.cell 3
          have c0s := fun W (h : RlO g q bm2 ci W r) => (show W.cell? ⟨q, 0, none⟩ = some (.pointer (some ⟨g, 0, none⟩)) from h.blk.cell 0)
          obtain ⟨z, hz0⟩ : ∃ z : List UInt8, z = zeroS := ⟨_, rfl⟩
          have hz : ∀ W, (zeroValue 38).run Try.prog W = .ok (.agg (bva z)) W := fun _ => by rw [hz0]; kernel_rfl
          have hzf : ∀ W, (zeroValue 113).run Try.prog W = .ok (.agg #[.int .i64 0, .int .u64 0, .slice none 0 0]) W := fun _ => by kernel_rfl
          have HZ3 := Lib.hid (show z.length = 128 by rw [hz0]; exact zeroS_length)
          obtain ⟨y1, hy1⟩ : ∃ y, y = fsO o := ⟨_, rfl⟩
          have HY3 := Lib.hid (show y1.length = 128 by rw [hy1]; exact HFS.out)
          have HIY : Hid ((Try.prog.info? 38).map (·.size) = some (bva y1).size) := by rw [bva_size, HY3.out]; exact info_sec
          have HY1 := Lib.hid hy1
          obtain ⟨ka, hka⟩ : ∃ v : Int, v = ((k + 2 : Nat) : Int) := ⟨_, rfl⟩
          obtain ⟨fa, hfa⟩ : ∃ v : Int, v = faO ka o := ⟨_, rfl⟩
          obtain ⟨fg, hfg⟩ : ∃ v : Nat, v = fgO o := ⟨_, rfl⟩
          obtain ⟨os, hos⟩ : ∃ v : Bool, v = o.isSome := ⟨_, rfl⟩
          have HFA := Lib.hid (And.intro hfa (And.intro hfg hos))
          have HKA := Lib.hid hka
          rw [← hka] at HSE HNO
          clear hb hlb hk hkN hN hat hse hse1 hdr hfd hit hf1 hf2 hno hoo hmv OR hz0 hy1 hfa hfg hos hka HR1
          go_wp2_with fail
          refine (HSE.out wr).mono ?_
          rintro e w2 ⟨rfl, bw2⟩
          have BW2 := Lib.hid bw2
          clear bw2 cq2 cq3
          go_wp2_with fail
          refine (HNO.out w2 BW2.out).mono ?_
          rintro e w3 ⟨Ab, nb, cb, he, hown, bw3⟩
          rw [← HFA.out.1, ← HFA.out.2.1, ← HFA.out.2.2, ← HY1.out] at he
          subst he
          have BW3 := Lib.hid (BW2.out.trans (bw3.mono BW2.out.size))
          have OB3 := Lib.hid (show w3.ownsRow wr.heap.size 5 1 (.slice Ab nb cb) nb (bv (fbO o)) from own_more hown BW2.out.size)
          clear hown bw3 BW2
          go_wp2_with (show wpList _ _ _ ({ dst := none, op := .store 38 (.tmp 8) (.tmp 41), type := _, pos := _, after := _, guard := _ } :: _) _ _; apply Classical.byContradiction; intro hneg)
          refine hneg ?_
          clear hneg
          refine wpList_store_row rfl 38 (.tmp 8) (.tmp 41) rfl (w3.heap.size + 1) (bva y1) rfl rfl 38 (bva z) (heap_alloc2_new _ _ _) HIY.out (by rw [bva_size, bva_size, HY3.out, HZ3.out]) (bva_one _) ?_
          obtain ⟨w4, hw4⟩ : ∃ w4, w4 = World.setRow ((w3.alloc (.cells #[.int .i64 fa, .int .u64 (fg : Int), .slice Ab nb cb] 113)).alloc (.cells (bva z) 38)) (w3.heap.size + 1) (bva y1) := ⟨_, rfl⟩
          have bw : Below w3.heap.size w3 w4 := by rw [hw4]; exact below_setRow (((Below.refl _ _).alloc (Nat.le_refl _) _).alloc (by simp) _) (by omega) _
          have X7 := Lib.hid (show Blk w4 w3.heap.size #[.int .i64 fa, .int .u64 (fg : Int), .slice Ab nb cb] 113 by
            rw [hw4]
            exact Blk.but (S := fun k => k = w3.heap.size + 1) ((show Blk (w3.alloc _) w3.heap.size _ 113 from heap_alloc_new _ _).below ((Below.refl _ _).alloc (Nat.le_refl _) _)) (But.setRow (S := fun k => k = w3.heap.size + 1) (But.refl _) (Or.inl rfl) _) (by omega))
          have X8 := Lib.hid (show Blk w4 (w3.heap.size + 1) (bva y1) 38 by rw [hw4]; exact setRow_heap _ _ _ _ _ _ (heap_alloc2_new _ _ _))
          have BW4 := Lib.hid (BW3.out.trans (bw.mono BW3.out.size))
          have OB4 := Lib.hid (own_below OB3.out bw)
          rw [← hw4]
          obtain ⟨b7, hb7⟩ : ∃ b, b = w3.heap.size := ⟨_, rfl⟩
          have HB7 := Lib.hid (show wr.heap.size ≤ b7 by rw [hb7]; exact BW3.out.size)
          rw [← hb7] at X7 X8
          rw [← hb7]
          clear hw4 bw BW3 OB3 hb7 HSE HNO
          have M4 := Lib.hid (M1.out.below BW4.out)
          have FD4 := Lib.hid ((FdL A n c).below FD1.out BW4.out)
          clear M1 FD1
          have h70 : w4.cell? ⟨b7, 0, none⟩ = some (.int .i64 fa) := X7.out.cell 0
          have h71 : w4.cell? ⟨b7, 1, none⟩ = some (.int .u64 (fg : Int)) := X7.out.cell 1
          have h72 : w4.cell? ⟨b7, 2, none⟩ = some (.slice Ab nb cb) := X7.out.cell 2
          cases o with
          | none =>
            obtain rfl : os = false := HFA.out.2.2
            have HNX := Lib.hid (show srchX ci.f G.f x (k + 1) = srchX ci.f G.f x k by rw [srchX, ← HOO.out])
            go_wp2_with fail
            go_round
            case rel =>
              refine ⟨b + 1, HLB.out, rfl, Lib.hid ?_⟩
              rw [← Nat.add_assoc, ← HK.out]
              refine ⟨A, n, c, l, s1, F1, FF, rfl, M4.out, ?_, ?_, FD4.out, ?_, HFF.out.1, HFF.out.2⟩
              · rw [HNX.out]; exact SE1.out.more (by omega)
              · rw [HNX.out]; exact DR1.out
              · rw [HNX.out]; exact HIT.out
            case measure => have := HLB.out; simp [intOf]; omega
          | some y =>
            obtain rfl : os = true := HFA.out.2.2
            go_wp2_with (at_builtin; apply Classical.byContradiction; intro hneg)
            refine hneg ?_
            clear hneg
            have hnb : (bodyS y).length = nb := by
              have h1 := OB4.out.1
              rw [show fbO (some y) = bodyS y from rfl, bv_length] at h1
              omega
            subst hnb
            have hfa : fa = ((k + 2 : Nat) : Int) := by rw [HFA.out.1, HKA.out]; rfl
            have hfg : fg = genS y := HFA.out.2.1
            obtain ⟨w5, hw5⟩ : ∃ W, W = w4.alloc (.cells #[.int .i64 fa, .int .u64 (fg : Int), .slice Ab (bodyS y).length cb] 113) := ⟨_, rfl⟩
            have bw : Below w4.heap.size w4 w5 := by rw [hw5]; exact (Below.refl _ _).alloc (Nat.le_refl _) _
            have X9 := Lib.hid (show Blk w5 w4.heap.size #[.int .i64 fa, .int .u64 (fg : Int), .slice Ab (bodyS y).length cb] 113 by rw [hw5]; exact heap_alloc_new _ _)
            rw [← hw5]
            obtain ⟨b9, hb9⟩ : ∃ b, b = w4.heap.size := ⟨_, rfl⟩
            rw [← hb9] at X9
            rw [← hb9]
            have BW5 := Lib.hid (BW4.out.trans (bw.mono BW4.out.size))
            have OB5 := Lib.hid (own_below OB4.out bw)
            have M5 := Lib.hid (M4.out.below bw)
            have FD5 := Lib.hid ((FdL A n c).below FD4.out bw)
            have X85 := Lib.hid (X8.out.below bw)
            clear hw5 bw hb9 OB4 M4 FD4 X7 X8 h70 h71 h72 BW4
            have RA := Lib.hid (show Rd w5.heap.size w5 (some ⟨b9, 0, none⟩) [.int .i64 fa, .int .u64 (fg : Int), .slice Ab (bodyS y).length cb] from fun j v hv => ⟨_, rfl, X9.out.lt, by rw [addr0, X9.out.cell]; simpa using hv⟩)
            refine wpList_appN _ rfl (.tmp 44) (.tmp 46) 101 rfl foundElt (base := 0) (v := .slice A n c) (n := n) (xs := fds l) rfl FD5.out.1.row (m := 1) rfl RA.out (by rfl) (by simp [Value.oneCell']) (by have := HNK.out; have := HKN.out; omega) (Nat.zero_le _) ?_
            intro A6 c6 w6 ho6 hg6 hl6
            obtain ⟨fd6, bt6⟩ := fd_snoc FD5.out ⟨k + 2, genS y, bodyS y, Ab, cb⟩ OB5.out (by rw [show fdV ⟨k + 2, genS y, bodyS y, Ab, cb⟩ = [.int .i64 fa, .int .u64 (fg : Int), .slice Ab (bodyS y).length cb] by rw [hfa, hfg]; rfl]; exact ho6) hg6 hl6
            have FD6 := Lib.hid fd6
            have M6 := Lib.hid (M5.out.own bt6 HFF.out.1 HFF.out.2)
            have X86 := Lib.hid (X85.out.but bt6 (fun hf => by have h1 := FD1L.out _ hf; have := HB7.out; omega))
            have HFF6 := Lib.hid (show (∀ j, (FF j ∨ (Value.slice Ab (bodyS y).length cb).ownBlock = some j ∨ (j = w5.heap.size ∧ j < w6.heap.size)) → w.heap.size ≤ j) ∧ (∀ j, F1 j → (FF j ∨ (Value.slice Ab (bodyS y).length cb).ownBlock = some j ∨ (j = w5.heap.size ∧ j < w6.heap.size)) → False) by
              have hb := fun j hj => (OB5.out.lt j hj).1
              have hwr : w.heap.size ≤ wr.heap.size := MSZ.out.1
              have hf1 := MSZ.out.2
              refine ⟨fun j hj => ?_, fun j h1 hj => ?_⟩
              · rcases hj with hj | hj | hj
                · exact HFF.out.1 j hj
                · have := hb j hj; omega
                · have := BW5.out.size; omega
              · have h2 := hf1 j h1
                rcases hj with hj | hj | hj
                · exact HFF.out.2 j h1 hj
                · have := hb j hj; omega
                · have := BW5.out.size; omega)
            clear fd6 bt6 ho6 hg6 hl6 FD5 M5 X85 OB5 RA X9
            obtain ⟨bm6, O6⟩ := logr_own M6.out.at_
            have m6d := M6.out.below (Below.refl w6.heap.size w6).drew
            obtain ⟨F9, hml, hback⟩ := logr_mlA m6d.at_
            have hch := mchoose_any hml SE1.out.ok ka y1 HY3.out (Nat.lt_of_le_of_lt SE1.out.most HKN.out.2.2)
            obtain ⟨ce, hce⟩ : ∃ e, e = (s1.choose ka y1).1 := ⟨_, rfl⟩
            rw [← hce] at hch
            have M6D := Lib.hid m6d
            have HCH := Lib.hid (hch.mono fun e w' hr => hback hr)
            have FD6D := Lib.hid ((FdL A6 (n + 1) c6).below FD6.out (Below.refl w6.heap.size w6).drew)
            have hy : y1 = y := HY1.out
            have HNX := Lib.hid (show srchX ci.f G.f x (k + 1) = (((srchX ci.f G.f x k).1.write ka y1).2, (srchX ci.f G.f x k).2 ++ [(k + 2, genS y, bodyS y)]) by rw [srchX, ← HOO.out, hy, HKA.out])
            clear hml hback hch m6d hce hy
            go_wp2_with fail
            refine wp_region_held_drew (S := (fun w' => w'.cell? ⟨q, 0, none⟩ = some (.pointer (some ⟨g, 0, none⟩)) ∧ Blk w' (b7 + 1) (bva y1) 38)) (by kernel_rfl) ⟨(show (World.drew _).cell? _ = _ from O6.blk.cell 0), (show Blk (World.drew _) _ _ _ from X86.out)⟩ (fun hh => ?_)
            have HH := Lib.hid hh
            clear hh
            refine wpAnyH_take (i := 0) (v := ?vh0) rfl (by kernel_rfl) (by kernel_rfl) (by kernel_rfl) (fun _ _ _ h => h) (Or.inl ⟨by rfl, fun w' _ => ?yh0⟩) HH.out ?_
            case yh0 => (go_simp; try with_reducible rfl)
            refine wpAnyH_take (i := 1) (v := ?vh1) rfl (by kernel_rfl) (by kernel_rfl) (by kernel_rfl) (fun _ _ _ h => h) (Or.inl ⟨by rfl, fun w' _ => ?yh1⟩) HH.out ?_
            case yh1 => (go_simp; try with_reducible rfl)
            try simp only [List.getElem_toArray, List.getElem_cons_succ, List.getElem_cons_zero, Act.put, List.setIfInBounds_toArray, List.set_cons_zero, List.set_cons_succ]
            refine wpAnyH_take (i := 2) (v := ?vh2) rfl (by kernel_rfl) (by kernel_rfl) (by kernel_rfl) (fun _ _ _ h => h) (Or.inl ⟨by rfl, fun w' _ => ?yh2⟩) HH.out ?_
            case yh2 => (go_simp; try with_reducible rfl)
            refine wpAnyH_take (i := 3) (v := .pointer (some ⟨g, 0, none⟩)) rfl (by kernel_rfl) (by kernel_rfl) (by kernel_rfl) (fun _ _ _ h => h) (Or.inl ⟨by rfl, fun w' hw' => ?lw3⟩) HH.out ?_
            case lw3 => (have hc := hw'.1; go_simp; try with_reducible rfl)
            try simp only [List.getElem_toArray, List.getElem_cons_succ, List.getElem_cons_zero, Act.put, List.setIfInBounds_toArray, List.set_cons_zero, List.set_cons_succ]
            refine wpAnyH_take (i := 4) (v := ?vh4) rfl (by kernel_rfl) (by kernel_rfl) (by kernel_rfl) (fun _ _ _ h => h) (Or.inl ⟨by rfl, fun w' _ => ?yh4⟩) HH.out ?_
            case yh4 => (go_simp; try with_reducible rfl)
            try simp only [List.getElem_toArray, List.getElem_cons_succ, List.getElem_cons_zero, Act.put, List.setIfInBounds_toArray, List.set_cons_zero, List.set_cons_succ]
            refine wpAnyH_take (i := 5) (v := .agg (bva y1)) rfl (by kernel_rfl) (by kernel_rfl) (by kernel_rfl) (fun _ _ _ h => h) (Or.inl ⟨by rfl, fun w' hw' => ?yh5⟩) HH.out ?_
            case yh5 => exact exec_load 38 (.tmp 8) rfl rfl hw'.2 Try.underlying38 rfl HIY.out
            try simp only [List.getElem_toArray, List.getElem_cons_succ, List.getElem_cons_zero, Act.put, List.setIfInBounds_toArray, List.set_cons_zero, List.set_cons_succ]
            refine wpAnyH_ready (rs := [6]) (by kernel_rfl) (by simp) (AllReadyH.cons rfl (fun K hK => ?_) AllReadyH.nil)
            go_simp
            refine HCH.out.mono ?_
            rintro e w7 ⟨rfl, F7, hm7⟩
            have M7 := Lib.hid (M6D.out.trans hm7)
            have O7' : w7.cell? ⟨q, 0, none⟩ = some (.pointer (some ⟨g, 0, none⟩)) := (logr_own hm7.at_).elim fun _ O => O.blk.cell 0
            have X87 := Lib.hid ((show Blk w6.drew (b7 + 1) _ _ from X86.out).but hm7.but (fun hf => by have h1 := MSZ.out.2 _ hf; have := HB7.out; omega))
            have FD7 := Lib.hid ((FdL A6 (n + 1) c6).but FD6D.out hm7.but (fun j h1 h2 => HFF6.out.2 j h2 h1))
            have HD7 := Lib.hid (fun j (h1 : F7 j) h2 => (hm7.new j h1).elim (fun h => HFF6.out.2 j h h2) (fun h => by have h3 := FD6D.out.2.2 j h2; omega))
            clear hm7
            go_simp
            refine hK.out _ _ ⟨O7', X87.out⟩ (fun hh => ?_)
            have HH' := Lib.hid hh
            clear hh hK K HH M6D FD6D FD6 M6 X86 HCH O7'
            have HH := Lib.hid HH'.out
            clear HH'
            try simp only [List.getElem_toArray, List.getElem_cons_succ, List.getElem_cons_zero, Act.put, List.setIfInBounds_toArray, List.set_cons_zero, List.set_cons_succ]
            refine wpAnyH_done (by kernel_rfl) ?_ _
            clear HH
            go_wp2_with fail
            go_round
            case rel =>
              refine ⟨b + 1, HLB.out, rfl, Lib.hid ?_⟩
              rw [← Nat.add_assoc, ← HK.out]
              refine ⟨A6, n + 1, c6, l ++ [⟨k + 2, genS y, bodyS y, Ab, cb⟩], (s1.choose ka y1).2, F7, _, rfl, M7.out, ?_, ?_, FD7.out, ?_, HFF6.out.1, HD7.out⟩
              · rw [HNX.out]; exact (SE1.out.choose ka y1).2.more (by omega)
              · rw [HNX.out]; exact DR1.out.choose SE1.out ka y1
              · rw [HNX.out, List.map_append, HIT.out]; rfl
            case measure => have := HLB.out; simp [intOf]; omega
        · obtain rfl : r.size = b := by omega
          go_wp2_with fail
          go_round
          case rel => exact ⟨a + 1, HLT.out, rfl, by rw [Nat.add_mul, Nat.one_mul]; exact HR1⟩
          case measure => have := HLT.out; simp [intOf]; omega
    · obtain rfl : r.segs = a := by omega
      go_wp2_with fail
      go_ret
      exact ⟨_, rfl, HR.out⟩
end
end Go.Proofs.Ythadomboiockhaa.Lo
/-
  What Open tells: the log that stands on the mirror, and all that was found in it, in its order.
-/
namespace Go.Proofs.Ythadomboiockhaa.Lo
open Go.RowKit Go.Maps Kd Mi Sx Sg
attribute [local go_sem ↓] Go.wp_at_zero Go.wp_at_succ
theorem srch_mem (f : List UInt8 → List UInt8 → List UInt8) (gf : Int → List UInt8 → Bool) (x : Md) : ∀ k, ∀ y ∈ (srchX f gf x k).2, 2 ≤ y.1 ∧ y.1 < 2 + k ∧ y.2.1 < 18446744073709551616
  | 0 => fun y hy => by cases hy
  | k + 1 => fun y hy => by
    have ih := srch_mem f gf x k
    rw [srchX] at hy
    split at hy
    · rw [List.mem_append, List.mem_singleton] at hy
      rcases hy with hy | rfl
      · obtain ⟨h1, h2, h3⟩ := ih y hy; exact ⟨h1, by omega, h3⟩
      · exact ⟨by show 2 ≤ k + 2; omega, by show k + 2 < 2 + (k + 1); omega, genS_lt _⟩
    · obtain ⟨h1, h2, h3⟩ := ih y hy; exact ⟨h1, by omega, h3⟩
theorem logr_step {C : Duo} {G : Gd} {g q : Nat} {ci : SCiph} {w : World} {s : Mr C} {r : Rl} {F : Nat → Prop} (h : (LogR C G g q ci).At w (s, r) F) :
    ∃ bm, RlO g q bm ci w r ∧ F q ∧ F bm ∧ ∀ {w' : World} {r' : Rl}, RlO g q bm ci w' r' → But (fun k => k = q ∨ k = bm) w w' → ∃ F', Mv (LogR C G g q ci) w F w' (s, r') F' := by
  obtain ⟨F1, F2, h1, ⟨bm, ho, hq, hbm, h3⟩, hd, hF⟩ := h
  exact ⟨bm, ho, (hF q).2 (.inr hq), (hF bm).2 (.inr hbm), fun hr hb => ⟨_, fin_own ⟨hq, hbm, h3, hd, hF⟩ (Mv.start h1) hr hb⟩⟩
theorem open_nilM (ci : Value) (a b : Int) (w : World) : Calls Try.prog 41 #[.pointer none, ci, .agg #[.int .i64 a, .int .i64 b]] w (RetB (.tuple #[.pointer none, .slice none 0 0, .int .i64 1]) w) := by
  have c00 : (w.alloc (.cells #[.int .i64 a, .int .i64 b] 71)).cell? ⟨w.heap.size, 0, none⟩ = some (.int .i64 a) := (show Blk _ w.heap.size #[.int .i64 a, .int .i64 b] 71 from heap_alloc_new _ _).cell 0
  have BB := Lib.hid (show Below w.heap.size w (w.alloc (.cells #[.int .i64 a, .int .i64 b] 71)) from (Below.refl _ _).alloc (Nat.le_refl _) _)
  go_enter Try.func41, Try.ntmps41
  go_wp2_with fail
  refine (lnew_nilM ci a b _).mono ?_
  rintro e w2 ⟨rfl, bw⟩
  have B2 := Lib.hid (BB.out.trans (bw.mono BB.out.size))
  clear bw
  go_wp2_with fail
  exact bodyPost_ret (results_tmp3 Try.results41 _ _ _) rfl ⟨rfl, B2.out⟩
theorem open_nilC (g : Nat) (a b : Int) (w : World) : Calls Try.prog 41 #[.pointer (some ⟨g, 0, none⟩), .nilIface, .agg #[.int .i64 a, .int .i64 b]] w (RetB (.tuple #[.pointer none, .slice none 0 0, .int .i64 1]) w) := by
  have c00 : (w.alloc (.cells #[.int .i64 a, .int .i64 b] 71)).cell? ⟨w.heap.size, 0, none⟩ = some (.int .i64 a) := (show Blk _ w.heap.size #[.int .i64 a, .int .i64 b] 71 from heap_alloc_new _ _).cell 0
  have BB := Lib.hid (show Below w.heap.size w (w.alloc (.cells #[.int .i64 a, .int .i64 b] 71)) from (Below.refl _ _).alloc (Nat.le_refl _) _)
  go_enter Try.func41, Try.ntmps41
  go_wp2_with fail
  refine (lnew_nilC g a b _).mono ?_
  rintro e w2 ⟨rfl, bw⟩
  have B2 := Lib.hid (BB.out.trans (bw.mono BB.out.size))
  clear bw
  go_wp2_with fail
  exact bodyPost_ret (results_tmp3 Try.results41 _ _ _) rfl ⟨rfl, B2.out⟩
section
variable {C : Duo} {G : Gd} {g : Nat} {w : World} {s : Mr C} {F : Nat → Prop}
set_option maxRecDepth 100000 in
theorem open_shape (h : (ML C G g).At w s F) (ci : SCiph) (a b : Int) (hn : ¬(okS a b ∧ 2 + a * b ≤ (s.a.length : Int))) :
    Calls Try.prog 41 #[.pointer (some ⟨g, 0, none⟩), ci.v, .agg #[.int .i64 a, .int .i64 b]] w (RetB (.tuple #[.pointer none, .slice none 0 0, .int .i64 2]) w) := by
  have BB := Lib.hid (show Below w.heap.size w (w.alloc (.cells #[.int .i64 a, .int .i64 b] 71)) from (Below.refl _ _).alloc (Nat.le_refl _) _)
  have HC := Lib.hid (lnew_shape ((ML C G g).below h BB.out) ci a b hn)
  clear h hn
  go_enter Try.func41, Try.ntmps41
  go_wp2_with fail
  refine HC.out.mono ?_
  rintro e w2 ⟨rfl, bw⟩
  have B2 := Lib.hid (BB.out.trans (bw.mono BB.out.size))
  clear bw
  go_wp2_with fail
  exact bodyPost_ret (results_tmp3 Try.results41 _ _ _) rfl ⟨rfl, B2.out⟩
end
section
variable {p g1 g2 g : Nat} {G : Gd} {ci : SCiph} {w w' : World} {s s' : Mr (Mu.one p g1 g2)} {F : Nat → Prop} {x : Md} {m : Nat}
/-- It tells the log q, and what is found, in its order; the mirror is as search made it. -/
def RetOp (p g1 g2 g : Nat) (G : Gd) (ci : SCiph) (a b : Nat) (x : Md) (F : Nat → Prop) (w : World) (e : Ending) (w' : World) : Prop :=
  ∃ (q : Nat) (A : Option Addr) (n c : Nat) (l : List Fd) (s' : Mr (Mu.one p g1 g2)) (F' FF : Nat → Prop), e = .returned (.tuple #[.pointer (some ⟨q, 0, none⟩), .slice A n c, .int .i64 0]) ∧
    (LogR (Mu.one p g1 g2) G g q ci).At w' (s', (l.map Fd.it).foldl Rl.learn (Rl.new a b)) F' ∧ Mu.Sees s' (srchX ci.f G.f x (a * b)).1 0 ∧ Mu.Dry s' (srchX ci.f G.f x (a * b)).1 ∧
    (FdL A n c).At w' l FF ∧ (l.map Fd.it).Perm (srchX ci.f G.f x (a * b)).2 ∧ l.Pairwise (fun x y => ¬ ltF y.it x.it) ∧
    (∀ j, F' j → F j ∨ w.heap.size ≤ j) ∧ (∀ j, FF j → w.heap.size ≤ j) ∧ (∀ j, F' j → FF j → False) ∧ But F w w'
set_option maxRecDepth 100000 in
set_option maxHeartbeats 6400000 in
theorem open_raw (h : (ML (Mu.one p g1 g2) G g).At w s F) (hs : Mu.Sees s x m) (hd : Mu.Dry s x) (a b : Nat) (hok : okS (a : Int) (b : Int)) (hm : m + 2 * (a * b) < 900000) (hn : 2 + a * b ≤ x.a.length) (hup : ((srchX ci.f G.f x (a * b)).1.o0 && (srchX ci.f G.f x (a * b)).1.o1) = false) :
    Calls Try.prog 41 #[.pointer (some ⟨g, 0, none⟩), ci.v, .agg #[.int .i64 a, .int .i64 b]] w (RetOp p g1 g2 g G ci a b x F w) := by
  have BB := Lib.hid (show Below w.heap.size w (w.alloc (.cells #[.int .i64 (a : Int), .int .i64 (b : Int)] 71)) from (Below.refl _ _).alloc (Nat.le_refl _) _)
  have HC := Lib.hid (rnew_any ((ML (Mu.one p g1 g2) G g).below h BB.out) ci a b hok (by rw [hs.a]; exact hn))
  have HS := Lib.hid (And.intro hs hd)
  have HM := Lib.hid hm
  have HUP := Lib.hid hup
  have HAB := Lib.hid (show a * b ≤ 64 * 32 by unfold Sg.okS at hok; exact Nat.mul_le_mul (by omega) (by omega))
  clear h hs hd hm hn hup hok
  go_enter Try.func41, Try.ntmps41
  go_wp2_with fail
  refine HC.out.mono ?_
  rintro e w2 ⟨q, F2, rfl, hat, hf2, bw⟩
  have A2 := Lib.hid hat
  have N2 := Lib.hid (show ∀ k, F2 k → F k ∨ w.heap.size ≤ k from fun k hk => (hf2 k hk).imp id (fun h => Nat.le_trans BB.out.size h))
  have B2 := Lib.hid (BB.out.trans (bw.mono BB.out.size))
  clear hat hf2 bw HC BB
  go_wp2_with fail
  refine (search_any A2.out HS.out.1 HS.out.2 HM.out).mono ?_
  rintro e w3 ⟨v, rfl, A, n, c, l, s3, F3, FF, rfl, hmv, hse, hdr, hfd, hit, hff, hdj⟩
  have M3 := Lib.hid hmv
  have SE3 := Lib.hid (show Mu.Sees s3 (srchX ci.f G.f x (a * b)).1 (m + 2 * (a * b)) from hse)
  have DR3 := Lib.hid (show Mu.Dry s3 (srchX ci.f G.f x (a * b)).1 from hdr)
  have FD3 := Lib.hid hfd
  have HIT := Lib.hid (show l.map Fd.it = (srchX ci.f G.f x (a * b)).2 from hit)
  have HFF := Lib.hid (And.intro hff hdj)
  obtain ⟨F9, hml, hback⟩ := logr_mlA hmv.at_
  have hfl := mflushm_any hml
  obtain ⟨h1, h2⟩ := hse.flush hdr
  obtain ⟨s4, hs4⟩ : ∃ x, x = s3.flush.2 := ⟨_, rfl⟩
  rw [show s3.flush.1 = 0 by rw [h1]; exact if_neg (fun h => Bool.noConfusion (HUP.out.symm.trans h)), ← hs4] at hfl
  have SE4 := Lib.hid (show Mu.Sees s4 (srchX ci.f G.f x (a * b)).1 0 by rw [hs4]; exact h2)
  have HFL := Lib.hid (hfl.mono fun e w' hr => hback hr)
  have HNL := Lib.hid (show l.length = n ∧ n < 1000000 by
    have h3 := srch_len ci.f G.f x (a * b)
    have h4 := congrArg List.length HIT.out
    rw [List.length_map] at h4
    have h5 : l.length = n := fd_len hfd
    have := HAB.out
    omega)
  clear hmv hse hdr hfd hit hff hdj hml hback hfl h1 h2 hs4
  go_wp2_with fail
  refine HFL.out.mono ?_
  rintro e w4 ⟨rfl, F4, hm4⟩
  have M4 := Lib.hid (M3.out.trans hm4)
  have FD4 := Lib.hid ((FdL A n c).but FD3.out hm4.but (fun j h1 h2 => HFF.out.2 j h2 h1))
  have HD4 := Lib.hid (fun j (h1 : F4 j) h2 => (hm4.new j h1).elim (fun h => HFF.out.2 j h h2) (fun h => by have h3 := FD3.out.2.2 j h2; omega))
  clear hm4 HFL FD3 M3
  go_wp2_with fail
  refine (sort_any FD4.out HNL.out.2).mono ?_
  rintro e w5 ⟨rfl, l5, hp5, hs5, hfd5, hb5⟩
  have FD5 := Lib.hid hfd5
  have P5 := Lib.hid hp5
  have S5 := Lib.hid hs5
  have M5 := Lib.hid (M4.out.own hb5 HFF.out.1 HD4.out)
  clear hp5 hs5 hfd5 hb5 FD4 M4
  obtain ⟨bm, ho, hq, hbm, hstep⟩ := logr_step M5.out.at_
  have HLE := learn_any ho FD5.out (fun h => HD4.out q hq h) (fun h => HD4.out bm hbm h) (fun x hx => by
    have h1 : x.it ∈ (srchX ci.f G.f ‹Md› (a * b)).2 := by rw [← HIT.out]; exact List.mem_map_of_mem ((P5.out.mem_iff).1 hx)
    exact srch_mem _ _ _ _ _ h1) HNL.out.2
  have HL := Lib.hid HLE
  have HST := Lib.hid (fun w' r' => @hstep w' r')
  have HQQ := Lib.hid (And.intro hq hbm)
  clear ho hq hbm hstep HLE
  go_wp2_with fail
  refine HL.out.mono ?_
  rintro e w6 ⟨rfl, ho6, hb6⟩
  obtain ⟨F6, hm6⟩ := HST.out _ _ ho6 hb6
  have M6 := Lib.hid (M5.out.trans hm6)
  have FD6 := Lib.hid ((FdL A n c).but FD5.out hb6 (fun j h1 h2 => h2.elim (fun e => HD4.out j (e ▸ HQQ.out.1) h1) (fun e => HD4.out j (e ▸ HQQ.out.2) h1)))
  have HD6 := Lib.hid (fun j (h1 : F6 j) h2 => (hm6.new j h1).elim (fun h => HD4.out j h h2) (fun h => by have h3 := FD5.out.2.2 j h2; omega))
  clear ho6 hb6 hm6 M5 FD5 HL HST
  go_wp2_with fail
  refine bodyPost_ret (results_tmp3 Try.results41 _ _ _) rfl ⟨q, A, n, c, l5, s4, F6, FF, rfl, M6.out.at_, SE4.out, SE4.out.dry, FD6.out, ?_, S5.out, ?_, ?_, HD6.out, ?_⟩
  · rw [← HIT.out]; exact P5.out.map _
  · intro j hj
    rcases M6.out.new j hj with h1 | h1
    · exact N2.out j h1
    · exact .inr (Nat.le_trans B2.out.size h1)
  · exact fun j hj => Nat.le_trans B2.out.size (HFF.out.1 j hj)
  · exact Mi.but_step (but_below (T := F) B2.out) M6.out.but (fun j hj => N2.out j hj)
set_option maxRecDepth 100000 in
set_option maxHeartbeats 6400000 in
theorem open_down (h : (ML (Mu.one p g1 g2) G g).At w s F) (hs : Mu.Sees s x m) (hd : Mu.Dry s x) (a b : Nat) (hok : Sg.okS (a : Int) (b : Int)) (hm : m + 2 * (a * b) < 900000) (hn : 2 + a * b ≤ x.a.length) (hup : ((srchX ci.f G.f x (a * b)).1.o0 && (srchX ci.f G.f x (a * b)).1.o1) = true) :
    Calls Try.prog 41 #[.pointer (some ⟨g, 0, none⟩), ci.v, .agg #[.int .i64 a, .int .i64 b]] w (fun e w' => e = .returned (.tuple #[.pointer none, .slice none 0 0, .int .i64 13]) ∧ But F w w') := by
  have BB := Lib.hid (show Below w.heap.size w (w.alloc (.cells #[.int .i64 (a : Int), .int .i64 (b : Int)] 71)) from (Below.refl _ _).alloc (Nat.le_refl _) _)
  have HC := Lib.hid (rnew_any ((ML (Mu.one p g1 g2) G g).below h BB.out) ci a b hok (by rw [hs.a]; exact hn))
  have HS := Lib.hid (And.intro hs hd)
  have HM := Lib.hid hm
  have HUP := Lib.hid hup
  clear h hs hd hm hn hup hok
  go_enter Try.func41, Try.ntmps41
  go_wp2_with fail
  refine HC.out.mono ?_
  rintro e w2 ⟨q, F2, rfl, hat, hf2, bw⟩
  have A2 := Lib.hid hat
  have N2 := Lib.hid (show ∀ k, F2 k → F k ∨ w.heap.size ≤ k from fun k hk => (hf2 k hk).imp id (fun h => Nat.le_trans BB.out.size h))
  have B2 := Lib.hid (BB.out.trans (bw.mono BB.out.size))
  clear hat hf2 bw HC BB
  go_wp2_with fail
  refine (search_any A2.out HS.out.1 HS.out.2 HM.out).mono ?_
  rintro e w3 ⟨v, rfl, A, n, c, l, s3, F3, FF, rfl, hmv, hse, hdr, hfd, hit, hff, hdj⟩
  have M3 := Lib.hid hmv
  obtain ⟨F9, hml, hback⟩ := logr_mlA hmv.at_
  have hfl := mflushm_any hml
  obtain ⟨h1, h2⟩ := hse.flush hdr
  obtain ⟨s4, hs4⟩ : ∃ x, x = s3.flush.2 := ⟨_, rfl⟩
  rw [show s3.flush.1 = 13 by rw [h1]; exact if_pos HUP.out, ← hs4] at hfl
  have HFL := Lib.hid (hfl.mono fun e w' hr => hback hr)
  clear hmv hse hdr hfd hit hff hdj hml hback hfl h1 h2 hs4
  go_wp2_with fail
  refine HFL.out.mono ?_
  rintro e w4 ⟨rfl, F4, hm4⟩
  have M4 := Lib.hid (M3.out.trans hm4)
  clear hm4 HFL M3
  go_wp2_with fail
  exact bodyPost_ret (results_tmp3 Try.results41 _ _ _) rfl ⟨rfl, Mi.but_step (but_below (T := F) B2.out) M4.out.but (fun j hj => N2.out j hj)⟩
end
end Go.Proofs.Ythadomboiockhaa.Lo
/-
  A log over a mirror, as the document tells of it, as it is laid: what its methods tell, and make of it.
-/
namespace Go.Proofs.Ythadomboiockhaa.Lo
open Go.RowKit Kd Mi Sx Sg
/-- A log, and the mirror that it has, as they are laid. -/
def LogL (C : Duo) (G : Gd) (g q : Nat) (ci : SCiph) : Laid where
  St := Mr C × Lg
  At w x F := (LogR C G g q ci).At w (x.1, rlOf x.2) F
  but := fun h hb hd => (LogR C G g q ci).but h hb hd
  lt := fun h => (LogR C G g q ci).lt h
section
variable {C : Duo} {G : Gd} {g q : Nat} {ci : SCiph} {w w' : World} {s s' : Mr C} {l l' : Lg} {F F' : Nat → Prop} {v : Value} {e : Ending}
theorem logl_mv (h : Mv (LogR C G g q ci) w F w' (s', rlOf l') F') : Mv (LogL C G g q ci) w F w' (s', l') F' := ⟨h.at_, h.new, h.but⟩
theorem logl_ret (h : RetA (LogR C G g q ci) v (s', rlOf l') F w e w') : RetA (LogL C G g q ci) v (s', l') F w e w' := by
  obtain ⟨rfl, F', h⟩ := h
  exact ⟨rfl, F', logl_mv h⟩
theorem logl_own (h : (LogL C G g q ci).At w (s, l) F) : ∃ bm, RlO g q bm ci w (rlOf l) := logr_own h
/-- What Append tells, and makes of it. -/
def apnd (ci : SCiph) (s : Mr C) (l : Lg) (b : List UInt8) : (Int × Int) × Mr C × Lg :=
  if 103 < b.length then ((0, 3), s, l) else match l.next with
    | none => ((0, 6), s, l)
    | some p => if (s.write (l.at_ p : Int) (sealedS ci.f (l.at_ p : Int) p.2.2 b)).1 = 0 then (((l.at_ p : Int), 0), (s.write (l.at_ p : Int) (sealedS ci.f (l.at_ p : Int) p.2.2 b)).2, l.put p)
        else ((0, (s.write (l.at_ p : Int) (sealedS ci.f (l.at_ p : Int) p.2.2 b)).1), (s.write (l.at_ p : Int) (sealedS ci.f (l.at_ p : Int) p.2.2 b)).2, l)
theorem apnd_eq (hf : l.Fine) (h0 : 0 < l.size) (b : List UInt8) : apR ci s (rlOf l) b = ((apnd ci s l b).1, (apnd ci s l b).2.1, rlOf (apnd ci s l b).2.2) := by
  unfold apR apnd
  by_cases hb : 103 < b.length
  · rw [if_pos hb, if_pos hb]
  · rw [if_neg hb, if_neg hb, rl_next hf]
    cases hn : l.next with
    | none => rfl
    | some p =>
      have hp := (Lg.next_lt hf hn h0).2.2
      have ha : (rlOf l).at_ (p.1 : Int) (p.2.1 : Int) = (l.at_ p : Int) := by
        show 2 + (p.1 : Int) * (l.size : Int) + (p.2.1 : Int) = ((2 + p.1 * l.size + p.2.1 : Nat) : Int)
        push_cast; rfl
      simp only [ha]
      rw [if_neg (by simp)]
      split
      · rw [rl_put l (by omega)]
      · rfl
theorem append_any (h : (LogL C G g q ci).At w (s, l) F) (hf : l.Fine) {k : Nat} (hk : s.ok k) (hm : C.most s.d < 900000) (hl : l.last < 1000000) (A : Option Addr) (n c : Nat) (b : List UInt8) (hb : b.length = n) (hr : Rd w.heap.size w A (bv b)) :
    Calls Try.prog 35 #[.pointer (some ⟨q, 0, none⟩), .slice A n c] w (RetA (LogL C G g q ci) (.tuple #[.int .i64 (apnd ci s l b).1.1, .int .i64 (apnd ci s l b).1.2]) (apnd ci s l b).2 F w) := by
  obtain ⟨bm, ho⟩ := logl_own h
  have h0 : 0 < l.size := by have := ho.ok.small.2.2.2; exact this
  have hc := append_raw (A := A) (n := n) (c := c) h hk hm (show l.last < _ by omega) hb hr
  rw [apnd_eq hf h0] at hc
  exact hc.mono fun _ _ hr => logl_ret hr
theorem lflush_any (h : (LogL C G g q ci).At w (s, l) F) : Calls Try.prog 34 #[.pointer (some ⟨q, 0, none⟩)] w (RetA (LogL C G g q ci) (.int .i64 s.flush.1) (s.flush.2, l) F w) :=
  (rflush_any h).mono fun _ _ hr => logl_ret hr
theorem lgen_any (h : (LogL C G g q ci).At w (s, l) F) {k : Int} (h1 : -9223372036854775808 ≤ k) (h2 : k ≤ 9223372036854775807) :
    Calls Try.prog 46 #[.pointer (some ⟨q, 0, none⟩), .int .i64 k] w (RetB (.int .u64 (if 0 ≤ k then ((l.gens.getD k.toNat 0 : Nat) : Int) else 0)) w) := by
  obtain ⟨bm, ho⟩ := logl_own h
  have hc := gen_any ho h1 h2
  rw [rl_gen] at hc
  rwa [show (((if 0 ≤ k then l.gens.getD k.toNat 0 else 0 : Nat)) : Int) = if 0 ≤ k then ((l.gens.getD k.toNat 0 : Nat) : Int) else 0 by split <;> rfl] at hc
theorem lfreeE (l : Lg) (k : Int) : (rlOf l).freeE k = l.freeE k := by
  unfold Rl.freeE Lg.freeE
  rw [rl_used]
  show (if k < 0 ∨ (l.gens.length : Int) ≤ k then _ else _) = _
  by_cases h : k < 0 ∨ (l.gens.length : Int) ≤ k
  · rw [if_pos h, if_pos h]
  · rw [if_neg h, if_neg h]
    by_cases h0 : l.gens.getD k.toNat 0 = 0
    · rw [if_pos (decide_eq_false (fun h => h.2 h0)), if_pos h0]
    · rw [if_neg (fun h => of_decide_eq_false h ⟨by omega, h0⟩), if_neg h0]
      show (if k = l.headI then _ else _) = _
      by_cases e : k = l.headI
      · rw [if_pos e, if_pos e.symm]
      · rw [if_neg e, if_neg (fun h => e h.symm)]
theorem lfree_any (h : (LogL C G g q ci).At w (s, l) F) {k : Int} (h1 : -9223372036854775808 ≤ k) (h2 : k ≤ 9223372036854775807) :
    Calls Try.prog 33 #[.pointer (some ⟨q, 0, none⟩), .int .i64 k] w (RetA (LogL C G g q ci) (.int .i64 (l.freeE k)) (s, if l.freeE k = 0 then l.free k.toNat else l) F w) := by
  obtain ⟨bm, ho, _, _, hst⟩ := logr_step h
  refine (free_own ho h1 h2).mono ?_
  rintro e w' ⟨rfl, ho', hb⟩
  rw [lfreeE] at ho'
  obtain ⟨F', hm⟩ := hst ho' hb
  refine ⟨by rw [lfreeE], F', logl_mv ?_⟩
  split
  · rename_i h0
    rw [if_pos h0] at hm
    rw [rl_freeSeg]; exact hm
  · rename_i h0
    rw [if_neg h0] at hm
    exact hm
theorem lhead_any (h : (LogL C G g q ci).At w (s, l) F) : Calls Try.prog 49 #[.pointer (some ⟨q, 0, none⟩)] w (RetB (.tuple #[.int .i64 l.headI, .int .i64 l.slotI]) w) := by
  obtain ⟨bm, ho⟩ := logl_own h
  exact head_any ho
theorem lroom_any (h : (LogL C G g q ci).At w (s, l) F) (hf : l.Fine) : Calls Try.prog 44 #[.pointer (some ⟨q, 0, none⟩)] w (RetB (.int .i64 (l.room : Int)) w) := by
  obtain ⟨bm, ho⟩ := logl_own h
  have hc := room_any ho
  rwa [rl_room hf] at hc
/-- What Read tells: the body, and the error. -/
def readL (ci : SCiph) (G : Gd) (s : Mr C) (l : Lg) (k : Int) : List UInt8 × Int :=
  if 2 ≤ k ∧ k < 2 + (l.gens.length : Int) * l.size ∧ l.gens.getD ((k.toNat - 2) / l.size) 0 ≠ 0 then
    (if (readM C G s k).2 = 0 then (if okS ci.f k (readM C G s k).1 = true ∧ genS (readM C G s k).1 = l.gens.getD ((k.toNat - 2) / l.size) 0 then (bodyS (readM C G s k).1, 0) else ([], 9)) else ([], (readM C G s k).2))
  else ([], 2)
theorem readL_eq (k : Int) : rdR ci G s (rlOf l) k = readL ci G s l k := by
  unfold rdR readL
  rw [rl_used, rl_gen]
  show (if (2 ≤ k ∧ k < 2 + (l.gens.length : Int) * (l.size : Int)) ∧ decide (0 ≤ (k - 2) / (l.size : Int) ∧ l.gens.getD ((k - 2) / (l.size : Int)).toNat 0 ≠ 0) = true then _ else _) = _
  by_cases hk : 2 ≤ k ∧ k < 2 + (l.gens.length : Int) * (l.size : Int)
  · have e1 : (k - 2) / (l.size : Int) = (((k.toNat - 2) / l.size : Nat) : Int) := by
      have : k - 2 = ((k.toNat - 2 : Nat) : Int) := by omega
      rw [this]; rfl
    have e2 : 0 ≤ (k - 2) / (l.size : Int) := by rw [e1]; exact Int.natCast_nonneg _
    have e3 : ((k - 2) / (l.size : Int)).toNat = (k.toNat - 2) / l.size := by rw [e1]; exact Int.toNat_natCast _
    have e4 : genG (rlOf l).gens ((k - 2) / (l.size : Int)) = l.gens.getD ((k.toNat - 2) / l.size) 0 := by rw [rl_gen, if_pos e2, e3]
    have e5 : (if 0 ≤ (k - 2) / ((rlOf l).size : Int) then l.gens.getD ((k - 2) / ((rlOf l).size : Int)).toNat 0 else 0) = l.gens.getD ((k.toNat - 2) / l.size) 0 := by
      show (if 0 ≤ (k - 2) / (l.size : Int) then l.gens.getD ((k - 2) / (l.size : Int)).toNat 0 else 0) = _
      rw [if_pos e2, e3]
    rw [e5, e3]
    by_cases h0 : l.gens.getD ((k.toNat - 2) / l.size) 0 ≠ 0
    · exact (if_pos ⟨hk, decide_eq_true ⟨e2, h0⟩⟩).trans (if_pos ⟨hk.1, hk.2, h0⟩).symm
    · exact (if_neg (fun h => h0 (of_decide_eq_true h.2).2)).trans (if_neg (fun h => h0 h.2.2)).symm
  · rw [if_neg (fun h => hk h.1), if_neg (fun h => hk ⟨h.1, h.2.1⟩)]
theorem lread_any (h : (LogL C G g q ci).At w (s, l) F) (hab : s.b.length = s.a.length) (k : Int) :
    Calls Try.prog 39 #[.pointer (some ⟨q, 0, none⟩), .int .i64 k] w (RetN (LogL C G g q ci) (s, l) (readL ci G s l k).1 (readL ci G s l k).2 F w) := by
  have hc := read_raw h hab k
  rw [readL_eq] at hc
  refine hc.mono ?_
  rintro e w' ⟨A, n, c, rfl, ho, F', hm, hd⟩
  exact ⟨A, n, c, rfl, ho, F', logl_mv hm, hd⟩
end
end Go.Proofs.Ythadomboiockhaa.Lo
/-
  A log over a mirror of two devices of one power, in the laws: what each method tells, and makes of it.
-/
namespace Go.Proofs.Ythadomboiockhaa.Lo
open Go.RowKit Kd Mi Sx Sg
section
variable {p g1 g2 g q : Nat} {G : Gd} {w0 w w' : World} {s s' : Mr (Mu.one p g1 g2)} {l l' : Lg} {F : Nat → Prop} {x x' : Md} {m m' : Nat}
/-- A log, its mirror, their devices: all new behind w0. -/
structure LgM (p g1 g2 : Nat) (G : Gd) (g q : Nat) (w0 w : World) (s : Mr (Mu.one p g1 g2)) (l : Lg) (F : Nat → Prop) (x : Md) (m : Nat) : Prop where
  live : LiveA (LogL (Mu.one p g1 g2) G g q litS) w0 w (s, l) F
  sees : Mu.Sees s x m
  dry : Mu.Dry s x
  fine : l.Fine
/-- It returns v; the log is l now, the mirror x. -/
def RetLM (v : Value) (p g1 g2 : Nat) (G : Gd) (g q : Nat) (w0 : World) (l : Lg) (x : Md) (m : Nat) (F : Nat → Prop) (w : World) (e : Ending) (w' : World) : Prop :=
  e = .returned v ∧ ∃ (s : Mr (Mu.one p g1 g2)) (F' : Nat → Prop), LgM p g1 g2 G g q w0 w' s l F' x m ∧ Mv (LogL (Mu.one p g1 g2) G g q litS) w F w' (s, l) F'
theorem LgM.ret (h : LgM p g1 g2 G g q w0 w s l F x m) {v : Value} {e : Ending} (hr : RetA (LogL (Mu.one p g1 g2) G g q litS) v (s', l') F w e w') (hs : Mu.Sees s' x' m') (hd : Mu.Dry s' x') (hf : l'.Fine) : RetLM v p g1 g2 G g q w0 l' x' m' F w e w' := by
  obtain ⟨rfl, F', hm⟩ := hr
  exact ⟨rfl, s', F', ⟨h.live.step hm, hs, hd, hf⟩, hm⟩
theorem LgM.below (h : LgM p g1 g2 G g q w0 w s l F x m) (hb : Below w.heap.size w w') : LgM p g1 g2 G g q w0 w' s l F x m := ⟨h.live.below hb, h.sees, h.dry, h.fine⟩
theorem LgM.more (h : LgM p g1 g2 G g q w0 w s l F x m) {m' : Nat} (hm : m ≤ m') : LgM p g1 g2 G g q w0 w s l F x m' := ⟨h.live, h.sees.more hm, h.dry, h.fine⟩
/-- A body is appended. -/
theorem lgm_append (h : LgM p g1 g2 G g q w0 w s l F x m) (hm : m < 900000) (hl : l.last < 1000000) (h0 : 0 < l.size) {t : Nat × Nat × Nat} (hn : l.next = some t) (A : Option Addr) (n c : Nat) (b : List UInt8) (hb : b.length = n) (hb3 : n ≤ 103) (hr : Rd w.heap.size w A (bv b))
    (hw : (x.write (l.at_ t : Int) (sealedS litS.f (l.at_ t : Int) t.2.2 b)).1 = 0) :
    Calls Try.prog 35 #[.pointer (some ⟨q, 0, none⟩), .slice A n c] w (RetLM (.tuple #[.int .i64 (l.at_ t : Int), .int .i64 0]) p g1 g2 G g q w0 (l.put t) (x.write (l.at_ t : Int) (sealedS litS.f (l.at_ t : Int) t.2.2 b)).2 (m + 2) F w) := by
  have hc := append_any h.live.at_ h.fine h.sees.ok (Nat.lt_of_le_of_lt h.sees.most hm) hl A n c b hb hr
  obtain ⟨h1, h2⟩ := h.sees.write (l.at_ t : Int) (sealedS litS.f (l.at_ t : Int) t.2.2 b)
  have e : apnd litS s l b = (((l.at_ t : Int), 0), (s.write (l.at_ t : Int) (sealedS litS.f (l.at_ t : Int) t.2.2 b)).2, l.put t) := by
    rw [apnd, if_neg (by omega), hn]
    show (if _ then _ else _) = _
    rw [if_pos (by rw [h1]; exact hw)]
  rw [e] at hc
  exact hc.mono fun _ _ hr => h.ret hr h2 (h.dry.write h.sees _ _) (Lg.put_fine h.fine hn h0)
theorem lgm_append_long (h : LgM p g1 g2 G g q w0 w s l F x m) (hm : m < 900000) (hl : l.last < 1000000) (A : Option Addr) (n c : Nat) (b : List UInt8) (hb : b.length = n) (hb3 : 103 < n) (hr : Rd w.heap.size w A (bv b)) :
    Calls Try.prog 35 #[.pointer (some ⟨q, 0, none⟩), .slice A n c] w (RetLM (.tuple #[.int .i64 0, .int .i64 3]) p g1 g2 G g q w0 l x m F w) := by
  have hc := append_any h.live.at_ h.fine h.sees.ok (Nat.lt_of_le_of_lt h.sees.most hm) hl A n c b hb hr
  rw [apnd, if_pos (by omega)] at hc
  exact hc.mono fun _ _ hr => h.ret hr h.sees h.dry h.fine
theorem lgm_append_full (h : LgM p g1 g2 G g q w0 w s l F x m) (hm : m < 900000) (hl : l.last < 1000000) (hn : l.next = none) (A : Option Addr) (n c : Nat) (b : List UInt8) (hb : b.length = n) (hb3 : n ≤ 103) (hr : Rd w.heap.size w A (bv b)) :
    Calls Try.prog 35 #[.pointer (some ⟨q, 0, none⟩), .slice A n c] w (RetLM (.tuple #[.int .i64 0, .int .i64 6]) p g1 g2 G g q w0 l x m F w) := by
  have hc := append_any h.live.at_ h.fine h.sees.ok (Nat.lt_of_le_of_lt h.sees.most hm) hl A n c b hb hr
  rw [apnd, if_neg (by omega), hn] at hc
  exact hc.mono fun _ _ hr => h.ret hr h.sees h.dry h.fine
theorem lgm_flush (h : LgM p g1 g2 G g q w0 w s l F x m) :
    Calls Try.prog 34 #[.pointer (some ⟨q, 0, none⟩)] w (RetLM (.int .i64 (if x.o0 && x.o1 then 13 else 0)) p g1 g2 G g q w0 l x 0 F w) := by
  obtain ⟨h1, h2⟩ := h.sees.flush h.dry
  have hc := lflush_any h.live.at_
  rw [h1] at hc
  exact hc.mono fun _ _ hr => h.ret hr h2 h2.dry h.fine
theorem lgm_free (h : LgM p g1 g2 G g q w0 w s l F x m) (k : Int) (h1 : -9223372036854775808 ≤ k) (h2 : k ≤ 9223372036854775807) :
    Calls Try.prog 33 #[.pointer (some ⟨q, 0, none⟩), .int .i64 k] w (RetLM (.int .i64 (l.freeE k)) p g1 g2 G g q w0 (if l.freeE k = 0 then l.free k.toNat else l) x m F w) := by
  refine (lfree_any h.live.at_ h1 h2).mono fun _ _ hr => h.ret hr h.sees h.dry ?_
  by_cases hk : l.freeE k = 0
  · rw [if_pos hk]; exact Lg.free_fine h.fine hk
  · rw [if_neg hk]; exact h.fine
theorem lgm_gen (h : LgM p g1 g2 G g q w0 w s l F x m) (k : Int) (h1 : -9223372036854775808 ≤ k) (h2 : k ≤ 9223372036854775807) :
    Calls Try.prog 46 #[.pointer (some ⟨q, 0, none⟩), .int .i64 k] w (RetB (.int .u64 (if 0 ≤ k then ((l.gens.getD k.toNat 0 : Nat) : Int) else 0)) w) := lgen_any h.live.at_ h1 h2
theorem lgm_head (h : LgM p g1 g2 G g q w0 w s l F x m) : Calls Try.prog 49 #[.pointer (some ⟨q, 0, none⟩)] w (RetB (.tuple #[.int .i64 l.headI, .int .i64 l.slotI]) w) := lhead_any h.live.at_
theorem lgm_room (h : LgM p g1 g2 G g q w0 w s l F x m) : Calls Try.prog 44 #[.pointer (some ⟨q, 0, none⟩)] w (RetB (.int .i64 (l.room : Int)) w) := lroom_any h.live.at_ h.fine
/-- What Read tells of a mirror that is x. -/
def readX (G : Gd) (x : Md) (l : Lg) (k : Int) : List UInt8 × Int :=
  if 2 ≤ k ∧ k < 2 + (l.gens.length : Int) * l.size ∧ l.gens.getD ((k.toNat - 2) / l.size) 0 ≠ 0 then
    (if (x.read G.f k).2 = 0 then (if okS litS.f k (x.read G.f k).1 = true ∧ genS (x.read G.f k).1 = l.gens.getD ((k.toNat - 2) / l.size) 0 then (bodyS (x.read G.f k).1, 0) else ([], 9)) else ([], (x.read G.f k).2))
  else ([], 2)
theorem lgm_read (h : LgM p g1 g2 G g q w0 w s l F x m) (k : Int) :
    Calls Try.prog 39 #[.pointer (some ⟨q, 0, none⟩), .int .i64 k] w (fun e w' => ∃ A n c F', e = .returned (.tuple #[.slice A n c, .int .i64 (readX G x l k).2]) ∧ w'.ownsRow w.heap.size 5 1 (.slice A n c) n (bv (readX G x l k).1) ∧
      LgM p g1 g2 G g q w0 w' s l F' x m ∧ Mv (LogL (Mu.one p g1 g2) G g q litS) w F w' (s, l) F' ∧ ∀ j, (Value.slice A n c).ownBlock = some j → ¬F' j) := by
  have hc := lread_any h.live.at_ (by rw [h.sees.ok.1, h.sees.ok.2]) k
  have e : readL litS G s l k = readX G x l k := by rw [readL, readX, h.sees.read k]
  rw [e] at hc
  refine hc.mono ?_
  rintro e w' ⟨A, n, c, rfl, ho, F', hm, hd⟩
  exact ⟨A, n, c, F', rfl, ho, ⟨h.live.step hm, h.sees, h.dry, h.fine⟩, hm, hd⟩
end
end Go.Proofs.Ythadomboiockhaa.Lo
/-
  What is found, as search goes on, on two devices that are both in; its order. No program.
-/
namespace Go.Proofs.Ythadomboiockhaa.Lo
open Go.RowKit Kd Mi Sx
theorem srch_sorted (f : List UInt8 → List UInt8 → List UInt8) (gf : Int → List UInt8 → Bool) (x : Md) : ∀ k, (srchX f gf x k).2.Pairwise (fun a b => a.1 < b.1)
  | 0 => List.Pairwise.nil
  | k + 1 => by
    have ih := srch_sorted f gf x k
    rw [srchX]
    split
    · rw [List.pairwise_append]
      refine ⟨ih, List.pairwise_singleton _ _, fun a ha b hb => ?_⟩
      rw [List.mem_singleton] at hb
      subst hb
      have := (srch_mem f gf x k a ha).2.1
      show a.1 < k + 2
      omega
    · exact ih
/-- What was sorted is in its order, each behind the one ahead of it. -/
theorem strict_of {l : List Fd} {base : List (Nat × Nat × List UInt8)} (hp : (l.map Fd.it).Perm base) (hb : base.Pairwise (fun a b => a.1 < b.1)) (hs : l.Pairwise (fun x y => ¬ ltF y.it x.it)) : (l.map Fd.it).Pairwise ltF := by
  have h1 : (base.map (·.1)).Nodup := by
    rw [List.Nodup, List.pairwise_map]
    exact hb.imp (fun h => Nat.ne_of_lt h)
  have h2 : ((l.map Fd.it).map (·.1)).Nodup := ((hp.map (·.1)).nodup_iff).2 h1
  rw [List.Nodup, List.pairwise_map, List.pairwise_map] at h2
  rw [List.pairwise_map]
  exact hs.imp₂ (fun x y h3 h4 => by unfold ltF at *; omega) h2
section
variable {f : List UInt8 → List UInt8 → List UInt8} {gf : Int → List UInt8 → Bool} (hgf : ∀ k s, gf k s = okS f k s)
include hgf
theorem both_start {L0 L1 : List (List UInt8)} {n k : Nat} (hk : k < n) : (Sc.startM L0 L1 n).both gf (k : Int) = (if okS f k (L0.getD k zeroS) then [L0.getD k zeroS] else []) ++ (if okS f k (L1.getD k zeroS) then [L1.getD k zeroS] else []) := by
  have hh : (Sc.startM L0 L1 n).has (k : Int) = true := by rw [Md.has, Sc.start_len]; simp; omega
  obtain ⟨y0, e0⟩ : ∃ y, y = L0.getD k zeroS := ⟨_, rfl⟩
  obtain ⟨y1, e1⟩ : ∃ y, y = L1.getD k zeroS := ⟨_, rfl⟩
  have hb : (Sc.startM L0 L1 n).bothTo gf k 2 = ([] ++ (if !false && gf (k : Int) (L0.getD k zeroS) then [L0.getD k zeroS] else [])) ++ (if !false && gf (k : Int) (L1.getD k zeroS) then [L1.getD k zeroS] else []) := rfl
  rw [Md.both, hh, if_pos rfl, Int.toNat_natCast, hb, ← e0, ← e1, hgf, hgf, List.nil_append]
  simp
theorem pick_best {L0 L1 : List (List UInt8)} {n k : Nat} (hk : k < n) : pickL f (k : Int) ((Sc.startM L0 L1 n).both gf (k : Int)) = bestS f L0 L1 k := by
  rw [both_start hgf hk]
  unfold bestS pickL
  cases h0 : okS f (k : Int) (L0.getD k zeroS) <;> cases h1 : okS f (k : Int) (L1.getD k zeroS)
  · rfl
  · show (if (okS f (k : Int) (L1.getD k zeroS) && true) = true then some (L1.getD k zeroS) else none) = _
    rw [h1]; rfl
  · show (if (okS f (k : Int) (L0.getD k zeroS) && true) = true then some (L0.getD k zeroS) else none) = _
    rw [h0]; rfl
  · show pickT f (k : Int) (if (okS f (k : Int) (L0.getD k zeroS) && true) = true then some (L0.getD k zeroS) else none) (L1.getD k zeroS) = _
    rw [h0]
    show (if (okS f (k : Int) (L1.getD k zeroS) && decide (genS (L0.getD k zeroS) < genS (L1.getD k zeroS))) = true then some (L1.getD k zeroS) else some (L0.getD k zeroS)) = _
    rw [h1]; rfl
omit hgf in
theorem write_start {L0 L1 : List (List UInt8)} {n k : Nat} (hk : k < n) (y : List UInt8) : ((Sc.startM L0 L1 n).write (k : Int) y).2 = Sc.startM (L0.set k y) (L1.set k y) n := by
  have hh : (Sc.startM L0 L1 n).has (k : Int) = true := by rw [Md.has, Sc.start_len]; simp; omega
  have hr : (List.replicate n false).set k false = List.replicate n false := by
    apply List.ext_getElem
    · simp
    · intro i h1 h2
      rw [List.getElem_set]
      simp
  rw [Md.write, hh, if_pos rfl, if_neg (by show ¬ (false && false) = true; simp), Int.toNat_natCast]
  show (⟨L0.set k y, L1.set k y, false, false, (List.replicate n false).set k false, (List.replicate n false).set k false⟩ : Md) = _
  rw [hr]; rfl
/-- Where both are in: what is found is what both lists have, and then both have it. -/
theorem srch_start {L0 L1 : List (List UInt8)} {n : Nat} (h0 : L0.length = n) (h1 : L1.length = n) : ∀ k, k + 2 ≤ n → srchX f gf (Sc.startM L0 L1 n) k = (Sc.startM (chosen f L0 L1 L0 k) (chosen f L0 L1 L1 k) n, baseF f L0 L1 (k + 2))
  | 0, _ => rfl
  | k + 1, hk => by
    have ih := srch_start h0 h1 k (by omega)
    have hbest : bestS f (chosen f L0 L1 L0 k) (chosen f L0 L1 L1 k) (k + 2) = bestS f L0 L1 (k + 2) := by
      unfold bestS
      rw [chosen_at f L0 L1 L0 (by omega), chosen_at f L0 L1 L1 (by omega), if_neg (show ¬(2 ≤ k + 2 ∧ k + 2 < k + 2) by omega), if_neg (show ¬(2 ≤ k + 2 ∧ k + 2 < k + 2) by omega)]
    have hbase : baseF f L0 L1 (k + 1 + 2) = baseF f L0 L1 (k + 2) ++ (match bestS f L0 L1 (k + 2) with | some s => [(k + 2, genS s, bodyS s)] | none => []) := by
      unfold baseF
      rw [show k + 1 + 2 - 2 = k + 1 by omega, show k + 2 - 2 = k by omega, List.range_succ, List.filterMap_append]
      congr 1
      unfold foundAt
      cases hx : bestS f L0 L1 (k + 2) <;> simp [hx]
    rw [srchX, ih, hbase]
    have hp := pick_best hgf (L0 := chosen f L0 L1 L0 k) (L1 := chosen f L0 L1 L1 k) (n := n) (k := k + 2) (by omega)
    rw [hbest] at hp
    show (match pickL f ((k + 2 : Nat) : Int) ((Sc.startM (chosen f L0 L1 L0 k) (chosen f L0 L1 L1 k) n).both gf ((k + 2 : Nat) : Int)) with | some y => (((Sc.startM (chosen f L0 L1 L0 k) (chosen f L0 L1 L1 k) n).write ((k + 2 : Nat) : Int) y).2, baseF f L0 L1 (k + 2) ++ [(k + 2, genS y, bodyS y)]) | none => (Sc.startM (chosen f L0 L1 L0 k) (chosen f L0 L1 L1 k) n, baseF f L0 L1 (k + 2))) = _
    rw [hp, chosen, chosen]
    cases hb : bestS f L0 L1 (k + 2) with
    | none => simp
    | some y =>
      show ((Md.write _ _ _).2, _) = _
      rw [write_start (by omega)]
end
/-- Learnt in their order. -/
theorem learn_all : ∀ (l : List (Nat × Nat × List UInt8)) (L : Lg), (∀ x ∈ l, 1 ≤ x.2.1 ∧ L.last ≤ x.2.1 ∧ 2 ≤ x.1 ∧ x.1 < 2 + L.gens.length * L.size) → l.Pairwise ltF → (∀ g ∈ L.gens, g ≤ L.last) → (L.h = none → L.last = 0) → 0 < L.size → L.Fine →
    l.foldl Rl.learn (rlOf L) = rlOf (l.foldl Lg.learn L) ∧ (l.foldl Lg.learn L).Fine
  | [], L, _, _, _, _, _, hf => ⟨rfl, hf⟩
  | x :: l, L, hx, hs, hg, hn, h0, hf => by
    obtain ⟨x1, x2, x3, x4⟩ := hx x (List.mem_cons_self ..)
    rw [List.pairwise_cons] at hs
    have hi : (x.1 - 2) / L.size < L.gens.length := (Nat.div_lt_iff_lt_mul h0).2 (by omega)
    have hj : (x.1 - 2) % L.size < L.size := Nat.mod_lt _ h0
    have hlast : (L.learn x).last = x.2.1 := by show max L.last x.2.1 = _; omega
    have hle : ∀ g ∈ (L.learn x).gens, g ≤ (L.learn x).last := by
      intro g hm
      rw [hlast]
      rcases List.mem_or_eq_of_mem_set hm with h | h
      · exact Nat.le_trans (hg g h) x2
      · have : L.gens.getD ((x.1 - 2) / L.size) 0 ≤ L.last := by
          rw [List.getD_eq_getElem?_getD, List.getElem?_eq_getElem hi]
          exact hg _ (List.getElem_mem _)
        omega
    have hset : ∀ s, (L.learn x).gens.getD s 0 = if s = (x.1 - 2) / L.size then max (L.gens.getD ((x.1 - 2) / L.size) 0) x.2.1 else L.gens.getD s 0 := by
      intro s
      show (L.gens.set _ _).getD s 0 = _
      by_cases e : s = (x.1 - 2) / L.size
      · rw [if_pos e, e, List.getD_eq_getElem?_getD, List.getElem?_set_self hi]; rfl
      · rw [if_neg e, List.getD_eq_getElem?_getD, List.getElem?_set_ne (fun h => e h.symm), ← List.getD_eq_getElem?_getD]
    have hfine : (L.learn x).Fine := by
      refine ⟨fun s t hh => ?_, hle⟩
      have hl : (L.learn x).gens.length = L.gens.length := List.length_set
      have hz : (L.learn x).size = L.size := rfl
      have hhe : (L.learn x).h = if L.last < x.2.1 ∨ (L.last = x.2.1 ∧ L.h.map (·.1) = some ((x.1 - 2) / L.size)) then some ((x.1 - 2) / L.size, (x.1 - 2) % L.size + 1) else L.h := rfl
      rw [hhe] at hh
      split at hh
      · injection hh with hh
        injection hh with e1 e2
        subst e1 e2
        exact ⟨by rw [hl]; exact hi, by rw [hz]; exact hj, Nat.succ_pos _, by rw [hset, if_pos rfl]; omega⟩
      · obtain ⟨k1, k2, k3, k4⟩ := hf.head s t hh
        refine ⟨by rw [hl]; exact k1, by rw [hz]; exact k2, k3, ?_⟩
        rw [hset]
        split
        · omega
        · exact k4
    have hnone : (L.learn x).h = none → (L.learn x).last = 0 := by
      intro hh
      exfalso
      have hhe : (L.learn x).h = if L.last < x.2.1 ∨ (L.last = x.2.1 ∧ L.h.map (·.1) = some ((x.1 - 2) / L.size)) then some ((x.1 - 2) / L.size, (x.1 - 2) % L.size + 1) else L.h := rfl
      rw [hhe] at hh
      split at hh
      · cases hh
      · rename_i hc
        have := hn hh
        exact hc (.inl (by omega))
    have ih := learn_all l (L.learn x) (fun y hy => by
      obtain ⟨y1, _, y3, y4⟩ := hx y (List.mem_cons_of_mem _ hy)
      have h5 := hs.1 y hy
      refine ⟨y1, ?_, y3, ?_⟩
      · rw [hlast]; unfold ltF at h5; omega
      · rw [show (L.learn x).gens.length = L.gens.length from List.length_set]; exact y4) hs.2 hle hnone h0 hfine
    rw [List.foldl_cons, List.foldl_cons, ← rl_learn x1 x2 hg hn]
    exact ih
end Go.Proofs.Ythadomboiockhaa.Lo
/-
  A new log, and one that is opened: what New and Open tell.
-/
namespace Go.Proofs.Ythadomboiockhaa.Lo
open Go.RowKit Kd Mi Sx Sg
section
variable {p g1 g2 g q : Nat} {G : Gd} {w0 w w' : World} {d : Sy} {s s' : Mr (Mu.one p g1 g2)} {l l' : Lg} {F : Nat → Prop} {x x' : Md} {m m' : Nat}
/-- A mirror of two devices of one power, by a function that has boxes. -/
theorem lm_newB (hR : ∀ A n c B m e, G.R A n c B m e) {L0 L1 : List (List UInt8)} {o0 o1 : Bool} {n : Nat} (h : Mu.LD p g1 g2 w0 w d F L0 L1 o0 o1 0) (hG : ∀ x ∈ G.l, Blk w x.1 x.2.1 x.2.2 ∧ ¬ F x.1 ∧ w0.heap.size ≤ x.1) (e0 : L0.length = n) (e1 : L1.length = n) :
    Calls Try.prog 42 #[.pointer (some ⟨g1, 0, none⟩), .pointer (some ⟨g2, 0, none⟩), G.v] w (fun e w' => ∃ g s F', e = .returned (.pointer (some ⟨g, 0, none⟩)) ∧ Mu.LM p g1 g2 G g w0 w' s F' ⟨L0, L1, o0, o1, List.replicate n o0, List.replicate n o1⟩ 0 ∧
      (∀ q, F' q → (F q ∨ ∃ y ∈ G.l, q = y.1) ∨ w.heap.size ≤ q) ∧ But (fun q => F q ∨ ∃ y ∈ G.l, q = y.1) w w') := by
  refine (new_anyG (C := Mu.one p g1 g2) hR h.live.at_ (fun x hx => ⟨(hG x hx).1, (hG x hx).2.1⟩) rfl).mono ?_
  rintro e w' ⟨g, F', rfl, h1, h2, h3⟩
  have hs : Mu.Sees (newM (Mu.one p g1 g2) d) ⟨L0, L1, o0, o1, List.replicate n o0, List.replicate n o1⟩ 0 := Mu.sees_new h.d0 h.d1 e0 e1
  have hF : ∀ q, (F q ∨ ∃ y ∈ G.l, q = y.1) → w0.heap.size ≤ q := fun q hq => hq.elim (h.live.new q) (fun ⟨y, hy, e⟩ => by rw [e]; exact (hG y hy).2.2)
  exact ⟨g, _, F', rfl, ⟨⟨h1, fun q hq => (h2 q hq).elim (hF q) (Nat.le_trans h.live.bel.size), h.live.bel.trans (h3.below (fun k hk hq => by have := hF k hq; omega) h.live.bel.size)⟩, hs, hs.dry⟩, h2, h3⟩
/-- The devices that a mirror has. -/
theorem lm_devs (h : Mu.LM p g1 g2 G g w0 w s F x 0) : ∃ F1, Mu.LD p g1 g2 w0 w s.d F1 x.l0 x.l1 x.o0 x.o1 0 ∧ ∀ k, F1 k → F k := by
  obtain ⟨A, n, c, B, m, e, F1, hr, h1, h2⟩ := h.live.at_
  exact ⟨F1, ⟨⟨hr.d, fun q hq => h.live.new q (h1 q (.inr (.inr (.inr (.inl hq))))), h.live.bel⟩, h.sees.d0, h.sees.d1⟩, fun k hk => h1 k (.inr (.inr (.inr (.inl hk))))⟩
/-- The mirror that a log has. -/
theorem lgm_lm (h : LgM p g1 g2 G g q w0 w s l F x m) : ∃ F1, Mu.LM p g1 g2 G g w0 w s F1 x m ∧ (∀ k, F1 k → F k) ∧
    ∀ {v : Value} {e : Ending} {w' : World} {x' : Md} {m' : Nat}, Mu.RetM v p g1 g2 G g w0 x' m' F1 w e w' → RetLM v p g1 g2 G g q w0 l x' m' F w e w' := by
  obtain ⟨F1, F2, h1, h2, hd, hF⟩ := h.live.at_
  have h1 : (ML (Mu.one p g1 g2) G g).At w s F1 := h1
  have h2 : (OwnR g q litS).At w (rlOf l) F2 := h2
  refine ⟨F1, ⟨⟨h1, fun k hk => h.live.new k ((hF k).2 (.inl hk)), h.live.bel⟩, h.sees, h.dry⟩, fun k hk => (hF k).2 (.inl hk), ?_⟩
  rintro v e w' x' m' ⟨rfl, s', F', hlm, hmv⟩
  have hlt := (OwnR g q litS).lt h2
  have hd' : ∀ k, F' k → F2 k → False := fun k hk hk2 => by
    rcases hmv.new k hk with h3 | h3
    · exact hd k h3 hk2
    · have := hlt k hk2; omega
  have hv : Mv (LogL (Mu.one p g1 g2) G g q litS) w F w' (s', l) (fun k => F' k ∨ F2 k) :=
    ⟨⟨F', F2, hmv.at_, (OwnR g q litS).but h2 hmv.but (fun k hk hk1 => hd k hk1 hk), hd', fun k => Iff.rfl⟩, fun k hk => hk.elim (fun hk => (hmv.new k hk).imp (fun h => (hF k).2 (.inl h)) id) (fun hk => .inl ((hF k).2 (.inr hk))), hmv.but.mono (fun k hk => (hF k).2 (.inl hk))⟩
  exact ⟨rfl, s', _, ⟨h.live.step hv, hlm.sees, hlm.dry, h.fine⟩, hv⟩
end
section
variable {p g1 g2 g : Nat} {w0 w : World} {s : Mr (Mu.one p g1 g2)} {F : Nat → Prop} {x : Md} {m b n : Nat} {L0 L1 : List (List UInt8)}
theorem gdS_f (b : Nat) : ∀ k y, (gdS litS b).f k y = okS litS.f k y := fun _ _ => rfl
/-- Open tells the log q, and what is found, in its order. -/
def RetOpen (p g1 g2 b g : Nat) (a sz : Nat) (w0 : World) (L0 L1 : List (List UInt8)) (n : Nat) (F : Nat → Prop) (w : World) (e : Ending) (w' : World) : Prop :=
  ∃ (q : Nat) (A : Option Addr) (k c : Nat) (fd : List Fd) (s' : Mr (Mu.one p g1 g2)) (F' FF : Nat → Prop), e = .returned (.tuple #[.pointer (some ⟨q, 0, none⟩), .slice A k c, .int .i64 0]) ∧
    LgM p g1 g2 (gdS litS b) g q w0 w' s' ((fd.map Fd.it).foldl Lg.learn (Lg.new a sz)) F' (Sc.startM (chosen litS.f L0 L1 L0 (a * sz)) (chosen litS.f L0 L1 L1 (a * sz)) n) 0 ∧
    (FdL A k c).At w' fd FF ∧ (fd.map Fd.it).Perm (baseF litS.f L0 L1 (2 + a * sz)) ∧ (fd.map Fd.it).Pairwise ltF ∧
    (∀ j, F' j → F j ∨ w.heap.size ≤ j) ∧ (∀ j, FF j → w.heap.size ≤ j) ∧ (∀ j, F' j → FF j → False) ∧ But F w w'
theorem open_any (h : Mu.LM p g1 g2 (gdS litS b) g w0 w s F (Sc.startM L0 L1 n) m) (h0 : L0.length = n) (h1 : L1.length = n) (hm : m < 800000) (a sz : Nat) (hok : Sg.okS (a : Int) (sz : Int)) (hn : 2 + a * sz ≤ n) (hpos : ∀ x ∈ baseF litS.f L0 L1 (2 + a * sz), 1 ≤ x.2.1) :
    Calls Try.prog 41 #[.pointer (some ⟨g, 0, none⟩), litS.v, .agg #[.int .i64 a, .int .i64 sz]] w (RetOpen p g1 g2 b g a sz w0 L0 L1 n F w) := by
  have hN : a * sz ≤ 64 * 32 := by unfold Sg.okS at hok; exact Nat.mul_le_mul (by omega) (by omega)
  have hsr := srch_start (gdS_f b) h0 h1 (a * sz) (by omega)
  rw [Nat.add_comm (a * sz) 2] at hsr
  have hst : (Sc.startM L0 L1 n).a.length = n := Sc.start_len
  refine (open_raw h.live.at_ h.sees h.dry a sz hok (by omega) (by rw [hst]; exact hn) (by rw [hsr]; rfl)).mono ?_
  rintro e w' ⟨q, A, k, c, l, s', F', FF, rfl, hat, hse, hdr, hfd, hp, hs, hf1, hf2, hf3, hb⟩
  rw [hsr] at hse hdr hp
  have hstr : (l.map Fd.it).Pairwise ltF := by
    have h2 := srch_sorted litS.f (gdS litS b).f (Sc.startM L0 L1 n) (a * sz)
    rw [hsr] at h2
    exact strict_of hp h2 hs
  have hmem : ∀ x ∈ l.map Fd.it, 2 ≤ x.1 ∧ x.1 < 2 + a * sz := fun x hx => by
    have h2 := srch_mem litS.f (gdS litS b).f (Sc.startM L0 L1 n) (a * sz) x (by rw [hsr]; exact hp.mem_iff.1 hx)
    exact ⟨h2.1, h2.2.1⟩
  have hsz : 0 < sz := by unfold Sg.okS at hok; omega
  have hln := learn_all (l.map Fd.it) (Lg.new a sz) (fun x hx => ⟨hpos x (hp.mem_iff.1 hx), Nat.zero_le _, (hmem x hx).1, by rw [show (Lg.new a sz).gens.length = a from List.length_replicate]; exact (hmem x hx).2⟩) hstr
    (fun g hg => by rw [(List.mem_replicate.1 (show g ∈ List.replicate a 0 from hg)).2]; exact Nat.zero_le _) (fun _ => rfl) hsz (Lg.new_fine a sz)
  rw [rl_new] at hln
  rw [hln.1] at hat
  have hnew : ∀ j, F j → w0.heap.size ≤ j := h.live.new
  refine ⟨q, A, k, c, l, s', F', FF, rfl, ⟨⟨hat, fun j hj => (hf1 j hj).elim (hnew j) (Nat.le_trans h.live.bel.size), h.live.bel.trans (hb.below (fun j hj hF => by have := hnew j hF; omega) h.live.bel.size)⟩, hse, hdr, hln.2⟩, hfd, hp, hstr, hf1, hf2, hf3, hb⟩
/-- A log, new. -/
theorem lgm_new (h : Mu.LM p g1 g2 (gdS litS b) g w0 w s F x m) (a sz : Nat) (hok : Sg.okS (a : Int) (sz : Int)) (hn : 2 + a * sz ≤ x.a.length) :
    Calls Try.prog 48 #[.pointer (some ⟨g, 0, none⟩), litS.v, .agg #[.int .i64 a, .int .i64 sz]] w (fun e w' => ∃ q F', e = .returned (.tuple #[.pointer (some ⟨q, 0, none⟩), .int .i64 0]) ∧ LgM p g1 g2 (gdS litS b) g q w0 w' s (Lg.new a sz) F' x m ∧ (∀ k, F' k → F k ∨ w.heap.size ≤ k) ∧ Below w.heap.size w w') := by
  refine (rnew_any h.live.at_ litS a sz hok (by rw [h.sees.a]; exact hn)).mono ?_
  rintro e w' ⟨q, F', rfl, h1, h2, h3⟩
  rw [← rl_new] at h1
  exact ⟨q, F', rfl, ⟨⟨h1, fun k hk => (h2 k hk).elim (h.live.new k) (Nat.le_trans h.live.bel.size), h.live.bel.trans (h3.mono h.live.bel.size)⟩, h.sees, h.dry, Lg.new_fine a sz⟩, h2, h3⟩
end
end Go.Proofs.Ythadomboiockhaa.Lo
/-
  The laws' rig: a power, two devices, a mirror of them, a log over it.
-/
namespace Go.Proofs.Ythadomboiockhaa.Lo
open Go.RowKit Kd Mi Sx Sg
attribute [local go_sem ↓] Go.wp_at_zero Go.wp_at_succ
/-- A rig's cells. -/
def rigC (p g1 g2 g q a b : Nat) : Array Value := #[.pointer (some ⟨p, 0, none⟩), .pointer (some ⟨g1, 0, none⟩), .pointer (some ⟨g2, 0, none⟩), .pointer (some ⟨g, 0, none⟩), .pointer (some ⟨q, 0, none⟩), .int .i64 (a : Int), .int .i64 (b : Int)]
/-- Lists of noughts. -/
def zerosL (n : Nat) : List (List UInt8) := List.replicate n zeroS
theorem LgM.base {p g1 g2 g q : Nat} {G : Gd} {w w0 w' : World} {s : Mr (Mu.one p g1 g2)} {l : Lg} {F : Nat → Prop} {x : Md} {m : Nat} (h : LgM p g1 g2 G g q w0 w' s l F x m) (hb : Below w.heap.size w w0) : LgM p g1 g2 G g q w w' s l F x m :=
  ⟨⟨h.live.at_, fun k hk => Nat.le_trans hb.size (h.live.new k hk), hb.trans (h.live.bel.mono hb.size)⟩, h.sees, h.dry, h.fine⟩
/-- It returns a rig, new. -/
def RetMade (a b : Nat) (w : World) (e : Ending) (w' : World) : Prop :=
  ∃ p g1 g2 bx g q s F, e = .returned (.tuple #[.agg (rigC p g1 g2 g q a b), .int .i64 1]) ∧ LgM p g1 g2 (gdS litS bx) g q w w' s (Lg.new a b) F (Sc.startM (zerosL (2 + a * b)) (zerosL (2 + a * b)) (2 + a * b)) 0
theorem cell_but {w w' : World} {T : Nat → Prop} {g j : Nat} {v : Value} (h : w.cell? ⟨g, j, none⟩ = some v) (hb : But T w w') (hg : ¬T g) : w'.cell? ⟨g, j, none⟩ = some v := by
  have hl : g < w.heap.size := World.block_lt_of_cell? w _ h
  rw [← h]
  unfold World.cell?
  rw [hb.block g hl hg]
theorem live_box {w0 w w' : World} {p : Nat} {gs : List Nat} {S : Sy} {F : Nat → Prop} {b : Nat} (h : Live w0 w p gs S F) (hb : But (fun k => k = b) w w') (hF : ¬F b) (hw : w0.heap.size ≤ b) : Live w0 w' p gs S F :=
  ⟨h.sys.but hb (fun q hq e => by subst e; exact hF hq), h.new, h.bel.trans (hb.below (fun k hk e => by omega) h.bel.size)⟩
theorem lm_box {p g1 g2 g : Nat} {G : Gd} {w0 w w' : World} {s : Mr (Mu.one p g1 g2)} {F : Nat → Prop} {x : Md} {m b : Nat} (h : Mu.LM p g1 g2 G g w0 w s F x m) (hb : But (fun k => k = b) w w') (hF : ¬F b) (hw : w0.heap.size ≤ b) : Mu.LM p g1 g2 G g w0 w' s F x m :=
  ⟨⟨(ML (Mu.one p g1 g2) G g).but h.live.at_ hb (fun k hk e => by subst e; exact hF hk), h.live.new, h.live.bel.trans (hb.below (fun k hk e => by omega) h.live.bel.size)⟩, h.sees, h.dry⟩
theorem lgm_box {p g1 g2 g q : Nat} {G : Gd} {w0 w w' : World} {s : Mr (Mu.one p g1 g2)} {l : Lg} {F : Nat → Prop} {x : Md} {m b : Nat} (h : LgM p g1 g2 G g q w0 w s l F x m) (hb : But (fun k => k = b) w w') (hF : ¬F b) (hw : w0.heap.size ≤ b) : LgM p g1 g2 G g q w0 w' s l F x m :=
  ⟨⟨(LogL (Mu.one p g1 g2) G g q litS).but h.live.at_ hb (fun k hk e => by subst e; exact hF hk), h.live.new, h.live.bel.trans (hb.below (fun k hk e => by omega) h.live.bel.size)⟩, h.sees, h.dry, h.fine⟩
theorem by_rest {R G : Nat → Nat → World → Prop} {p : Prop} (ways : (∀ X Y w', R X Y w' → G X Y w') → p) (rest : ∀ X Y w', R X Y w' → G X Y w') : p := ways rest
set_option maxRecDepth 100000 in
set_option maxHeartbeats 12800000 in
theorem made_any (x y : Int) (hx : 0 ≤ x ∧ x ≤ 255) (hy : 0 ≤ y ∧ y ≤ 255) (a b : Nat) (ha : (a : Int) = 3 + x.tmod 4) (hb : (b : Int) = 1 + y.tmod 4) (w : World) : Calls Try.prog 30 #[.int .u8 x, .int .u8 y] w (RetMade a b w) := by
  have hi2 : 0 ≤ x.tmod 4 ∧ x.tmod 4 < 4 := by rw [Int.tmod_eq_emod_of_nonneg hx.1]; omega
  have hj2 : 0 ≤ y.tmod 4 ∧ y.tmod 4 < 4 := by rw [Int.tmod_eq_emod_of_nonneg hy.1]; omega
  obtain ⟨i, hi⟩ : ∃ z, z = x.tmod 4 := ⟨_, rfl⟩
  obtain ⟨j, hj⟩ : ∃ z, z = y.tmod 4 := ⟨_, rfl⟩
  rw [← hi] at ha hi2
  rw [← hj] at hb hj2
  have q1 : x.tmod 4 = i := hi.symm
  have q2 : y.tmod 4 = j := hj.symm
  have z1 : wrap64 x = x := by unfold wrap64; omega
  have z2 : wrap64 y = y := by unfold wrap64; omega
  have v1 : IntKind.i64.wrap x = x := IntWalk.i64_in _ (by omega)
  have v2 : IntKind.i64.wrap y = y := IntWalk.i64_in _ (by omega)
  have e1 : IntKind.i64.wrap (3 + i) = (a : Int) := by rw [← ha]; exact IntWalk.i64_in _ (by omega)
  have e2 : IntKind.i64.wrap (1 + j) = (b : Int) := by rw [← hb]; exact IntWalk.i64_in _ (by omega)
  have HAB := Lib.hid (show a ≤ 6 ∧ b ≤ 4 ∧ 3 ≤ a ∧ 1 ≤ b by omega)
  have HOK := Lib.hid (show Sg.okS (a : Int) (b : Int) by unfold Sg.okS; omega)
  obtain ⟨N, hN⟩ : ∃ N, N = 2 + a * b := ⟨_, rfl⟩
  have HN := Lib.hid (show N = 2 + a * b ∧ N ≤ 4096 from ⟨hN, by have : a * b ≤ 6 * 4 := Nat.mul_le_mul (by omega) (by omega); omega⟩)
  have HSE := Lib.hid (show ∀ W, Calls Try.prog 38 #[.agg #[.int .i64 (a : Int), .int .i64 (b : Int)]] W (RetB (.int .i64 (N : Int)) W) from fun W => by
    have h := sectors_yes a b HOK.out W
    rw [show (2 : Int) + (a : Int) * (b : Int) = (N : Int) by rw [hN]; push_cast; rfl] at h
    exact h)
  clear hi hj hi2 hj2 ha hb hN hx hy
  go_enter Try.func30, Try.ntmps30
  go_wp2_with fail
  obtain ⟨w1, hw1⟩ : ∃ W, W = w.alloc (.cells #[.pointer none, .pointer none, .pointer none, .pointer none, .pointer none, .int .i64 0, .int .i64 0] 73) := ⟨_, rfl⟩
  rw [← hw1]
  have R1 := Lib.hid (show Blk w1 w.heap.size #[.pointer none, .pointer none, .pointer none, .pointer none, .pointer none, .int .i64 0, .int .i64 0] 73 by rw [hw1]; exact heap_alloc_new _ _)
  have BW1 := Lib.hid (show Below w.heap.size w w1 by rw [hw1]; exact (Below.refl _ _).alloc (Nat.le_refl _) _)
  clear hw1
  refine live_power.mono ?_
  rintro e w2 ⟨pw, rfl, F2, h⟩
  have H2 := Lib.hid h
  clear h
  go_wp2_with fail
  obtain ⟨bX, hbX⟩ : ∃ v, v = w2.heap.size := ⟨_, rfl⟩
  obtain ⟨w3, hw3⟩ : ∃ W, W = w2.alloc (.cells #[.pointer (some ⟨pw, 0, none⟩), .pointer none, .pointer none, .pointer none, .pointer none, .int .i64 (a : Int), .int .i64 (b : Int)] 73) := ⟨_, rfl⟩
  rw [← hbX, ← hw3]
  have X3 := Lib.hid (show Blk w3 bX #[.pointer (some ⟨pw, 0, none⟩), .pointer none, .pointer none, .pointer none, .pointer none, .int .i64 (a : Int), .int .i64 (b : Int)] 73 by rw [hw3, hbX]; exact heap_alloc_new _ _)
  have NF := Lib.hid (show ¬F2 bX ∧ w1.heap.size ≤ bX from ⟨fun hf => by have := H2.out.sys.lt bX hf; omega, by rw [hbX]; exact H2.out.bel.size⟩)
  have H3 := Lib.hid (show Live w1 w3 pw [] S0 F2 from ⟨H2.out.sys.but (but_below (T := fun _ => False) (by rw [hw3]; exact (Below.refl _ _).alloc (Nat.le_refl _) _)) (fun _ _ h => h), H2.out.new, H2.out.bel.trans (by rw [hw3]; exact ((Below.refl _ _).alloc (Nat.le_refl _) _).mono H2.out.bel.size)⟩)
  clear hbX hw3 H2
  apply by_rest (R := fun g1 g2 w' => (∃ F, Live w1 w' pw [g1, g2] ((S0.new (N : Int)).new (N : Int)) F ∧ ¬F bX) ∧ Blk w' bX #[.pointer (some ⟨pw, 0, none⟩), .pointer (some ⟨g1, 0, none⟩), .pointer (some ⟨g2, 0, none⟩), .pointer none, .pointer none, .int .i64 (a : Int), .int .i64 (b : Int)] 73)
  case ways =>
    intro hG
    refine wp_region_held_drew (S := (fun w' => w'.cell? ⟨bX, 0, none⟩ = some (.pointer (some ⟨pw, 0, none⟩)) ∧ w'.cell? ⟨bX, 5, none⟩ = some (.int .i64 (a : Int)) ∧ w'.cell? ⟨bX, 6, none⟩ = some (.int .i64 (b : Int)))) (by kernel_rfl) ⟨(show (World.drew _).cell? _ = _ from X3.out.cell 0), (show (World.drew _).cell? _ = _ from X3.out.cell 5), (show (World.drew _).cell? _ = _ from X3.out.cell 6)⟩ (fun hh => ?_)
    have HH := Lib.hid hh
    clear hh
    have H4 := Lib.hid H3.out.drew
    have X4 := Lib.hid (show Blk w3.drew bX _ _ from X3.out)
    obtain ⟨w4, hw4⟩ : ∃ W, W = w3.drew := ⟨_, rfl⟩
    rw [← hw4] at H4 X4 HH ⊢
    clear hw4
    try simp only [List.getElem_toArray, List.getElem_cons_succ, List.getElem_cons_zero, Act.put, List.setIfInBounds_toArray, List.set_cons_zero, List.set_cons_succ]
    refine wpAnyH_take (i := 0) (v := ?vA0) rfl (by kernel_rfl) (by kernel_rfl) (by kernel_rfl) (fun _ _ _ h => h) (Or.inl ⟨by rfl, fun w' _ => ?yA0⟩) HH.out ?_
    case yA0 => (go_simp; try with_reducible rfl)
    try simp only [List.getElem_toArray, List.getElem_cons_zero, Act.put, List.setIfInBounds_toArray, List.set_cons_zero, List.set_cons_succ]
    refine wpAnyH_take (i := 3) (v := ?vA3) rfl (by kernel_rfl) (by kernel_rfl) (by kernel_rfl) (fun _ _ _ h => h) (Or.inl ⟨by rfl, fun w' _ => ?yA3⟩) HH.out ?_
    case yA3 => (go_simp; try with_reducible rfl)
    try simp only [List.getElem_toArray, List.getElem_cons_succ, List.getElem_cons_zero, Act.put, List.setIfInBounds_toArray, List.set_cons_zero, List.set_cons_succ]
    refine wpAnyH_take (i := 6) (v := ?vA6) rfl (by kernel_rfl) (by kernel_rfl) (by kernel_rfl) (fun _ _ _ h => h) (Or.inl ⟨by rfl, fun w' _ => ?yA6⟩) HH.out ?_
    case yA6 => (go_simp; try with_reducible rfl)
    try simp only [List.getElem_toArray, List.getElem_cons_succ, List.getElem_cons_zero, Act.put, List.setIfInBounds_toArray, List.set_cons_zero, List.set_cons_succ]
    refine wpAnyH_take (i := 9) (v := ?vA9) rfl (by kernel_rfl) (by kernel_rfl) (by kernel_rfl) (fun _ _ _ h => h) (Or.inl ⟨by rfl, fun w' _ => ?yA9⟩) HH.out ?_
    case yA9 => (go_simp; try with_reducible rfl)
    try simp only [List.getElem_toArray, List.getElem_cons_succ, List.getElem_cons_zero, Act.put, List.setIfInBounds_toArray, List.set_cons_zero, List.set_cons_succ]
    refine wpAnyH_take (i := 1) (v := .agg #[.int .i64 (a : Int), .int .i64 (b : Int)]) rfl (by kernel_rfl) (by kernel_rfl) (by kernel_rfl) (fun _ _ _ h => h) (Or.inl ⟨by rfl, fun w' hw' => ?yA1⟩) HH.out ?_
    case yA1 => ((have hc := hw'.2.1; have hc2 := hw'.2.2); go_simp; try with_reducible rfl)
    try simp only [List.getElem_toArray, List.getElem_cons_succ, List.getElem_cons_zero, Act.put, List.setIfInBounds_toArray, List.set_cons_zero, List.set_cons_succ]
    refine wpAnyH_take (i := 7) (v := .agg #[.int .i64 (a : Int), .int .i64 (b : Int)]) rfl (by kernel_rfl) (by kernel_rfl) (by kernel_rfl) (fun _ _ _ h => h) (Or.inl ⟨by rfl, fun w' hw' => ?yA7⟩) HH.out ?_
    case yA7 => ((have hc := hw'.2.1; have hc2 := hw'.2.2); go_simp; try with_reducible rfl)
    try simp only [List.getElem_toArray, List.getElem_cons_succ, List.getElem_cons_zero, Act.put, List.setIfInBounds_toArray, List.set_cons_zero, List.set_cons_succ]
    refine wpAnyH_take (i := 4) (v := .pointer (some ⟨pw, 0, none⟩)) rfl (by kernel_rfl) (by kernel_rfl) (by kernel_rfl) (fun _ _ _ h => h) (Or.inl ⟨by rfl, fun w' hw' => ?yA4⟩) HH.out ?_
    case yA4 => ((have hc := hw'.1); go_simp; try with_reducible rfl)
    try simp only [List.getElem_toArray, List.getElem_cons_succ, List.getElem_cons_zero, Act.put, List.setIfInBounds_toArray, List.set_cons_zero, List.set_cons_succ]
    refine wpAnyH_take (i := 10) (v := .pointer (some ⟨pw, 0, none⟩)) rfl (by kernel_rfl) (by kernel_rfl) (by kernel_rfl) (fun _ _ _ h => h) (Or.inl ⟨by rfl, fun w' hw' => ?yA10⟩) HH.out ?_
    case yA10 => ((have hc := hw'.1); go_simp; try with_reducible rfl)
    try simp only [List.getElem_toArray, List.getElem_cons_succ, List.getElem_cons_zero, Act.put, List.setIfInBounds_toArray, List.set_cons_zero, List.set_cons_succ]
    refine wpAnyH_ready (rs := [2]) (by kernel_rfl) (by simp) (AllReadyH.cons rfl (fun K hK => ?_) AllReadyH.nil)
    go_simp
    refine (HSE.out _).mono ?_
    rintro e v1 ⟨rfl, bw⟩
    have H901 := Lib.hid (show Live w1 v1 _ _ _ _ from ⟨H4.out.sys.but (but_below (T := fun _ => False) bw) (fun _ _ h => h), H4.out.new, H4.out.bel.trans (bw.mono H4.out.bel.size)⟩)
    have X901 := Lib.hid (X4.out.below bw)
    clear bw
    go_simp
    skip
    refine hK.out _ _ ⟨X901.out.cell 0, X901.out.cell 5, X901.out.cell 6⟩ (fun hh => ?_)
    have HH' := Lib.hid hh
    clear hh hK K HH
    have HH := Lib.hid HH'.out
    clear HH'
    try simp only [List.getElem_toArray, List.getElem_cons_succ, List.getElem_cons_zero, Act.put, List.setIfInBounds_toArray, List.set_cons_zero, List.set_cons_succ]
    refine wpAnyH_ready (rs := [5]) (by kernel_rfl) (by simp) (AllReadyH.cons rfl (fun K hK => ?_) AllReadyH.nil)
    go_simp
    refine (live_new H901.out (by decide) (N : Int)).mono ?_
    rintro e v2 ⟨ga2, rfl, F92, h, hf, hb⟩
    have H902 := Lib.hid h
    have X902 := Lib.hid (X901.out.but hb NF.out.1)
    have N902 := Lib.hid (show ¬F92 bX ∧ w1.heap.size ≤ bX from ⟨fun h => (hf bX h).elim NF.out.1 (fun h => by have := X901.out.lt; omega), NF.out.2⟩)
    clear h hf hb
    go_simp
    skip
    refine hK.out _ _ ⟨X902.out.cell 0, X902.out.cell 5, X902.out.cell 6⟩ (fun hh => ?_)
    have HH' := Lib.hid hh
    clear hh hK K HH
    have HH := Lib.hid HH'.out
    clear HH'
    try simp only [List.getElem_toArray, List.getElem_cons_succ, List.getElem_cons_zero, Act.put, List.setIfInBounds_toArray, List.set_cons_zero, List.set_cons_succ]
    refine wpAnyH_take (i := 12) (v := ?vB12) rfl (by kernel_rfl) (by kernel_rfl) (by kernel_rfl) (fun _ _ _ h => h) (Or.inl ⟨by rfl, fun w' _ => ?yB12⟩) HH.out ?_
    case yB12 => (go_simp; try with_reducible rfl)
    try simp only [List.getElem_toArray, List.getElem_cons_succ, List.getElem_cons_zero, Act.put, List.setIfInBounds_toArray, List.set_cons_zero, List.set_cons_succ]
    refine wpAnyH_ready (rs := [8]) (by kernel_rfl) (by simp) (AllReadyH.cons rfl (fun K hK => ?_) AllReadyH.nil)
    go_simp
    refine (HSE.out _).mono ?_
    rintro e v3 ⟨rfl, bw⟩
    have H903 := Lib.hid (show Live w1 v3 _ _ _ _ from ⟨H902.out.sys.but (but_below (T := fun _ => False) bw) (fun _ _ h => h), H902.out.new, H902.out.bel.trans (bw.mono H902.out.bel.size)⟩)
    have X903 := Lib.hid (X902.out.below bw)
    clear bw
    go_simp
    skip
    refine hK.out _ _ ⟨X903.out.cell 0, X903.out.cell 5, X903.out.cell 6⟩ (fun hh => ?_)
    have HH' := Lib.hid hh
    clear hh hK K HH
    have HH := Lib.hid HH'.out
    clear HH'
    try simp only [List.getElem_toArray, List.getElem_cons_succ, List.getElem_cons_zero, Act.put, List.setIfInBounds_toArray, List.set_cons_zero, List.set_cons_succ]
    refine wpAnyH_ready (rs := [11]) (by kernel_rfl) (by simp) (AllReadyH.cons rfl (fun K hK => ?_) AllReadyH.nil)
    go_simp
    refine (live_new H903.out (by show 1 < 1000; omega) (N : Int)).mono ?_
    rintro e v4 ⟨gb4, rfl, F94, h, hf, hb⟩
    have H904 := Lib.hid h
    have X904 := Lib.hid (X903.out.but hb N902.out.1)
    have N904 := Lib.hid (show ¬F94 bX ∧ w1.heap.size ≤ bX from ⟨fun h => (hf bX h).elim N902.out.1 (fun h => by have := X903.out.lt; omega), N902.out.2⟩)
    clear h hf hb
    go_simp
    skip
    refine hK.out _ _ ⟨X904.out.cell 0, X904.out.cell 5, X904.out.cell 6⟩ (fun hh => ?_)
    have HH' := Lib.hid hh
    clear hh hK K HH
    have HH := Lib.hid HH'.out
    clear HH'
    try simp only [List.getElem_toArray, List.getElem_cons_succ, List.getElem_cons_zero, Act.put, List.setIfInBounds_toArray, List.set_cons_zero, List.set_cons_succ]
    refine wpAnyH_ready (rs := [13]) (by kernel_rfl) (by simp) (AllReadyH.cons rfl (fun K hK => ?_) AllReadyH.nil)
    have y1 := X904.out.cell 1
    have y2 := X904.out.free 1
    go_simp
    obtain ⟨v5, hv⟩ : ∃ W, W = World.setCell v4 ⟨bX, 1, none⟩ (.pointer (some ⟨ga2, 0, none⟩)) := ⟨_, rfl⟩
    rw [← hv]
    have hb : But (fun k => k = bX) v4 v5 := by rw [hv]; exact But.setCell (S := fun k => k = bX) (But.refl _) (Or.inl rfl) _
    have X905 := Lib.hid (show Blk v5 bX #[.pointer (some ⟨pw, 0, none⟩), .pointer (some ⟨ga2, 0, none⟩), .pointer none, .pointer none, .pointer none, .int .i64 (a : Int), .int .i64 (b : Int)] 73 by rw [hv]; exact heap_setCell_same _ _ _ _ _ _ X904.out)
    have H905 := Lib.hid (live_box H904.out hb N904.out.1 N904.out.2)
    clear hv hb y1 y2
    skip
    refine hK.out _ _ ⟨X905.out.cell 0, X905.out.cell 5, X905.out.cell 6⟩ (fun hh => ?_)
    have HH' := Lib.hid hh
    clear hh hK K HH
    have HH := Lib.hid HH'.out
    clear HH'
    try simp only [List.getElem_toArray, List.getElem_cons_succ, List.getElem_cons_zero, Act.put, List.setIfInBounds_toArray, List.set_cons_zero, List.set_cons_succ]
    refine wpAnyH_take (i := 14) (v := ?vZ614) rfl (by kernel_rfl) (by kernel_rfl) (by kernel_rfl) (fun _ _ _ h => h) (Or.inl ⟨by rfl, fun w' _ => ?yZ614⟩) HH.out ?_
    case yZ614 => (go_simp; try with_reducible rfl)
    try simp only [List.getElem_toArray, List.getElem_cons_succ, List.getElem_cons_zero, Act.put, List.setIfInBounds_toArray, List.set_cons_zero, List.set_cons_succ]
    refine wpAnyH_ready (rs := [15]) (by kernel_rfl) (by simp) (AllReadyH.cons rfl (fun K hK => ?_) AllReadyH.nil)
    have y1 := X905.out.cell 2
    have y2 := X905.out.free 2
    go_simp
    obtain ⟨v7, hv⟩ : ∃ W, W = World.setCell v5 ⟨bX, 2, none⟩ (.pointer (some ⟨gb4, 0, none⟩)) := ⟨_, rfl⟩
    rw [← hv]
    have hb : But (fun k => k = bX) v5 v7 := by rw [hv]; exact But.setCell (S := fun k => k = bX) (But.refl _) (Or.inl rfl) _
    have X907 := Lib.hid (show Blk v7 bX #[.pointer (some ⟨pw, 0, none⟩), .pointer (some ⟨ga2, 0, none⟩), .pointer (some ⟨gb4, 0, none⟩), .pointer none, .pointer none, .int .i64 (a : Int), .int .i64 (b : Int)] 73 by rw [hv]; exact heap_setCell_same _ _ _ _ _ _ X905.out)
    have H907 := Lib.hid (live_box H905.out hb N904.out.1 N904.out.2)
    clear hv hb y1 y2
    skip
    refine hK.out _ _ ⟨X907.out.cell 0, X907.out.cell 5, X907.out.cell 6⟩ (fun hh => ?_)
    have HH' := Lib.hid hh
    clear hh hK K HH
    have HH := Lib.hid HH'.out
    clear HH'
    try simp only [List.getElem_toArray, List.getElem_cons_succ, List.getElem_cons_zero, Act.put, List.setIfInBounds_toArray, List.set_cons_zero, List.set_cons_succ]
    refine wpAnyH_done (by kernel_rfl) ?_ _
    exact hG ga2 gb4 v7 ⟨⟨_, H907.out, N904.out.1⟩, X907.out⟩
  case rest =>
    rintro g1 g2 w5 ⟨⟨F5, hl5, hn5⟩, hx5⟩
    have H5 := Lib.hid hl5
    have X5 := Lib.hid hx5
    have N5 := Lib.hid hn5
    clear hl5 hx5 hn5
    have hzl : ∀ W, (zeroValue 111).run Try.prog W = .ok (.agg zeroLit) W := fun _ => by kernel_rfl
    go_wp2_with fail
    refine wp_region_held_drew (S := (fun w' => w'.cell? ⟨bX, 1, none⟩ = some (.pointer (some ⟨g1, 0, none⟩)) ∧ w'.cell? ⟨bX, 2, none⟩ = some (.pointer (some ⟨g2, 0, none⟩)))) (by kernel_rfl) ⟨(show (World.drew _).cell? _ = _ from X5.out.cell 1), (show (World.drew _).cell? _ = _ from X5.out.cell 2)⟩ (fun hh => ?_)
    have HH := Lib.hid hh
    clear hh
    have H6 := Lib.hid H5.out.drew
    have X6 := Lib.hid (show Blk w5.drew bX _ _ from X5.out)
    clear H5 X5
    obtain ⟨w6, hw6⟩ : ∃ W, W = w5.drew := ⟨_, rfl⟩
    rw [← hw6] at H6 X6 HH ⊢
    clear hw6
    try simp only [List.getElem_toArray, List.getElem_cons_succ, List.getElem_cons_zero, Act.put, List.setIfInBounds_toArray, List.set_cons_zero, List.set_cons_succ]
    refine wpAnyH_take (i := 0) (v := ?vC0) rfl (by kernel_rfl) (by kernel_rfl) (by kernel_rfl) (fun _ _ _ h => h) (Or.inl ⟨by rfl, fun w' _ => ?yC0⟩) HH.out ?_
    case yC0 => (go_simp; try with_reducible rfl)
    try simp only [List.getElem_toArray, List.getElem_cons_zero, Act.put, List.setIfInBounds_toArray, List.set_cons_zero, List.set_cons_succ]
    refine wpAnyH_take (i := 2) (v := ?vC2) rfl (by kernel_rfl) (by kernel_rfl) (by kernel_rfl) (fun _ _ _ h => h) (Or.inl ⟨by rfl, fun w' _ => ?yC2⟩) HH.out ?_
    case yC2 => (go_simp; try with_reducible rfl)
    try simp only [List.getElem_toArray, List.getElem_cons_succ, List.getElem_cons_zero, Act.put, List.setIfInBounds_toArray, List.set_cons_zero, List.set_cons_succ]
    refine wpAnyH_take (i := 1) (v := .pointer (some ⟨g1, 0, none⟩)) rfl (by kernel_rfl) (by kernel_rfl) (by kernel_rfl) (fun _ _ _ h => h) (Or.inl ⟨by rfl, fun w' hw' => ?yC1⟩) HH.out ?_
    case yC1 => ((have hc := hw'.1); go_simp; try with_reducible rfl)
    try simp only [List.getElem_toArray, List.getElem_cons_succ, List.getElem_cons_zero, Act.put, List.setIfInBounds_toArray, List.set_cons_zero, List.set_cons_succ]
    refine wpAnyH_take (i := 3) (v := .pointer (some ⟨g2, 0, none⟩)) rfl (by kernel_rfl) (by kernel_rfl) (by kernel_rfl) (fun _ _ _ h => h) (Or.inl ⟨by rfl, fun w' hw' => ?yC3⟩) HH.out ?_
    case yC3 => ((have hc := hw'.2); go_simp; try with_reducible rfl)
    try simp only [List.getElem_toArray, List.getElem_cons_succ, List.getElem_cons_zero, Act.put, List.setIfInBounds_toArray, List.set_cons_zero, List.set_cons_succ]
    refine wpAnyH_take (i := 4) (v := .agg zeroLit) rfl (by kernel_rfl) (by kernel_rfl) (by kernel_rfl) (fun _ _ _ h => h) (Or.inl ⟨by rfl, fun w' hw' => ?yC4⟩) HH.out ?_
    case yC4 => (go_simp; try with_reducible rfl)
    try simp only [List.getElem_toArray, List.getElem_cons_succ, List.getElem_cons_zero, Act.put, List.setIfInBounds_toArray, List.set_cons_zero, List.set_cons_succ]
    refine wpAnyH_take (i := 5) (v := ?vC5) rfl (by kernel_rfl) (by kernel_rfl) (by kernel_rfl) (fun _ _ _ h => h) (Or.inl ⟨by rfl, fun w' _ => ?yC5⟩) HH.out ?_
    case yC5 => (go_simp; try with_reducible rfl)
    try simp only [List.getElem_toArray, List.getElem_cons_succ, List.getElem_cons_zero, Act.put, List.setIfInBounds_toArray, List.set_cons_zero, List.set_cons_succ]
    refine wpAnyH_ready (rs := [6]) (by kernel_rfl) (by simp) (AllReadyH.cons rfl (fun K hK => ?_) AllReadyH.nil)
    go_simp
    refine (good_iface 111 (.agg zeroLit) _).mono ?_
    rintro e w7 ⟨rfl, hw7⟩
    obtain ⟨bG, hbG⟩ : ∃ v, v = w6.heap.size := ⟨_, rfl⟩
    rw [← hbG]
    have bw : Below w6.heap.size w6 w7 := by rw [hw7]; exact (Below.refl _ _).alloc (Nat.le_refl _) _
    have HBG := Lib.hid (show Blk w7 bG #[litS.v] 152 by rw [hw7, hbG]; exact heap_alloc_new _ _)
    have NG := Lib.hid (show ¬F5 bG ∧ w1.heap.size ≤ bG ∧ bX ≠ bG from ⟨fun hf => by have := H6.out.sys.lt bG hf; omega, by rw [hbG]; exact H6.out.bel.size, by have := X6.out.lt; omega⟩)
    have H7 := Lib.hid (show Live w1 w7 _ _ _ _ from ⟨H6.out.sys.but (but_below (T := fun _ => False) bw) (fun _ _ h => h), H6.out.new, H6.out.bel.trans (bw.mono H6.out.bel.size)⟩)
    have X7 := Lib.hid (X6.out.below bw)
    clear bw hw7 hbG
    go_simp
    refine hK.out _ _ ⟨X7.out.cell 1, X7.out.cell 2⟩ (fun hh => ?_)
    have HH' := Lib.hid hh
    clear hh hK K HH H6 X6
    have HH := Lib.hid HH'.out
    clear HH'
    try simp only [List.getElem_toArray, List.getElem_cons_succ, List.getElem_cons_zero, Act.put, List.setIfInBounds_toArray, List.set_cons_zero, List.set_cons_succ]
    refine wpAnyH_ready (rs := [7]) (by kernel_rfl) (by simp) (AllReadyH.cons rfl (fun K hK => ?_) AllReadyH.nil)
    go_simp
    have hsee := Mu.see_new N HN.out.2
    refine (lm_newB (G := gdS litS bG) (fun _ _ _ _ _ _ => trivial) (Mu.ld_new (g1 := g1) (g2 := g2) H7.out hsee.1 hsee.2) (fun y hy => by rw [show (gdS litS bG).l = [(bG, #[litS.v], 152)] from rfl, List.mem_singleton] at hy; subst hy; exact ⟨HBG.out, NG.out.1, NG.out.2.1⟩) (n := N) List.length_replicate List.length_replicate).mono ?_
    rintro e w8 ⟨g, s8, F8, rfl, h, hf, hb⟩
    have H8 := Lib.hid h
    have NX : ¬F5 bX ∧ bX ≠ bG := ⟨N5.out, NG.out.2.2⟩
    have hmem : ∀ k, (∃ y ∈ (gdS litS bG).l, k = y.1) → k = bG := fun k hk => by obtain ⟨y, hy, e⟩ := hk; rw [show (gdS litS bG).l = [(bG, #[litS.v], 152)] from rfl, List.mem_singleton] at hy; rw [e, hy]
    have X8 := Lib.hid (X7.out.but hb (fun hx => hx.elim NX.1 (fun h => NX.2 (hmem _ h))))
    have N8 := Lib.hid (show ¬F8 bX from fun hx => (hf bX hx).elim (fun hx => hx.elim NX.1 (fun h => NX.2 (hmem _ h))) (fun hx => by have := X7.out.lt; omega))
    clear h hf hb hsee NX hmem
    go_simp
    refine hK.out _ _ ⟨X8.out.cell 1, X8.out.cell 2⟩ (fun hh => ?_)
    have HH' := Lib.hid hh
    clear hh hK K HH H7 X7 HBG NG N5
    have HH := Lib.hid HH'.out
    clear HH'
    try simp only [List.getElem_toArray, List.getElem_cons_succ, List.getElem_cons_zero, Act.put, List.setIfInBounds_toArray, List.set_cons_zero, List.set_cons_succ]
    refine wpAnyH_take (i := 8) (v := ?vD8) rfl (by kernel_rfl) (by kernel_rfl) (by kernel_rfl) (fun _ _ _ h => h) (Or.inl ⟨by rfl, fun w' _ => ?yD8⟩) HH.out ?_
    case yD8 => (go_simp; try with_reducible rfl)
    try simp only [List.getElem_toArray, List.getElem_cons_succ, List.getElem_cons_zero, Act.put, List.setIfInBounds_toArray, List.set_cons_zero, List.set_cons_succ]
    refine wpAnyH_ready (rs := [9]) (by kernel_rfl) (by simp) (AllReadyH.cons rfl (fun K hK => ?_) AllReadyH.nil)
    have y1 := X8.out.cell 3
    have y2 := X8.out.free 3
    go_simp
    obtain ⟨w9, hv⟩ : ∃ W, W = World.setCell w8 ⟨bX, 3, none⟩ (.pointer (some ⟨g, 0, none⟩)) := ⟨_, rfl⟩
    rw [← hv]
    have hb : But (fun k => k = bX) w8 w9 := by rw [hv]; exact But.setCell (S := fun k => k = bX) (But.refl _) (Or.inl rfl) _
    have X9 := Lib.hid (show Blk w9 bX #[.pointer (some ⟨pw, 0, none⟩), .pointer (some ⟨g1, 0, none⟩), .pointer (some ⟨g2, 0, none⟩), .pointer (some ⟨g, 0, none⟩), .pointer none, .int .i64 (a : Int), .int .i64 (b : Int)] 73 by rw [hv]; exact heap_setCell_same _ _ _ _ _ _ X8.out)
    have H9 := Lib.hid (lm_box H8.out hb N8.out NF.out.2)
    clear hv hb y1 y2
    refine hK.out _ _ ⟨X9.out.cell 1, X9.out.cell 2⟩ (fun hh => ?_)
    clear hh hK K HH H8 X8
    try simp only [List.getElem_toArray, List.getElem_cons_succ, List.getElem_cons_zero, Act.put, List.setIfInBounds_toArray, List.set_cons_zero, List.set_cons_succ]
    refine wpAnyH_done (by kernel_rfl) ?_ _
    have c3 := X9.out.cell 3
    have c5 := X9.out.cell 5
    have c6 := X9.out.cell 6
    go_wp2_with fail
    refine (lgm_new H9.out a b HOK.out (by show 2 + a * b ≤ (List.replicate N false).length; rw [List.length_replicate, HN.out.1]; exact Nat.le_refl _)).mono ?_
    rintro e w10 ⟨q, F10, rfl, h, hf, bw⟩
    have H10 := Lib.hid h
    have X10 := Lib.hid (X9.out.below bw)
    have N10 := Lib.hid (show ¬F10 bX from fun hx => (hf bX hx).elim N8.out (fun h => by have := X9.out.lt; omega))
    clear h hf bw c3 c5 c6 H9 X9 N8
    have y1 := X10.out.cell 4
    have y2 := X10.out.free 4
    go_wp2_with (show wpList _ _ _ ({ dst := _, op := .load 73 (.tmp 6), type := _, pos := _, after := _, guard := _ } :: _) _ _
                 apply Classical.byContradiction
                 intro hneg)
    refine hneg ?_
    clear hneg
    obtain ⟨w11, hv⟩ : ∃ W, W = World.setCell w10 ⟨bX, 4, none⟩ (.pointer (some ⟨q, 0, none⟩)) := ⟨_, rfl⟩
    rw [← hv]
    have hb : But (fun k => k = bX) w10 w11 := by rw [hv]; exact But.setCell (S := fun k => k = bX) (But.refl _) (Or.inl rfl) _
    have X11 := Lib.hid (show Blk w11 bX (rigC pw g1 g2 g q a b) 73 by rw [hv]; exact heap_setCell_same _ _ _ _ _ _ X10.out)
    have H11 := Lib.hid (lgm_box H10.out hb N10.out NF.out.2)
    have R11 := Lib.hid (R1.out.below H11.out.live.bel)
    clear hv hb y1 y2 H10 X10
    refine wpList_load_row rfl 73 (.tmp 6) rfl bX rfl 73 (rigC pw g1 g2 g q a b) (0, 0) _ X11.out Try.underlying73 rfl rfl ?_
    go_wp2_with (show wpList _ _ _ ({ dst := _, op := .store 73 (.tmp 4) (.tmp 62), type := _, pos := _, after := _, guard := _ } :: _) _ _
                 apply Classical.byContradiction
                 intro hneg)
    refine hneg ?_
    clear hneg
    refine wpList_store_row rfl 73 (.tmp 4) (.tmp 62) rfl w.heap.size (rigC pw g1 g2 g q a b) rfl rfl 73 _ R11.out rfl rfl (by simp [rigC, Value.oneCell']) ?_
    go_wp2_with fail
    have hs1 : w.heap.size < w1.heap.size := R1.out.lt
    have hres := fun tm htm => results_ct8 (P := Try.prog) Try.results30 tm (w11.setRow w.heap.size (rigC pw g1 g2 g q a b)) w.heap.size 73 (rigC pw g1 g2 g q a b) _ htm (setRow_heap _ _ _ _ _ _ R11.out) Try.underlying73 rfl rfl
    refine bodyPost_ret (hres _ rfl) rfl ⟨pw, g1, g2, bG, g, q, s8, F10, rfl, ?_⟩
    have h := lgm_box (LgM.base H11.out BW1.out) (b := w.heap.size) (w' := w11.setRow w.heap.size (rigC pw g1 g2 g q a b)) (But.setRow (S := fun k => k = w.heap.size) (But.refl _) (Or.inl rfl) _) (fun hx => by have := H11.out.live.new _ hx; omega) (Nat.le_refl _)
    have e : (Sc.startM (zerosL (2 + a * b)) (zerosL (2 + a * b)) (2 + a * b)) = ⟨List.replicate N zeroS, List.replicate N zeroS, false, false, List.replicate N false, List.replicate N false⟩ := by rw [← HN.out.1]; rfl
    rw [e]
    exact h
end Go.Proofs.Ythadomboiockhaa.Lo
/-
  A log no segment of which was freed, on two devices that are both in and alike: what stands is all that was appended.
-/
namespace Go.Proofs.Ythadomboiockhaa.Lo
open Go.RowKit Kd Mi Sx
theorem one_write {L M : List (List UInt8)} {n j : Nat} (hj : j < n) (y : List UInt8) : (Sc.startM L M n).write j y = (0, Sc.startM (L.set j y) (M.set j y) n) := by
  have hh : (Sc.startM L M n).has (j : Int) = true := by rw [Md.has, Sc.start_len]; simp; omega
  have hr : (List.replicate n false).set j false = List.replicate n false := by
    apply List.ext_getElem
    · simp
    · intro i h1 h2
      rw [List.getElem_set]
      simp
  rw [Md.write, hh, if_pos rfl, if_neg (by show ¬ (false && false) = true; simp), Int.toNat_natCast]
  show ((0 : Int), (⟨L.set j y, M.set j y, false, false, (List.replicate n false).set j false, (List.replicate n false).set j false⟩ : Md)) = _
  rw [hr]; rfl
theorem one_read {L : List (List UInt8)} {n k : Nat} {f : Int → List UInt8 → Bool} (hk : k < n) : (Sc.startM L L n).read f (k : Int) = if f (k : Int) (L.getD k zeroS) then (L.getD k zeroS, 0) else (zeroS, 9) := by
  obtain ⟨y, hy⟩ : ∃ y, y = L.getD k zeroS := ⟨_, rfl⟩
  rw [← hy]
  have hh : (Sc.startM L L n).has (k : Int) = true := by rw [Md.has, Sc.start_len]; simp; omega
  have h0 : (Sc.startM L L n).right f 0 k = f (k : Int) y := by
    rw [Md.right]
    show (!((List.replicate n false).getD k false) && (!false && f (k : Int) (L.getD k zeroS))) = _
    rw [← hy, show (List.replicate n false).getD k false = false by rw [List.getD_eq_getElem?_getD, List.getElem?_replicate]; split <;> rfl]; rfl
  have h1 : (Sc.startM L L n).right f 1 k = f (k : Int) y := by
    rw [Md.right]
    show (!((List.replicate n false).getD k false) && (!false && f (k : Int) (L.getD k zeroS))) = _
    rw [← hy, show (List.replicate n false).getD k false = false by rw [List.getD_eq_getElem?_getD, List.getElem?_replicate]; split <;> rfl]; rfl
  rw [Md.read, hh, if_pos rfl, Int.toNat_natCast, h0, h1]
  show (if f (k : Int) y = true then (L.getD k zeroS, (0 : Int)) else if f (k : Int) y = true then (L.getD k zeroS, 0) else (zeroS, if (false && false) = true then 13 else 9)) = _
  rw [← hy]
  cases f (k : Int) y <;> rfl
/-- What Read tells of one list. -/
theorem one_readX {L : List (List UInt8)} {n k b : Nat} {l : Lg} (hk : k < n) :
    readX (gdS litS b) (Sc.startM L L n) l (k : Int) = (if 2 ≤ k ∧ k < 2 + l.gens.length * l.size ∧ l.gens.getD ((k - 2) / l.size) 0 ≠ 0 then
      (match seenA litSumL L k with
        | some p => if p.1 = l.gens.getD ((k - 2) / l.size) 0 then (p.2, 0) else ([], 9)
        | none => ([], 9)) else ([], 2) : List UInt8 × Int) := by
  have hr := one_read (L := L) (n := n) (f := (gdS litS b).f) hk
  obtain ⟨r, hr'⟩ : ∃ r, r = (Sc.startM L L n).read (gdS litS b).f (k : Int) := ⟨_, rfl⟩
  rw [← hr'] at hr
  rw [readX, ← hr', Int.toNat_natCast]
  by_cases hc : 2 ≤ k ∧ k < 2 + l.gens.length * l.size ∧ l.gens.getD ((k - 2) / l.size) 0 ≠ 0
  · have hz : (k : Int) < 2 + (l.gens.length : Int) * (l.size : Int) := by
      have := hc.2.1
      have e : ((l.gens.length * l.size : Nat) : Int) = (l.gens.length : Int) * (l.size : Int) := Int.natCast_mul _ _
      omega
    rw [if_pos ⟨by omega, hz, hc.2.2⟩, if_pos hc]
    by_cases ho : okS litSumL (k : Int) (L.getD k zeroS) = true
    · have e : r = (L.getD k zeroS, 0) := by rw [hr]; exact if_pos ho
      rw [seenA, if_pos ho, e, if_pos rfl]
      show (if okS litSumL (k : Int) (L.getD k zeroS) = true ∧ genS (L.getD k zeroS) = l.gens.getD ((k - 2) / l.size) 0 then (bodyS (L.getD k zeroS), (0 : Int)) else ([], 9)) = (if genS (L.getD k zeroS) = l.gens.getD ((k - 2) / l.size) 0 then (bodyS (L.getD k zeroS), (0 : Int)) else ([], 9))
      by_cases hg : genS (L.getD k zeroS) = l.gens.getD ((k - 2) / l.size) 0
      · rw [if_pos ⟨ho, hg⟩, if_pos hg]
      · rw [if_neg (fun h => hg h.2), if_neg hg]
    · have e : r = (zeroS, 9) := by rw [hr]; exact if_neg ho
      rw [seenA, if_neg ho, e, if_neg (show ¬(9 : Int) = 0 by omega)]
  · have hz : ¬(2 ≤ (k : Int) ∧ (k : Int) < 2 + (l.gens.length : Int) * (l.size : Int) ∧ l.gens.getD ((k - 2) / l.size) 0 ≠ 0) := fun h => hc ⟨by omega, by
      have := h.2.1
      have e : ((l.gens.length * l.size : Nat) : Int) = (l.gens.length : Int) * (l.size : Int) := Int.natCast_mul _ _
      omega, h.2.2⟩
    rw [if_neg hz, if_neg hc]
section
variable {p g1 g2 bx g q : Nat} {w0 w w' : World} {s s' : Mr (Mu.one p g1 g2)} {F : Nat → Prop} {size segs m : Nat} {L all : List (List UInt8)}
/-- A log to which all was appended, no segment of which was freed. -/
structure LgA (p g1 g2 bx g q : Nat) (w0 w : World) (s : Mr (Mu.one p g1 g2)) (F : Nat → Prop) (size segs : Nat) (L all : List (List UInt8)) (m : Nat) : Prop where
  lg : LgM p g1 g2 (gdS litS bx) g q w0 w s (lgT size segs all.length) F (Sc.startM L L (2 + segs * size)) m
  len : L.length = 2 + segs * size
  has : hasT litSumL size (segs * size) L all
  ok : Sg.okS (segs : Int) (size : Int)
  le : all.length ≤ segs * size
  small : segs * size < 2000
def RetLA (v : Value) (p g1 g2 bx g q : Nat) (w0 : World) (size segs : Nat) (all : List (List UInt8)) (m : Nat) (F : Nat → Prop) (w : World) (e : Ending) (w' : World) : Prop :=
  e = .returned v ∧ ∃ (s : Mr (Mu.one p g1 g2)) (F' : Nat → Prop) (L : List (List UInt8)), LgA p g1 g2 bx g q w0 w' s F' size segs L all m ∧ Mv (LogL (Mu.one p g1 g2) (gdS litS bx) g q litS) w F w' (s, lgT size segs all.length) F'
theorem LgA.below (h : LgA p g1 g2 bx g q w0 w s F size segs L all m) (hb : Below w.heap.size w w') : LgA p g1 g2 bx g q w0 w' s F size segs L all m := ⟨h.lg.below hb, h.len, h.has, h.ok, h.le, h.small⟩
theorem LgA.more (h : LgA p g1 g2 bx g q w0 w s F size segs L all m) {m' : Nat} (hm : m ≤ m') : LgA p g1 g2 bx g q w0 w s F size segs L all m' := ⟨h.lg.more hm, h.len, h.has, h.ok, h.le, h.small⟩
theorem LgA.pos (h : LgA p g1 g2 bx g q w0 w s F size segs L all m) : 0 < size ∧ 0 < segs := by have := h.ok; unfold Sg.okS at this; omega
theorem lgTlast (size segs T : Nat) : (lgT size segs T).last ≤ T + 1 := by
  have h := (last_Q (size := size) (segs := segs) (q := T / size) (r := T % size)).1
  have h2 : T / size ≤ T := Nat.div_le_self _ _
  show (lgQ size segs (T / size) (T % size)).last ≤ T + 1
  omega
/-- One more. -/
theorem lga_append (h : LgA p g1 g2 bx g q w0 w s F size segs L all m) (hT : all.length < segs * size) (hm : m < 900000) (A : Option Addr) (n c : Nat) (b : List UInt8) (hb : b.length = n) (hb3 : n ≤ 103) (hr : Rd w.heap.size w A (bv b)) :
    Calls Try.prog 35 #[.pointer (some ⟨q, 0, none⟩), .slice A n c] w (RetLA (.tuple #[.int .i64 ((2 + all.length : Nat) : Int), .int .i64 0]) p g1 g2 bx g q w0 size segs (all ++ [b]) (m + 2) F w) := by
  have hp := h.pos.1
  have hl := lgTlast size segs all.length
  have hs := h.small
  have hat : (lgT size segs all.length).at_ (all.length / size, all.length % size, all.length / size + 1) = 2 + all.length := at_T
  have hw := one_write (L := L) (M := L) (n := 2 + segs * size) (j := 2 + all.length) (by omega) (sealedS litS.f ((2 + all.length : Nat) : Int) (all.length / size + 1) b)
  have hc := lgm_append h.lg hm (by omega) hp (next_T hp hT) A n c b hb hb3 hr (by rw [hat, hw])
  rw [hat, hw, put_T hp] at hc
  refine hc.mono ?_
  rintro e w' ⟨rfl, s', F', hlg, hmv⟩
  have e : (all ++ [b]).length = all.length + 1 := by simp
  refine ⟨rfl, s', F', _, ⟨by rw [e]; exact hlg, by rw [List.length_set]; exact h.len, hasTsnoc litSumL_length h.has (by omega) hT (by rw [h.len]; omega) (by omega), h.ok, by rw [e]; omega, hs⟩, by rw [e]; exact hmv⟩
theorem lga_full (h : LgA p g1 g2 bx g q w0 w s F size segs L all m) (hT : all.length = segs * size) (hm : m < 900000) (A : Option Addr) (n c : Nat) (b : List UInt8) (hb : b.length = n) (hb3 : n ≤ 103) (hr : Rd w.heap.size w A (bv b)) :
    Calls Try.prog 35 #[.pointer (some ⟨q, 0, none⟩), .slice A n c] w (RetLA (.tuple #[.int .i64 0, .int .i64 6]) p g1 g2 bx g q w0 size segs all m F w) := by
  have hl := lgTlast size segs all.length
  have hs := h.small
  have hc := lgm_append_full h.lg hm (by omega) (by rw [hT]; exact next_full h.pos.1) A n c b hb hb3 hr
  refine hc.mono ?_
  rintro e w' ⟨rfl, s', F', hlg, hmv⟩
  exact ⟨rfl, s', F', L, ⟨hlg, h.len, h.has, h.ok, h.le, h.small⟩, hmv⟩
theorem lga_flush (h : LgA p g1 g2 bx g q w0 w s F size segs L all m) : Calls Try.prog 34 #[.pointer (some ⟨q, 0, none⟩)] w (RetLA (.int .i64 0) p g1 g2 bx g q w0 size segs all 0 F w) := by
  refine (lgm_flush h.lg).mono ?_
  rintro e w' ⟨rfl, s', F', hlg, hmv⟩
  exact ⟨rfl, s', F', L, ⟨hlg, h.len, h.has, h.ok, h.le, h.small⟩, hmv⟩
/-- What was appended is read. -/
theorem lga_read (h : LgA p g1 g2 bx g q w0 w s F size segs L all m) {t : Nat} (ht : t < all.length) :
    Calls Try.prog 39 #[.pointer (some ⟨q, 0, none⟩), .int .i64 ((2 + t : Nat) : Int)] w (fun e w' => ∃ A n c F', e = .returned (.tuple #[.slice A n c, .int .i64 0]) ∧ w'.ownsRow w.heap.size 5 1 (.slice A n c) n (bv (all.getD t [])) ∧
      LgA p g1 g2 bx g q w0 w' s F' size segs L all m ∧ Mv (LogL (Mu.one p g1 g2) (gdS litS bx) g q litS) w F w' (s, lgT size segs all.length) F' ∧ ∀ j, (Value.slice A n c).ownBlock = some j → ¬F' j) := by
  have hp := h.pos.1
  have hle := h.le
  have hq : t / size < segs := (div_lt_segs hp).2 (by omega)
  have hg : (lgT size segs all.length).gens.getD (t / size) 0 = t / size + 1 := by
    have h1 : t / size < all.length / size ∨ (t / size = all.length / size ∧ 0 < all.length % size) := by
      rcases Nat.lt_or_ge (t / size) (all.length / size) with h1 | h1
      · exact .inl h1
      · have h2 : t / size ≤ all.length / size := Nat.div_le_div_right (by omega)
        refine .inr ⟨by omega, ?_⟩
        have h3 := Nat.div_add_mod all.length size
        have h4 := Nat.div_add_mod t size
        have h5 : t / size = all.length / size := by omega
        rw [h5] at h4
        omega
    simp only [lgT, lgQ, List.getD_eq_getElem?_getD, List.getElem?_map, List.getElem?_range hq, Option.map_some, Option.getD_some]
    rw [if_pos h1]
  have hgl : (lgT size segs all.length).gens.length = segs := by simp [lgT, lgQ]
  have e : readX (gdS litS bx) (Sc.startM L L (2 + segs * size)) (lgT size segs all.length) ((2 + t : Nat) : Int) = (all.getD t [], 0) := by
    have hsz : (lgT size segs all.length).size = size := rfl
    rw [one_readX (by omega), hgl, hsz, show 2 + t - 2 = t by omega, hg, if_pos ⟨by omega, by omega, Nat.succ_ne_zero _⟩, Nat.add_comm 2 t, h.has t (by omega), if_pos ht]
    show (if t / size + 1 = t / size + 1 then (all.getD t [], (0 : Int)) else ([], 9)) = _
    rw [if_pos rfl]
  have hc := lgm_read h.lg ((2 + t : Nat) : Int)
  rw [e] at hc
  refine hc.mono ?_
  rintro e w' ⟨A, n, c, F', rfl, ho, hlg, hmv, hd⟩
  exact ⟨A, n, c, F', rfl, ho, ⟨hlg, h.len, h.has, h.ok, h.le, h.small⟩, hmv, hd⟩
theorem made_lga {a b : Nat} (hab : a * b < 24 + 1) (hok : Sg.okS (a : Int) (b : Int)) (h : LgM p g1 g2 (gdS litS bx) g q w0 w s (Lg.new a b) F (Sc.startM (zerosL (2 + a * b)) (zerosL (2 + a * b)) (2 + a * b)) m) : LgA p g1 g2 bx g q w0 w s F b a (zerosL (2 + a * b)) [] m :=
  ⟨by rw [List.length_nil, lgTzero]; exact h, by simp [zerosL], hasTzero (fun k hk => zero_no (by omega)), hok, Nat.zero_le _, by omega⟩
end
end Go.Proofs.Ythadomboiockhaa.Lo
/-
  A log to which bodies were appended, opened again.
-/
namespace Go.Proofs.Ythadomboiockhaa.Lo
open Go.RowKit Kd Mi Sx
theorem chosen_same (f : List UInt8 → List UInt8 → List UInt8) (L : List (List UInt8)) (N : Nat) : chosen f L L L N = L := by
  induction N with
  | zero => rfl
  | succ k ih =>
    rw [chosen, best_same]
    split
    · rename_i s hs
      split at hs
      · simp only [Option.some.injEq] at hs
        subst hs
        rw [ih]
        by_cases h : k + 2 < L.length
        · rw [List.getD_eq_getElem?_getD, List.getElem?_eq_getElem h, Option.getD_some, List.set_getElem_self]
        · rw [List.set_eq_of_length_le (by omega)]
      · cases hs
    · exact ih
section
variable {p g1 g2 bx g q : Nat} {w0 w w' : World} {s s' : Mr (Mu.one p g1 g2)} {F : Nat → Prop} {size segs m : Nat} {L all : List (List UInt8)}
/-- Open, where all was appended. -/
def RetOA (p g1 g2 bx g : Nat) (w0 : World) (size segs : Nat) (L all : List (List UInt8)) (F : Nat → Prop) (w : World) (e : Ending) (w' : World) : Prop :=
  ∃ q A k c fd s' F' FF, e = .returned (.tuple #[.pointer (some ⟨q, 0, none⟩), .slice A k c, .int .i64 0]) ∧ LgA p g1 g2 bx g q w0 w' s' F' size segs L all 0 ∧
    (FdL A k c).At w' fd FF ∧ fd.map Fd.it = itemsT size all ∧ (∀ j, F' j → F j ∨ w.heap.size ≤ j) ∧ (∀ j, FF j → w.heap.size ≤ j) ∧ (∀ j, F' j → FF j → False) ∧ But F w w'
theorem items_pos (size : Nat) (all : List (List UInt8)) : ∀ x ∈ itemsT size all, 1 ≤ x.2.1 := fun x hx => by
  obtain ⟨t, _, rfl⟩ := List.mem_map.1 hx
  exact Nat.succ_pos _
theorem open_lga (h : Mu.LM p g1 g2 (gdS litS bx) g w0 w s F (Sc.startM L L (2 + segs * size)) m) (hm : m < 800000) (hlen : L.length = 2 + segs * size) (has : hasT litSumL size (segs * size) L all) (ok : Sg.okS (segs : Int) (size : Int)) (hle : all.length ≤ segs * size) (hsm : segs * size < 2000) :
    Calls Try.prog 41 #[.pointer (some ⟨g, 0, none⟩), litS.v, .agg #[.int .i64 segs, .int .i64 size]] w (RetOA p g1 g2 bx g w0 size segs L all F w) := by
  have hs0 : 0 < size := by unfold Sg.okS at ok; omega
  have hb : baseF litS.f L L (2 + segs * size) = itemsT size all := base_T has hle
  refine (open_any h hlen hlen hm segs size ok (Nat.le_refl _) (by rw [hb]; exact items_pos size all)).mono ?_
  rintro e w' ⟨q, A, k, c, fd, s', F', FF, rfl, hlg, hfd, hp, ho, h1, h2, h3, h4⟩
  rw [hb] at hp
  have hone : fd.map Fd.it = itemsT size all := sorted_one hp ho (itemsTsorted size all)
  rw [hone, show (itemsT size all).foldl Lg.learn (Lg.new segs size) = lgOf segs size (itemsT size all) from rfl, lgOf_T hs0 all hle, chosen_same] at hlg
  exact ⟨q, A, k, c, fd, s', F', FF, rfl, ⟨hlg, hlen, has, ok, hle, hsm⟩, hfd, hone, h1, h2, h3, h4⟩
end
end Go.Proofs.Ythadomboiockhaa.Lo
/-
  The document's example comes out true.
-/
namespace Go.Proofs.Ythadomboiockhaa.Lo
open Go.RowKit Kd Mi Sx
attribute [local go_sem ↓] Go.wp_at_zero Go.wp_at_succ
theorem LgA.box {p g1 g2 bx g q : Nat} {w0 w w' : World} {s : Mr (Mu.one p g1 g2)} {F : Nat → Prop} {size segs m b : Nat} {L all : List (List UInt8)} (h : LgA p g1 g2 bx g q w0 w s F size segs L all m) (hb : But (fun k => k = b) w w') (hF : ¬F b) (hw : w0.heap.size ≤ b) : LgA p g1 g2 bx g q w0 w' s F size segs L all m :=
  ⟨lgm_box h.lg hb hF hw, h.len, h.has, h.ok, h.le, h.small⟩
/-- A box beside a log. -/
def Bz (w0 w : World) (F : Nat → Prop) (b : Nat) (cs : Array Value) (t : TypeId) : Prop := Blk w b cs t ∧ w0.heap.size ≤ b ∧ ¬F b
theorem Bz.step {w0 w w' : World} {F F' : Nat → Prop} {b : Nat} {cs : Array Value} {t : TypeId} {La : Laid} {x : La.St} (h : Bz w0 w F b cs t) (m : Mv La w F w' x F') : Bz w0 w' F' b cs t :=
  ⟨h.1.but m.but h.2.2, h.2.1, fun hf => (m.new b hf).elim h.2.2 (fun h1 => by have := h.1.lt; omega)⟩
theorem Bz.below {w0 w w' : World} {F : Nat → Prop} {b : Nat} {cs : Array Value} {t : TypeId} (h : Bz w0 w F b cs t) (hb : Below w.heap.size w w') : Bz w0 w' F b cs t := ⟨h.1.below hb, h.2⟩
theorem rd_marked (w : World) (C : List Value) (e : TypeId) (fr : Nat × Nat) : Rd (w.alloc (.cells C.toArray e fr)).heap.size (w.alloc (.cells C.toArray e fr)) (some ⟨w.heap.size, 0, none⟩) C := fun k u hu => by
  refine ⟨_, rfl, by simp, ?_⟩
  have h : (w.alloc (.cells C.toArray e fr)).heap[w.heap.size]? = some (.cells C.toArray e fr) := heap_alloc_new w _
  rw [add_head]
  unfold World.cell?
  rw [h]
  simpa using hu
def awAt (j : Nat) : Int := if j = 0 then 0 else 1 + j
set_option maxRecDepth 100000 in
set_option maxHeartbeats 6400000 in
theorem awake_any (w : World) : Calls Try.prog 28 #[] w (RetB (.bool true) w) := by
  go_enter Try.func28, Try.ntmps28
  go_wp2_with fail
  refine (made_any 1 1 (by omega) (by omega) 4 2 (by decide) (by decide) _).mono ?_
  rintro e w1 ⟨p, g1, g2, bx, g, q, s1, F1, rfl, h⟩
  have H1 := Lib.hid (made_lga (by decide) (by decide) h)
  clear h
  unfold rigC
  go_wp2_with fail
  obtain ⟨RC, hRC⟩ : ∃ RC, RC = #[Value.pointer (some ⟨p, 0, none⟩), Value.pointer (some ⟨g1, 0, none⟩), Value.pointer (some ⟨g2, 0, none⟩), Value.pointer (some ⟨g, 0, none⟩), Value.pointer (some ⟨q, 0, none⟩), Value.int .i64 4, Value.int .i64 2] := ⟨_, rfl⟩
  have HRC := Lib.hid (show RC[4]? = some (Value.pointer (some ⟨q, 0, none⟩)) by rw [hRC]; rfl)
  obtain ⟨bX, hbX⟩ : ∃ v, v = w1.heap.size := ⟨_, rfl⟩
  obtain ⟨w2, hw2⟩ : ∃ v, v = w1.alloc (.cells RC 73) := ⟨_, rfl⟩
  have bw : Below w1.heap.size w1 w2 := by rw [hw2]; exact (Below.refl _ _).alloc (Nat.le_refl _) _
  have H2 := Lib.hid (H1.out.below bw)
  have X2 := Lib.hid (show Bz w w2 F1 bX RC 73 from ⟨by rw [hw2, hbX]; exact heap_alloc_new _ _, by rw [hbX]; exact H1.out.lg.live.bel.size, fun hf => by have := (LogL _ _ _ _ _).lt H1.out.lg.live.at_ bX hf; omega⟩)
  rw [← hRC, ← hw2, ← hbX]
  clear bw hw2 hbX H1 hRC
  go_loopw [3, 16] (fun a i wr => ∃ (j : Nat) (s : Mr (Mu.one p g1 g2)) (F : Nat → Prop) (L : List (List UInt8)), j ≤ 3 ∧ i = .int .i64 j ∧ a = .int .i64 (awAt j) ∧ LgA p g1 g2 bx g q w wr s F 2 4 L (List.replicate j [97]) (2 * j) ∧ Bz w wr F bX RC 73) (fun _ i _ => 3 - (intOf i).toNat)
  case atStart => exact ⟨0, _, _, _, by omega, rfl, rfl, H2.out, X2.out⟩
  case round =>
    clear H2 X2
    obtain ⟨j, s, F, L, hj, rfl, rfl, hlg, hx⟩ := hrel
    have H := Lib.hid hlg
    have X := Lib.hid hx
    clear hlg hx
    have c4 := (X.out.1.cell 4).trans HRC.out
    by_cases hlt : j < 3
    · have h0 : (j : Int) < 3 := by omega
      obtain ⟨av, hav⟩ : ∃ av : Int, av = awAt j := ⟨_, rfl⟩
      rw [← hav]
      clear hav
      have hcv := Go.Lib.run_convert_bytes_const wr 81 5 #[.int .u8 97] 1 1 Try.underlying81 Try.underlying5
      have FR := Lib.hid (show Rd _ _ _ (bv [97]) from rd_marked wr [Value.int .u8 97] 5 (1, 2))
      have FB := Lib.hid ((Below.refl wr.heap.size wr).alloc (Nat.le_refl _) (.cells #[.int .u8 97] 5 (1, 2)))
      have HT := Lib.hid (show (List.replicate j [(97 : UInt8)]).length < 4 * 2 ∧ 2 * j < 900000 by rw [List.length_replicate]; omega)
      go_wp2_with fail
      refine (lga_append (H.out.below FB.out) HT.out.1 HT.out.2 _ 1 _ [97] rfl (by omega) FR.out).mono ?_
      rintro e w5 ⟨rfl, s5, F5, L5, hlg, hmv⟩
      have H5 := Lib.hid hlg
      have X5 := Lib.hid ((X.out.below FB.out).step hmv)
      clear hlg hmv H X FR FB c4 hcv
      have e5 : ((2 + (List.replicate j [(97 : UInt8)]).length : Nat) : Int) = (j : Int) + 2 := by rw [List.length_replicate]; omega
      rw [e5]
      go_wp2_with fail
      go_roundw
      case rel => exact ⟨j + 1, s5, F5, L5, by omega, by go_num, int_eq (by rw [awAt, if_neg (by omega)]; omega), by
        have h := H5.out
        rw [show List.replicate j [(97 : UInt8)] ++ [[97]] = List.replicate (j + 1) [97] from List.replicate_succ'.symm] at h
        exact h, X5.out⟩
      case measure => simp [intOf]; omega
    · obtain rfl : j = 3 := by omega
      rw [show awAt 3 = 4 from rfl]
      go_wp2_with fail
      have hc := lgm_head H.out.lg
      rw [show (lgT 2 4 (List.replicate 3 [(97 : UInt8)]).length).headI = 1 by decide, show (lgT 2 4 (List.replicate 3 [(97 : UInt8)]).length).slotI = 1 by decide] at hc
      refine hc.mono ?_
      clear hc
      rintro e w3 ⟨rfl, bw⟩
      have H3 := Lib.hid (H.out.below bw)
      have X3 := Lib.hid (X.out.below bw)
      clear bw H X c4
      have c4 := (X3.out.1.cell 4).trans HRC.out
      go_wp2_with fail
      refine (lga_read H3.out (t := 2) (by decide)).mono ?_
      rintro e w4 ⟨A, n, c, F4, rfl, ho, hlg, hmv, hdj⟩
      have H4 := Lib.hid hlg
      have X4 := Lib.hid (X3.out.step hmv)
      have O4 := Lib.hid (show w4.ownsRow w3.heap.size 5 1 (.slice A n c) n (bv [97]) from ho)
      clear hlg hmv hdj ho H3 X3 c4
      have c4 := (X4.out.1.cell 4).trans HRC.out
      obtain ⟨Z, hZ⟩ : ∃ Z : ByteArray, Z = ⟨#[97]⟩ := ⟨_, rfl⟩
      have HZ := Lib.hid hZ
      clear hZ
      go_wp2_with fail
      refine (show Calls Try.prog 46 #[.pointer (some ⟨q, 0, none⟩), .int .i64 0] w4 (RetB (.int .u64 1) w4) from lgm_gen H4.out.lg 0 (by omega) (by omega)).mono ?_
      rintro e w5 ⟨rfl, bw⟩
      have H5 := Lib.hid (H4.out.below bw)
      have X5 := Lib.hid (X4.out.below bw)
      have O5 := Lib.hid (own_below O4.out bw)
      clear bw H4 X4 O4 c4
      have c4 := (X5.out.1.cell 4).trans HRC.out
      go_wp2_with fail
      refine (show Calls Try.prog 46 #[.pointer (some ⟨q, 0, none⟩), .int .i64 1] w5 (RetB (.int .u64 2) w5) from lgm_gen H5.out.lg 1 (by omega) (by omega)).mono ?_
      rintro e w6 ⟨rfl, bw⟩
      have H6 := Lib.hid (H5.out.below bw)
      have X6 := Lib.hid (X5.out.below bw)
      have O6 := Lib.hid (own_below O5.out bw)
      clear bw H5 X5 O5 c4
      have c4 := (X6.out.1.cell 4).trans HRC.out
      go_wp2_with fail
      refine (show Calls Try.prog 46 #[.pointer (some ⟨q, 0, none⟩), .int .i64 2] w6 (RetB (.int .u64 0) w6) from lgm_gen H6.out.lg 2 (by omega) (by omega)).mono ?_
      rintro e w7 ⟨rfl, bw⟩
      have H7 := Lib.hid (H6.out.below bw)
      have X7 := Lib.hid (X6.out.below bw)
      have O7 := Lib.hid (own_below O6.out bw)
      clear bw H6 X6 O6 c4
      have c4 := (X7.out.1.cell 4).trans HRC.out
      go_wp2_with fail
      refine (show Calls Try.prog 44 #[.pointer (some ⟨q, 0, none⟩)] w7 (RetB (.int .i64 5) w7) from lgm_room H7.out.lg).mono ?_
      rintro e w8 ⟨rfl, bw⟩
      have H8 := Lib.hid (H7.out.below bw)
      have X8 := Lib.hid (X7.out.below bw)
      have O8 := Lib.hid (own_below O7.out bw)
      clear bw H7 X7 O7 c4
      have c4 := (X8.out.1.cell 4).trans HRC.out
      have hn : 1 = n := by have := O8.out.1; simp [bv] at this; exact this
      have kc := conv_rd (c := c) Try.underlying81 Try.underlying5 Try.underlying9 (Rd.own (n := n) (c := c) O8.out) hn
      rw [show (⟨[(97 : UInt8)].toArray⟩ : ByteArray) = Z from HZ.out.symm] at kc
      have hz : (Z.toList == [97]) = true := by rw [HZ.out, ByteArray.toList_eq]; decide
      go_wp2_with fail
      go_ret
      exact ⟨rfl, H8.out.lg.live.bel⟩
end Go.Proofs.Ythadomboiockhaa.Lo
/-
  What the laws of a log carry beside it: a row of bodies that came in.
-/
namespace Go.Proofs.Ythadomboiockhaa.Lo
open Go.RowKit Kd Mi Sx
/-- An own row of slices that came in, and what they read. -/
def Orow (w w1 wr : World) (A : Option Addr) (n c : Nat) (all : List (List UInt8)) : Prop :=
  ∃ vs : List Value, wr.ownsRow w1.heap.size 81 1 (.slice A n c) n vs ∧ vs.length = all.length ∧ ∀ (k : Nat) (v : Value) (l : List UInt8), vs[k]? = some v → all[k]? = some l → IsB w.heap.size w v l
theorem Orow.nil (w w1 wr : World) : Orow w w1 wr none 0 0 [] := ⟨[], ⟨rfl, .inl ⟨rfl, rfl⟩⟩, rfl, fun k v l h => by simp at h⟩
theorem Orow.len {w w1 wr : World} {A : Option Addr} {n c : Nat} {all : List (List UInt8)} (h : Orow w w1 wr A n c all) : n = all.length := by
  obtain ⟨vs, h1, h2, _⟩ := h
  rw [← h2]; exact (own_len h1).symm
theorem Orow.but {w w1 wr w' : World} {A : Option Addr} {n c : Nat} {all : List (List UInt8)} {T : Nat → Prop} (h : Orow w w1 wr A n c all) (hb : But T wr w') (hd : ∀ j, (Value.slice A n c).ownBlock = some j → ¬T j) : Orow w w1 w' A n c all := by
  obtain ⟨vs, h1, h2, h3⟩ := h
  exact ⟨vs, Own.but h1 hb hd, h2, h3⟩
theorem Orow.below {w w1 wr w' : World} {A : Option Addr} {n c : Nat} {all : List (List UInt8)} (h : Orow w w1 wr A n c all) (hb : Below wr.heap.size wr w') : Orow w w1 w' A n c all :=
  h.but (but_below (T := fun _ => False) hb) (fun _ _ h => h)
theorem Orow.lt {w w1 wr : World} {A : Option Addr} {n c : Nat} {all : List (List UInt8)} (h : Orow w w1 wr A n c all) {j : Nat} (hj : (Value.slice A n c).ownBlock = some j) : w1.heap.size ≤ j ∧ j < wr.heap.size := by
  obtain ⟨vs, h1, _, _⟩ := h
  exact h1.lt j hj
theorem bytesElt : Elt Try.prog 99 81 (.slice none 0 0) 24 := ⟨Try.underlying99, by kernel_rfl, rfl, by omega⟩
/-- One more body, that came in. -/
theorem Orow.push {w w1 w' : World} {A' : Option Addr} {n c' : Nat} {all : List (List UInt8)} {l : List UInt8} {v : Value} (h3 : ∃ vs : List Value, w'.ownsRow w1.heap.size 81 1 (.slice A' (n + 1) c') (n + 1) (vs ++ [v]) ∧ vs.length = all.length ∧ ∀ (k : Nat) (v : Value) (l : List UInt8), vs[k]? = some v → all[k]? = some l → IsB w.heap.size w v l) (hv : IsB w.heap.size w v l) : Orow w w1 w' A' (n + 1) c' (all ++ [l]) := by
  obtain ⟨vs, h1, h2, h4⟩ := h3
  refine ⟨vs ++ [v], h1, by simp [h2], fun k u r hu hr => ?_⟩
  by_cases hk : k < vs.length
  · rw [List.getElem?_append_left hk] at hu
    rw [List.getElem?_append_left (by omega)] at hr
    exact h4 k u r hu hr
  · rw [List.getElem?_append_right (by omega)] at hu
    rw [List.getElem?_append_right (by omega)] at hr
    have h5 := (List.getElem?_eq_some_iff.1 hu).1
    have h6 : k - vs.length = 0 := by simp at h5; omega
    have h7 : k - all.length = 0 := by omega
    rw [h6] at hu
    rw [h7] at hr
    simp at hu hr
    subst hu; subst hr
    exact hv
/-- One of them, read. -/
theorem Orow.at_ {w w1 wr : World} {A : Option Addr} {n c : Nat} {all : List (List UInt8)} (h : Orow w w1 wr A n c all) {k : Nat} (hk : k < n) : ∃ g B d, A = some ⟨g, 0, none⟩ ∧ wr.cell? ⟨g, k, none⟩ = some (.slice B (all.getD k []).length d) ∧ Rd w.heap.size w B (bv (all.getD k [])) := by
  have hn := h.len
  obtain ⟨vs, h1, h2, h3⟩ := h
  obtain ⟨g, hA, _⟩ := own_addr h1 (by omega)
  subst hA
  have hv : vs[k]? = some (vs[k]'(by omega)) := List.getElem?_eq_getElem (by omega)
  have hl : all[k]? = some (all.getD k []) := by rw [List.getD_eq_getElem?_getD, List.getElem?_eq_getElem (by omega)]; rfl
  obtain ⟨B, d, e, _, _, hr⟩ := h3 k _ _ hv hl
  refine ⟨g, B, d, rfl, ?_, hr⟩
  rw [World.ownsRow.cellAt h1 k (by omega), hv, e]
theorem LgA.but {p g1 g2 bx g q : Nat} {w0 w w' : World} {s : Mr (Mu.one p g1 g2)} {F T : Nat → Prop} {size segs m : Nat} {L all : List (List UInt8)} (h : LgA p g1 g2 bx g q w0 w s F size segs L all m) (hb : But T w w') (hd : ∀ k, F k → T k → False) (hT : ∀ k, T k → w0.heap.size ≤ k) : LgA p g1 g2 bx g q w0 w' s F size segs L all m :=
  ⟨⟨⟨(LogL (Mu.one p g1 g2) (gdS litS bx) g q litS).but h.lg.live.at_ hb hd, h.lg.live.new, h.lg.live.bel.trans (hb.below (fun k hk ht => by have := hT k ht; omega) h.lg.live.bel.size)⟩, h.lg.sees, h.lg.dry, h.lg.fine⟩, h.len, h.has, h.ok, h.le, h.small⟩
theorem Bz.but {w0 w w' : World} {F T : Nat → Prop} {b : Nat} {cs : Array Value} {t : TypeId} (h : Bz w0 w F b cs t) (hb : But T w w') (hT : ¬T b) : Bz w0 w' F b cs t := ⟨h.1.but hb hT, h.2⟩
/-- A box of another kind is none of the row's. -/
theorem Orow.ne {w w1 wr : World} {A : Option Addr} {n c : Nat} {all : List (List UInt8)} (h : Orow w w1 wr A n c all) {b : Nat} {cs : Array Value} {t : TypeId} (hb : Blk wr b cs t) (ht : t ≠ 81) : ¬(Value.slice A n c).ownBlock = some b := fun hk => by
  obtain ⟨vs, h1, _, _⟩ := h
  obtain ⟨cs', hc⟩ := row_type h1 b hk
  have hb' : wr.heap[b]? = some (.cells cs t (0, 0)) := hb
  rw [hc] at hb'
  injection hb' with hb'
  injection hb' with _ hb'
  exact ht hb'.symm
theorem fd_items_len {fd : List Fd} {size : Nat} {all : List (List UInt8)} (h : fd.map Fd.it = itemsT size all) : fd.length = all.length := by
  have h2 := congrArg List.length h
  rw [List.length_map, itemsT, List.length_map, List.length_range] at h2
  exact h2
theorem fd_item {fd : List Fd} {size : Nat} {all : List (List UInt8)} (h : fd.map Fd.it = itemsT size all) {t : Nat} {x : Fd} (hx : fd[t]? = some x) : x.at_ = 2 + t ∧ x.b = all.getD t [] ∧ t < all.length := by
  have ht : t < all.length := by rw [← fd_items_len h]; exact (List.getElem?_eq_some_iff.1 hx).1
  have h1 : (fd.map Fd.it)[t]? = some x.it := by rw [List.getElem?_map, hx]; rfl
  rw [h, itemsT, List.getElem?_map, List.getElem?_range ht] at h1
  simp only [Option.map_some, Option.some.injEq] at h1
  have h2 : (2 + t, t / size + 1, all.getD t []) = (x.at_, x.gen, x.b) := h1
  injection h2 with e1 e2
  injection e2 with e2 e3
  exact ⟨e1.symm, e3.symm, ht⟩
/-- A log's own memory, as it is laid. -/
def OwnL (g q : Nat) (ci : SCiph) : Laid where
  St := Lg
  At w l F := (OwnR g q ci).At w (rlOf l) F
  but := fun h hb hd => (OwnR g q ci).but h hb hd
  lt := fun h => (OwnR g q ci).lt h
theorem oroom_any {g q : Nat} {ci : SCiph} {w : World} {l : Lg} {F : Nat → Prop} (h : (OwnL g q ci).At w l F) (hf : l.Fine) : Calls Try.prog 44 #[.pointer (some ⟨q, 0, none⟩)] w (RetB (.int .i64 (l.room : Int)) w) := by
  obtain ⟨bm, ho, _⟩ := h
  have hc := room_any ho
  rwa [rl_room hf] at hc
/-- The devices of a log's mirror, and its own memory. -/
theorem lga_split {p g1 g2 bx g q : Nat} {w0 w : World} {s : Mr (Mu.one p g1 g2)} {F : Nat → Prop} {size segs : Nat} {L all : List (List UInt8)} (h : LgA p g1 g2 bx g q w0 w s F size segs L all 0) :
    ∃ FD FO, Mu.LD p g1 g2 w0 w s.d FD L L false false 0 ∧ (OwnL g q litS).At w (lgT size segs all.length) FO ∧ (∀ k, FD k → FO k → False) ∧ (∀ k, FD k → F k) ∧ ∀ k, FO k → F k := by
  obtain ⟨F1, F2, h1, h2, hd, hF⟩ := h.lg.live.at_
  have h1 : (ML (Mu.one p g1 g2) (gdS litS bx) g).At w s F1 := h1
  have hlm : Mu.LM p g1 g2 (gdS litS bx) g w0 w s F1 (Sc.startM L L (2 + segs * size)) 0 := ⟨⟨h1, fun k hk => h.lg.live.new k ((hF k).2 (.inl hk)), h.lg.live.bel⟩, h.lg.sees, h.lg.dry⟩
  obtain ⟨FD, hld, hs⟩ := lm_devs hlm
  exact ⟨FD, F2, hld, h2, fun k hk => hd k (hs k hk), fun k hk => (hF k).2 (.inl (hs k hk)), fun k hk => (hF k).2 (.inr hk)⟩
end Go.Proofs.Ythadomboiockhaa.Lo
