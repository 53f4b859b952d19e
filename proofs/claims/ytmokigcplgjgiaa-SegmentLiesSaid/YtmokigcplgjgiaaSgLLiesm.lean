/-
  SegmentLies holds: of any two bytes and any number the law returns true.
-/
import Derived.Test.YtmokigcplgjgiaaSgAwake
import Derived.Test.YtmokigcplgjgiaaSgOpen
import Derived.Test.YtmokigcplgjgiaaSgLies
import Derived.Test.YtmokigcplgjgiaaRows
import Derived.Test.YtmokigcplgjgiaaOpen
import Derived.Test.YtmokigcplgjgiaaOpenA
import Derived.ProofKit
import Derived.OpenShut
import Derived.ShutString
import Derived.ChangeOld
namespace Go.Proofs.Ytmokigcplgjgiaa
open Go.RowKit Sg Go.ChangeShapes Go.WideShapes Go.ChangeAt
attribute [local go_sem ↓] Go.wp_at_zero Go.wp_at_succ
theorem sectors_let {a b m : Int} (hok : okS a b) (hm : m = 2 + a * b) (W : World) : Calls Try.prog 15 #[.agg #[.int .i64 a, .int .i64 b]] W (RetB (.int .i64 m) W) := by
  rw [hm]; exact sectors_yes a b hok W
theorem of_let {a b i j k : Int} (hin : inS a b i j) (hk : k = 2 + i * b + j) (W : World) : Calls Try.prog 18 #[.agg #[.int .i64 a, .int .i64 b], .int .i64 k] W (RetB (.tuple #[.int .i64 i, .int .i64 j, .bool true]) W) := by
  rw [hk]; exact of_yes a b i j hin W
theorem sector_let {a b i j n : Int} (hin : inS a b i j) (hn : n = 2 + i * b + j) (W : World) : Calls Try.prog 17 #[.agg #[.int .i64 a, .int .i64 b], .int .i64 i, .int .i64 j] W (RetB (.tuple #[.int .i64 n, .bool true]) W) := by
  rw [hn]; exact sector_yes a b i j hin W
set_option maxRecDepth 100000 in
set_option maxHeartbeats 12800000 in
theorem segmentLies_any (w : World) (x : Int) (hx : 0 ≤ x ∧ x ≤ 255) (y : Int) (hy : 0 ≤ y ∧ y ≤ 255) (p : Int) (hp : -9223372036854775808 ≤ p ∧ p ≤ 9223372036854775807) : Calls Try.prog 4 #[.int .u8 x, .int .u8 y, .int .i64 p] w (RetB (.bool true) w) := by
  obtain ⟨i, hi⟩ : ∃ z, z = x.tmod 62 := ⟨_, rfl⟩
  obtain ⟨j, hj⟩ : ∃ z, z = y.tmod 32 := ⟨_, rfl⟩
  have hi2 : 0 ≤ i ∧ i < 62 := by rw [hi, Int.tmod_eq_emod_of_nonneg hx.1]; omega
  have hj2 : 0 ≤ j ∧ j < 32 := by rw [hj, Int.tmod_eq_emod_of_nonneg hy.1]; omega
  obtain ⟨a, ha⟩ : ∃ a : Nat, (a : Int) = 3 + i := ⟨(3 + i).toNat, by omega⟩
  obtain ⟨b, hb⟩ : ∃ b : Nat, (b : Int) = 1 + j := ⟨(1 + j).toNat, by omega⟩
  have q1 : x.tmod 62 = i := hi.symm
  have q2 : y.tmod 32 = j := hj.symm
  have z1 : wrap64 x = x := by unfold wrap64; omega
  have z2 : wrap64 y = y := by unfold wrap64; omega
  have v1 : IntKind.i64.wrap x = x := IntWalk.i64_in _ (by omega)
  have v2 : IntKind.i64.wrap y = y := IntWalk.i64_in _ (by omega)
  have e1 : IntKind.i64.wrap (3 + i) = (a : Int) := by rw [ha]; exact IntWalk.i64_in _ (by omega)
  have e2 : IntKind.i64.wrap (1 + j) = (b : Int) := by rw [hb]; exact IntWalk.i64_in _ (by omega)
  have HA := Lib.hid (show a ≤ 64 ∧ b ≤ 32 ∧ 3 ≤ a ∧ 1 ≤ b by omega)
  have hok : okS (a : Int) (b : Int) := by unfold okS; omega
  clear hi hj hi2 hj2 ha hb
  have BB := Lib.hid (Below.refl w.heap.size w)
  go_enter Try.func4, Try.ntmps4
  go_wp2_with fail
  refine (Sg.awake_any _).mono ?_
  rintro e w2 ⟨rfl, bw⟩
  have BB' := Lib.hid (BB.out.trans (bw.mono BB.out.size))
  clear BB bw
  have BB := Lib.hid BB'.out
  clear BB'
  go_wp2_with fail
  obtain ⟨w3, hw3⟩ : ∃ x, x = w2.alloc (.cells #[.int .i64 (a : Int), .int .i64 (b : Int)] 23) := ⟨_, rfl⟩
  rw [← hw3]
  have bw : Below w2.heap.size w2 w3 := by rw [hw3]; exact (Below.refl _ _).alloc (Nat.le_refl _) _
  have bx : Blk w3 (w2.heap.size) #[.int .i64 (a : Int), .int .i64 (b : Int)] 23 := by rw [hw3]; exact heap_alloc_new _ _
  obtain ⟨g3, hg3⟩ : ∃ x, x = w2.heap.size := ⟨_, rfl⟩
  rw [← hg3] at bx ⊢
  clear hw3
  have BB' := Lib.hid (BB.out.trans (bw.mono BB.out.size))
  clear  BB bw
  have BB := Lib.hid BB'.out
  clear BB'
  have B1 := Lib.hid bx
  clear bx hg3
  refine (lies_any a b HA.out.1 HA.out.2.1 _).mono ?_
  rintro e w4 ⟨A, n, c, rfl, ho, bw⟩
  have hn : n = a * b + 2 := by
    have h := ho.1
    rw [pv_length, lieL_length] at h; omega
  obtain ⟨g, cap, hA, _, hg⟩ := ho.form (by omega)
  obtain rfl : A = some ⟨g, 0, none⟩ := by injection hA
  clear hA hg
  have bs := BB.out.size
  have O1' := Lib.hid ho
  have HN := Lib.hid hn
  clear ho hn
  have B1' := Lib.hid (Blk.below B1.out bw)
  have BB' := Lib.hid (BB.out.trans (bw.mono BB.out.size))
  clear B1 BB bw
  have B1 := Lib.hid B1'.out
  have BB := Lib.hid BB'.out
  clear B1' BB'
  have O1 := Lib.hid O1'.out
  clear O1' bs
  obtain ⟨base, hbase⟩ : ∃ v, v = w3.heap.size := ⟨_, rfl⟩
  rw [← hbase] at O1
  clear hbase
  have HT := Lib.hid (show (n : Int) = 2 + (a : Int) * (b : Int) by rw [HN.out]; push_cast; omega)
  have HM := Lib.hid (show a * b ≤ 64 * 32 from Nat.mul_le_mul HA.out.1 HA.out.2.1)
  have np : 0 < n := by rw [HN.out]; omega
  have c00 := B1.out.cell 0
  have c01 := B1.out.cell 1
  go_wp2_with fail
  clear c00 c01
  refine (sectors_let hok HT.out _).mono ?_
  rintro e w5 ⟨rfl, bw⟩
  have B1' := Lib.hid (Blk.below B1.out bw)
  have O1' := Lib.hid (own_belowN O1.out bw)
  have BB' := Lib.hid (BB.out.trans (bw.mono BB.out.size))
  clear B1 O1 BB bw
  have B1 := Lib.hid B1'.out
  have O1 := Lib.hid O1'.out
  have BB := Lib.hid BB'.out
  clear B1' O1' BB'
  have c00 := B1.out.cell 0
  have c01 := B1.out.cell 1
  go_wp2_with fail
  clear c00 c01
  by_cases h1 : p < 0
  · skip
    have d1 : decide (p < 0) = true := decide_eq_true (by omega)
    have hof : ¬(okS (a : Int) b ∧ 2 ≤ p ∧ p < 2 + (a : Int) * b) := fun h => by have := h.2.1; omega
    refine (Sg.of_no a b p hof _).mono ?_
    rintro e w6 ⟨rfl, bw⟩
    have B1' := Lib.hid (Blk.below B1.out bw)
    have O1' := Lib.hid (own_belowN O1.out bw)
    have BB' := Lib.hid (BB.out.trans (bw.mono BB.out.size))
    clear B1 O1 BB bw
    have B1 := Lib.hid B1'.out
    have O1 := Lib.hid O1'.out
    have BB := Lib.hid BB'.out
    clear B1' O1' BB'
    have c00 := B1.out.cell 0
    have c01 := B1.out.cell 1
    go_wp2_with fail
    clear c00 c01
    go_ret
    exact ⟨rfl, BB.out⟩
  · skip
    by_cases h2 : (n : Int) ≤ p
    · skip
      have d1 : decide (p < 0) = false := decide_eq_false (by omega)
      have d2 : decide ((n : Int) ≤ p) = true := decide_eq_true (by omega)
      have hof : ¬(okS (a : Int) b ∧ 2 ≤ p ∧ p < 2 + (a : Int) * b) := fun h => by have := h.2.2; rw [← HT.out] at this; omega
      refine (Sg.of_no a b p hof _).mono ?_
      rintro e w6 ⟨rfl, bw⟩
      have B1' := Lib.hid (Blk.below B1.out bw)
      have O1' := Lib.hid (own_belowN O1.out bw)
      have BB' := Lib.hid (BB.out.trans (bw.mono BB.out.size))
      clear B1 O1 BB bw
      have B1 := Lib.hid B1'.out
      have O1 := Lib.hid O1'.out
      have BB := Lib.hid BB'.out
      clear B1' O1' BB'
      have c00 := B1.out.cell 0
      have c01 := B1.out.cell 1
      go_wp2_with fail
      clear c00 c01
      go_ret
      exact ⟨rfl, BB.out⟩
    · skip
      by_cases h3 : p < 2
      · skip
        obtain ⟨k, rfl⟩ := Int.eq_ofNat_of_zero_le (show 0 ≤ p by omega)
        have hk : k < 2 := by omega
        have d1 : decide ((k : Int) < 0) = false := decide_eq_false (by omega)
        have d2 : decide ((n : Int) ≤ (k : Int)) = false := decide_eq_false (by omega)
        have x1 : 0 ≤ (k : Int) := by omega
        have x2 : (k : Int) < (n : Int) := by omega
        have x3 : k < n := by omega
        have hof : ¬(okS (a : Int) b ∧ 2 ≤ (k : Int) ∧ (k : Int) < 2 + (a : Int) * b) := fun h => by have := h.2.1; omega
        have HC := Lib.hid (show (pv (lieL b (a * b)))[k * 2]? = some (.int .i64 (-1)) by
          rcases Nat.lt_succ_iff_lt_or_eq.1 hk with h | h
          · obtain rfl : k = 0 := by omega
            rfl
          · subst h; rfl)
        refine (Sg.of_no a b k hof _).mono ?_
        rintro e w6 ⟨rfl, bw⟩
        have B1' := Lib.hid (Blk.below B1.out bw)
        have O1' := Lib.hid (own_belowN O1.out bw)
        have BB' := Lib.hid (BB.out.trans (bw.mono BB.out.size))
        clear B1 O1 BB bw
        have B1 := Lib.hid B1'.out
        have O1 := Lib.hid O1'.out
        have BB := Lib.hid BB'.out
        clear B1' O1' BB'
        have cc : w6.cell? ⟨g, k * 2, none⟩ = some (.int .i64 (-1)) := (World.ownsRow.cellAt O1.out (k * 2) (by omega)).trans HC.out
        have c00 := B1.out.cell 0
        have c01 := B1.out.cell 1
        go_wp2_with fail
        clear c00 c01
        go_ret
        exact ⟨rfl, BB.out⟩
      · skip
        obtain ⟨k, rfl⟩ := Int.eq_ofNat_of_zero_le (show 0 ≤ p by omega)
        obtain ⟨m, rfl⟩ : ∃ m, k = m + 2 := ⟨k - 2, by omega⟩
        have hm : m < a * b := by have := HN.out; omega
        have hb : 0 < b := by have := HA.out; omega
        obtain ⟨i2, hi2⟩ : ∃ z, z = m / b := ⟨_, rfl⟩
        obtain ⟨j2, hj2⟩ : ∃ z, z = m % b := ⟨_, rfl⟩
        have hij : i2 * b + j2 = m := by rw [hi2, hj2, Nat.mul_comm]; exact Nat.div_add_mod m b
        have hia : i2 < a := by rw [hi2]; exact Nat.div_lt_of_lt_mul (by rw [Nat.mul_comm]; exact hm)
        have hjb : j2 < b := by rw [hj2]; exact Nat.mod_lt _ hb
        have HP := pv_get (lieL_at (b := b) hm)
        rw [← hi2, ← hj2] at HP
        have HC0 := Lib.hid HP.1
        have HC1 := Lib.hid HP.2
        have HIN := Lib.hid (show inS (a : Int) b i2 j2 from ⟨hok, by omega, by omega⟩)
        have hkk : ((m + 2 : Nat) : Int) = 2 + (i2 : Int) * b + j2 := by rw [← hij]; push_cast; omega
        have HKK := Lib.hid hkk
        have x3 : m + 2 < n := by omega
        obtain ⟨k, hk⟩ : ∃ z, z = m + 2 := ⟨_, rfl⟩
        rw [← hk] at HC0 HC1 HKK hkk x3 h1 h2 h3 ⊢
        have d1 : decide ((k : Int) < 0) = false := decide_eq_false (by omega)
        have d2 : decide ((n : Int) ≤ (k : Int)) = false := decide_eq_false (by omega)
        have d3 : decide ((i2 : Int) < 0) = false := decide_eq_false (by omega)
        have x1 : 0 ≤ (k : Int) := by omega
        have x2 : (k : Int) < (n : Int) := by omega
        clear HP hm hb hi2 hj2 hij hia hjb hkk hk
        refine (of_let HIN.out HKK.out _).mono ?_
        rintro e w6 ⟨rfl, bw⟩
        have B1' := Lib.hid (Blk.below B1.out bw)
        have O1' := Lib.hid (own_belowN O1.out bw)
        have BB' := Lib.hid (BB.out.trans (bw.mono BB.out.size))
        clear B1 O1 BB bw
        have B1 := Lib.hid B1'.out
        have O1 := Lib.hid O1'.out
        have BB := Lib.hid BB'.out
        clear B1' O1' BB'
        have cc : w6.cell? ⟨g, k * 2, none⟩ = some (.int .i64 (i2 : Int)) := (World.ownsRow.cellAt O1.out (k * 2) (by omega)).trans HC0.out
        have cd : w6.cell? ⟨g, k * 2 + 1, none⟩ = some (.int .i64 (j2 : Int)) := (World.ownsRow.cellAt O1.out (k * 2 + 1) (by omega)).trans HC1.out
        have c00 := B1.out.cell 0
        have c01 := B1.out.cell 1
        go_wp2_with fail
        clear c00 c01
        clear cc cd
        refine wp_region_held_drew (S := (fun w' => Blk w' (g3) #[.int .i64 (a : Int), .int .i64 (b : Int)] 23 ∧ World.ownsRow w' base 36 2 (.slice (some ⟨g, 0, none⟩) n c) n (pv (lieL b (a * b))) ∧ Below w.heap.size w w')) (by kernel_rfl) ⟨(show Blk (World.drew _) _ _ _ from B1.out), (show World.ownsRow (World.drew _) _ _ _ _ _ _ from O1.out), BB.out.drew⟩ (fun hh => ?_)
        have HH := Lib.hid hh
        clear hh
        refine wpAnyH_take (i := 0) (v := .agg #[.int .i64 (a : Int), .int .i64 (b : Int)]) rfl (by kernel_rfl) (by kernel_rfl) (by kernel_rfl) (fun _ _ _ h => h) (Or.inl ⟨by rfl, fun w' hw' => ?yR10⟩) HH.out ?_
        case yR10 => exact exec_load 23 (.tmp 7) rfl rfl hw'.1 Try.underlying23 rfl rfl
        refine wpAnyH_take (i := 1) (v := ?vR11) rfl (by kernel_rfl) (by kernel_rfl) (by kernel_rfl) (fun _ _ _ h => h) (Or.inl ⟨by rfl, fun w' _ => ?yR11⟩) HH.out ?_
        case yR11 => (go_simp; try with_reducible rfl)
        try simp only [List.getElem_toArray, List.getElem_cons_succ, List.getElem_cons_zero, Act.put, List.setIfInBounds_toArray, List.set_cons_zero, List.set_cons_succ]
        refine wpAnyH_take (i := 2) (v := ?vR12) rfl (by kernel_rfl) (by kernel_rfl) (by kernel_rfl) (fun _ _ _ h => h) (Or.inl ⟨by rfl, fun w' _ => ?yR12⟩) HH.out ?_
        case yR12 => (go_simp; try with_reducible rfl)
        refine wpAnyH_take (i := 3) (v := ?vR13) rfl (by kernel_rfl) (by kernel_rfl) (by kernel_rfl) (fun _ _ _ h => h) (Or.inl ⟨by rfl, fun w' _ => ?yR13⟩) HH.out ?_
        case yR13 => (go_simp; try with_reducible rfl)
        refine wpAnyH_take (i := 4) (v := ?vR14) rfl (by kernel_rfl) (by kernel_rfl) (by kernel_rfl) (fun _ _ _ h => h) (Or.inl ⟨by rfl, fun w' _ => ?yR14⟩) HH.out ?_
        case yR14 => (go_simp; try with_reducible rfl)
        try simp only [List.getElem_toArray, List.getElem_cons_succ, List.getElem_cons_zero, Act.put, List.setIfInBounds_toArray, List.set_cons_zero, List.set_cons_succ]
        try simp only [List.getElem_toArray, List.getElem_cons_succ, List.getElem_cons_zero, Act.put, List.setIfInBounds_toArray, List.set_cons_zero, List.set_cons_succ]
        refine wpAnyH_take (i := 5) (v := .int .i64 (i2 : Int)) rfl (by kernel_rfl) (by kernel_rfl) (by kernel_rfl) (fun _ _ _ h => h) (Or.inl ⟨by rfl, fun w' hw' => ?yR15⟩) HH.out ?_
        case yR15 => (have hc := (World.ownsRow.cellAt hw'.2.1 (k * 2) (by omega)).trans HC0.out; go_simp; try with_reducible rfl)
        refine wpAnyH_take (i := 6) (v := ?vR16) rfl (by kernel_rfl) (by kernel_rfl) (by kernel_rfl) (fun _ _ _ h => h) (Or.inl ⟨by rfl, fun w' _ => ?yR16⟩) HH.out ?_
        case yR16 => (go_simp; try with_reducible rfl)
        refine wpAnyH_take (i := 7) (v := ?vR17) rfl (by kernel_rfl) (by kernel_rfl) (by kernel_rfl) (fun _ _ _ h => h) (Or.inl ⟨by rfl, fun w' _ => ?yR17⟩) HH.out ?_
        case yR17 => (go_simp; try with_reducible rfl)
        try simp only [List.getElem_toArray, List.getElem_cons_succ, List.getElem_cons_zero, Act.put, List.setIfInBounds_toArray, List.set_cons_zero, List.set_cons_succ]
        refine wpAnyH_take (i := 8) (v := ?vR18) rfl (by kernel_rfl) (by kernel_rfl) (by kernel_rfl) (fun _ _ _ h => h) (Or.inl ⟨by rfl, fun w' _ => ?yR18⟩) HH.out ?_
        case yR18 => (go_simp; try with_reducible rfl)
        refine wpAnyH_take (i := 9) (v := ?vR19) rfl (by kernel_rfl) (by kernel_rfl) (by kernel_rfl) (fun _ _ _ h => h) (Or.inl ⟨by rfl, fun w' _ => ?yR19⟩) HH.out ?_
        case yR19 => (go_simp; try with_reducible rfl)
        try simp only [List.getElem_toArray, List.getElem_cons_succ, List.getElem_cons_zero, Act.put, List.setIfInBounds_toArray, List.set_cons_zero, List.set_cons_succ]
        refine wpAnyH_take (i := 10) (v := .int .i64 (j2 : Int)) rfl (by kernel_rfl) (by kernel_rfl) (by kernel_rfl) (fun _ _ _ h => h) (Or.inl ⟨by rfl, fun w' hw' => ?yR110⟩) HH.out ?_
        case yR110 => (have hc := (World.ownsRow.cellAt hw'.2.1 (k * 2 + 1) (by omega)).trans HC1.out; go_simp; try with_reducible rfl)
        try simp only [List.getElem_toArray, List.getElem_cons_succ, List.getElem_cons_zero, Act.put, List.setIfInBounds_toArray, List.set_cons_zero, List.set_cons_succ]
        refine wpAnyH_ready (rs := [11]) (by kernel_rfl) (by simp) (AllReadyH.cons rfl (fun K hK => ?_) AllReadyH.nil)
        go_simp
        refine (sector_let HIN.out HKK.out _).mono ?_
        rintro e w9111 ⟨rfl, bw⟩
        go_simp
        refine hK.out _ _ ⟨Blk.below HH.out.1 bw, own_belowN HH.out.2.1 bw, HH.out.2.2.trans (bw.mono HH.out.2.2.size)⟩ (fun hh => ?_)
        have HH' := Lib.hid hh
        clear hh hK K HH bw
        have HH := Lib.hid HH'.out
        clear HH'
        refine wpAnyH_take (i := 12) (v := ?vR112) rfl (by kernel_rfl) (by kernel_rfl) (by kernel_rfl) (fun _ _ _ h => h) (Or.inl ⟨by rfl, fun w' _ => ?yR112⟩) HH.out ?_
        case yR112 => (go_simp; try with_reducible rfl)
        refine wpAnyH_take (i := 13) (v := ?vR113) rfl (by kernel_rfl) (by kernel_rfl) (by kernel_rfl) (fun _ _ _ h => h) (Or.inl ⟨by rfl, fun w' _ => ?yR113⟩) HH.out ?_
        case yR113 => (go_simp; try with_reducible rfl)
        try simp only [List.getElem_toArray, List.getElem_cons_succ, List.getElem_cons_zero, Act.put, List.setIfInBounds_toArray, List.set_cons_zero, List.set_cons_succ]
        refine wpAnyH_take (i := 14) (v := ?vR114) rfl (by kernel_rfl) (by kernel_rfl) (by kernel_rfl) (fun _ _ _ h => h) (Or.inl ⟨by rfl, fun w' _ => ?yR114⟩) HH.out ?_
        case yR114 => (go_simp; try with_reducible rfl)
        refine wpAnyH_take (i := 15) (v := ?vR115) rfl (by kernel_rfl) (by kernel_rfl) (by kernel_rfl) (fun _ _ _ h => h) (Or.inl ⟨by rfl, fun w' _ => ?yR115⟩) HH.out ?_
        case yR115 => (go_simp; try with_reducible rfl)
        refine wpAnyH_take (i := 16) (v := ?vR116) rfl (by kernel_rfl) (by kernel_rfl) (by kernel_rfl) (fun _ _ _ h => h) (Or.inl ⟨by rfl, fun w' _ => ?yR116⟩) HH.out ?_
        case yR116 => (go_simp; try with_reducible rfl)
        try simp only [List.getElem_toArray, List.getElem_cons_succ, List.getElem_cons_zero, Act.put, List.setIfInBounds_toArray, List.set_cons_zero, List.set_cons_succ]
        refine wpAnyH_done (by kernel_rfl) ?_ _
        have B1' := Lib.hid HH.out.1
        have O1' := Lib.hid HH.out.2.1
        have BB' := Lib.hid HH.out.2.2
        clear HH B1 O1 BB
        have B1 := Lib.hid B1'.out
        have O1 := Lib.hid O1'.out
        have BB := Lib.hid BB'.out
        clear B1' O1' BB'
        obtain ⟨wz, hwz⟩ : ∃ v, v = w9111 := ⟨_, rfl⟩
        rw [← hwz] at B1 O1 BB ⊢
        clear hwz
        have cc : wz.cell? ⟨g, k * 2, none⟩ = some (.int .i64 (i2 : Int)) := (World.ownsRow.cellAt O1.out (k * 2) (by omega)).trans HC0.out
        have cd : wz.cell? ⟨g, k * 2 + 1, none⟩ = some (.int .i64 (j2 : Int)) := (World.ownsRow.cellAt O1.out (k * 2 + 1) (by omega)).trans HC1.out
        have c00 := B1.out.cell 0
        have c01 := B1.out.cell 1
        go_wp2_with fail
        clear c00 c01
        go_ret
        exact ⟨rfl, BB.out⟩
theorem segmentLies_own : ownKnob Try.prog.godebug = none := by kernel_rfl
theorem segmentLies_laid : laidOutB Try.prog = true := by kernel_rfl

set_option maxRecDepth 100000 in
theorem segmentLies_lifted (os : Os) (started : os.Started) (H : Type) (enc : TypeId × Value → H) :
    ReturnsInHanded {} Try.checked os 4 .any (Rows.segmentLiesSpec.pre6 enc Try.prog Try.f4 Rows.segmentLiesRow.domain false) (Rows.segmentLiesSpec.post enc Try.prog Try.f4 false true false false) := by
  refine returnsInHanded_of_change (C := Try.checked) segmentLies_own started (by kernel_rfl) Try.func4
    (ChangeSpec.witness6 (enc := enc) (C := Try.checked) false ⟨#[], #[.int .u8 0, .int .u8 0, .int .i64 0], []⟩ 8 (by kernel_rfl) (by kernel_rfl) (by kernel_rfl) (by kernel_rfl)) ?_
  intro W base args ds gs before hval0 hW _ _
  have hval : ∀ (j : Nat) t v, Try.f4.params[j]? = some t → args[j]? = some v → Value.okWide Try.prog W .any base t v := hval0
  have hW' := hW
  obtain ⟨p, q, hA0, hV, rfl, hfz, hnd⟩ := hW
  have hA : DataW.TrodAll enc Try.prog W 0 (fun _ => true) true Try.f4.params.toList args.toList ds p := hA0
  rw [Try.params4] at hA hval
  obtain ⟨v0, vs0, d0, ds0, p0, q0, hargs, rfl, rfl, h0, r0⟩ := trodAll_cons hA
  obtain ⟨v1, vs1, d1, ds1, p1, q1, rfl, rfl, rfl, h1, r1⟩ := trodAll_cons r0
  obtain ⟨v2, vs2, d2, ds2, p2, q2, rfl, rfl, rfl, h2, r2⟩ := trodAll_cons r1
  obtain ⟨rfl, rfl, rfl⟩ := trodAll_nil r2
  obtain rfl : args = #[v0, v1, v2] := by cases args; simp_all
  obtain ⟨rfl, rfl⟩ := trodVars_none hV
  obtain ⟨a0, rfl, rfl, rfl, w0⟩ := open_int Try.underlying5 (hval 0 5 v0 rfl rfl) h0
  have b0 := bounds_u8 w0
  obtain ⟨a1, rfl, rfl, rfl, w1⟩ := open_int Try.underlying5 (hval 1 5 v1 rfl rfl) h1
  have b1 := bounds_u8 w1
  obtain ⟨a2, rfl, rfl, rfl, w2⟩ := open_int Try.underlying3 (hval 2 3 v2 rfl rfl) h2
  have b2 := bounds_i64 w2
  clear hA0 hval0
  refine (segmentLies_any W a0 b0 a1 b1 a2 b2).mono fun e W' ⟨he, bel⟩ => ?_
  subst he
  exact ⟨_, rfl, _, _, _, [], _, [], hW', trodAll_mk1 (shut_bool Try.underlying4 _), (trodAll_cons_mk (shut_int Try.underlying5 w0) (trodAll_cons_mk (shut_int Try.underlying5 w1) (trodAll_cons_mk (shut_int Try.underlying3 w2) trodAll_mk0))), rfl, bel.frame _, fun h => by cases h⟩

theorem segmentLies_holds : Rows.SegmentLiesSaid :=
  OpenClaim.holds_of_wide 4 Try.f4 rfl rfl rfl rfl rfl rfl rfl ⟨rfl, rfl, rfl, rfl, rfl⟩ rfl rfl rfl rfl rfl (by kernel_rfl) Try.func4 (by kernel_rfl)
    (of_decide_eq_true (by kernel_rfl)) (by unfold Func.isWrapper; rw [if_neg (of_decide_eq_false (by kernel_rfl))]; exact ⟨rfl, rfl⟩)
    (fun os started H enc _ => segmentLies_lifted os started H enc)

#print axioms segmentLies_holds

end Go.Proofs.Ytmokigcplgjgiaa
