/-
  LogElder holds: of any two bodies, any bool and any byte the law returns true.
-/
import Derived.Test.YthadomboiockhaaLb1
import Derived.Deep.RegionHeld
import Derived.Deep.Cut
import Derived.Test.YthadomboiockhaaRows
import Derived.ProofKit
import Derived.OpenShut
import Derived.ShutString
import Derived.ChangeOld
namespace Go.Proofs.Ythadomboiockhaa
open Go.RowKit Kd Mi Sx Lo Go.ChangeShapes Go.WideShapes Go.ChangeAt
attribute [local go_sem ↓] Go.wp_at_zero Go.wp_at_succ
set_option maxRecDepth 100000 in
set_option maxHeartbeats 25600000 in
theorem logElder_false (w : World) (A1 : Option Addr) (n1 c1 : Nat) (old : List UInt8) (hl1 : old.length = n1) (hr1 : Rd w.heap.size w A1 (bv old)) (A2 : Option Addr) (n2 c2 : Nat) (new : List UInt8) (hl2 : new.length = n2) (hr2 : Rd w.heap.size w A2 (bv new)) (y : Int) (hy : 0 ≤ y ∧ y ≤ 255) :
    Calls Try.prog 7 #[.slice A1 n1 c1, .slice A2 n2 c2, .bool false, .int .u8 y] w (RetB (.bool true) w) := by
  have hm2 : 0 ≤ y.tmod 4 ∧ y.tmod 4 < 4 := by rw [Int.tmod_eq_emod_of_nonneg hy.1]; omega
  obtain ⟨n, hn⟩ : ∃ n : Nat, (n : Int) = 1 + y.tmod 4 := ⟨(1 + y.tmod 4).toNat, by omega⟩
  have HN := Lib.hid (show 0 < n ∧ n ≤ 4 by omega)
  have HOK := Lib.hid (show Sg.okS (3 : Int) (n : Int) by unfold Sg.okS; omega)
  have HMD := Lib.hid (fun W => made_any 0 y (by omega) hy 3 n (by decide) hn W)
  have HL1 := Lib.hid hl1
  have HL2 := Lib.hid hl2
  have HR1 := Lib.hid hr1
  have HR2 := Lib.hid hr2
  have wm : IntKind.i64.wrap (2 * (n : Int)) = ((2 * n : Nat) : Int) := by rw [IntWalk.i64_in _ (by omega)]; push_cast; rfl
  have wm2 : wrap64 (2 * (n : Int)) = ((2 * n : Nat) : Int) := by unfold wrap64; push_cast; omega
  clear hm2 hn hy hl1 hl2 hr1 hr2
  go_enter Try.func7, Try.ntmps7
  go_wp2_with fail
  refine (Lo.awake_any _).mono ?_
  rintro e w1 ⟨rfl, bw⟩
  have B1 := Lib.hid bw
  clear bw
  by_cases hb1 : 103 < n1
  · have n0 : (103 : Int) < (n1 : Int) := by omega
    go_wp2_with fail
    go_ret
    exact ⟨rfl, B1.out⟩
  have n0 : ¬ (103 : Int) < (n1 : Int) := by omega
  by_cases hb2 : 103 < n2
  · have n3 : (103 : Int) < (n2 : Int) := by omega
    go_wp2_with fail
    go_ret
    exact ⟨rfl, B1.out⟩
  have n3 : ¬ (103 : Int) < (n2 : Int) := by omega
  have HNB := Lib.hid (show n1 ≤ 103 ∧ n2 ≤ 103 by omega)
  clear hb1 hb2
  go_wp2_with fail
  refine (HMD.out _).mono ?_
  rintro e w2 ⟨p, g1, g2, bx, g, q, s2, F2, rfl, h⟩
  have H2 := Lib.hid (made_lga (a := 3) (b := n) (by have := HN.out; omega) HOK.out h)
  clear h HMD n0 n3
  obtain ⟨RC, hRC⟩ : ∃ RC, RC = rigC p g1 g2 g q 3 n := ⟨_, rfl⟩
  have HRC := Lib.hid (show RC[1]? = some (Value.pointer (some ⟨g1, 0, none⟩)) ∧ RC[2]? = some (Value.pointer (some ⟨g2, 0, none⟩)) ∧ RC[4]? = some (Value.pointer (some ⟨q, 0, none⟩)) ∧ RC[5]? = some (Value.int .i64 3) ∧ RC[6]? = some (Value.int .i64 (n : Int)) by rw [hRC]; exact ⟨rfl, rfl, rfl, rfl, rfl⟩)
  have HRX := Lib.hid hRC
  clear hRC
  unfold rigC
  go_upto_region 8 with fail
  rw [show (#[Value.pointer (some ⟨p, 0, none⟩), Value.pointer (some ⟨g1, 0, none⟩), Value.pointer (some ⟨g2, 0, none⟩), Value.pointer (some ⟨g, 0, none⟩), Value.pointer (some ⟨q, 0, none⟩), Value.int .i64 3, Value.int .i64 (n : Int)] : Array Value) = RC from HRX.out.symm]
  obtain ⟨bR, hbR⟩ : ∃ v, v = w2.heap.size := ⟨_, rfl⟩
  obtain ⟨w3, hw3⟩ : ∃ v, v = w2.alloc (.cells RC 73) := ⟨_, rfl⟩
  have bw : Below w2.heap.size w2 w3 := by rw [hw3]; exact (Below.refl _ _).alloc (Nat.le_refl _) _
  have H3 := Lib.hid (H2.out.below bw)
  have R3 := Lib.hid (show Bz w1 w3 F2 bR RC 73 from ⟨by rw [hw3, hbR]; exact heap_alloc_new _ _, by rw [hbR]; exact H2.out.lg.live.bel.size, fun hf => by have := (LogL _ _ _ _ _).lt H2.out.lg.live.at_ bR hf; omega⟩)
  rw [← hw3, ← hbR]
  clear bw hw3 hbR H2 HRX
  have HB1 := Lib.hid (show ∀ w', Below w1.heap.size w1 w' → Below w.heap.size w w' from fun w' h => B1.out.trans (h.mono B1.out.size))
  have c6 := (R3.out.1.cell 6).trans HRC.out.2.2.2.2
  go_wp2_with fail
  go_loopw [45] (fun i wr => ∃ (j : Nat) (s : Mr (Mu.one p g1 g2)) (F : Nat → Prop) (L : List (List UInt8)), j ≤ 2 * n ∧ i = .int .i64 j ∧ LgA p g1 g2 bx g q w1 wr s F n 3 L (List.replicate j old) (2 * j) ∧ Bz w1 wr F bR RC 73) (fun i _ => 2 * n - (intOf i).toNat)
  case atStart => exact ⟨0, s2, F2, _, Nat.zero_le _, rfl, H3.out, R3.out⟩
  case round =>
    clear H3 R3 c6
    obtain ⟨j, s, F, L, hj, rfl, hh, hr⟩ := hrel
    have H := Lib.hid hh
    have R := Lib.hid hr
    clear hh hr
    have c4 := (R.out.1.cell 4).trans HRC.out.2.2.1
    have HRR := Lib.hid (fun (A : Option Addr) (l : List UInt8) (hh : Rd w.heap.size w A (bv l)) (w' : World) (hb : Below w1.heap.size w1 w') => show Rd w'.heap.size w' A (bv l) from (hh.below (HB1.out w' hb)).more (HB1.out w' hb).size)
    by_cases hlt : j < 2 * n
    · have j0 : (j : Int) < ((2 * n : Nat) : Int) := by omega
      have wj : IntKind.i64.wrap ((j : Int) + 1) = ((j + 1 : Nat) : Int) := by have := HN.out; rw [IntWalk.i64_in _ (by omega)]; omega
      have wj2 : wrap64 ((j : Int) + 1) = ((j + 1 : Nat) : Int) := by have := HN.out; unfold wrap64; omega
      have HLT := Lib.hid hlt
      clear hlt hj
      go_wp2_with fail
      refine (lga_append H.out (by rw [List.length_replicate]; have := HLT.out; omega) (by have := HN.out; have := HLT.out; omega) A1 n1 c1 old HL1.out HNB.out.1 (HRR.out A1 old HR1.out _ H.out.lg.live.bel)).mono ?_
      rintro e w5 ⟨rfl, s5, F5, L5, hlg, hmv⟩
      rw [← List.replicate_succ'] at hlg
      have H5 := Lib.hid hlg
      have R5 := Lib.hid (R.out.step hmv)
      clear hlg hmv H R c4
      go_wp2_with fail
      go_roundw
      case rel => exact ⟨j + 1, s5, F5, L5, by have := HLT.out; omega, rfl, H5.out, R5.out⟩
      case measure => (have := HLT.out; simp only [intOf, Int.toNat_natCast]; omega)
    · obtain rfl : j = 2 * n := by omega
      clear hlt hj
      go_wp2_with fail
      refine (lga_flush H.out).mono ?_
      rintro e w5 ⟨rfl, s5, F5, L, hlg, hmv⟩
      have H5 := Lib.hid hlg
      have R5 := Lib.hid (R.out.step hmv)
      clear hlg hmv H R c4
      have c1 := (R5.out.1.cell 1).trans HRC.out.1
      have c2 := (R5.out.1.cell 2).trans HRC.out.2.1
      have HLL := Lib.hid (show L.length = 2 + 3 * n ∧ hasT litS.f n (3 * n) L (List.replicate (2 * n) old) from ⟨H5.out.len, H5.out.has⟩)
      go_wp2_with fail
      obtain ⟨F1, hlm, -, hback⟩ := lgm_lm H5.out.lg
      refine ((Mu.lm_out0 hlm true).mono (fun e w' hr => hback hr)).mono ?_
      clear hlm hback c1 c2
      rintro e w6 ⟨rfl, s6, F6, hlg, hmv⟩
      rw [List.length_replicate] at hlg
      have H6 := Lib.hid (show LgM p g1 g2 (gdS litS bx) g q w1 w6 s6 (lgT n 3 (2 * n + 0)) F6 (mdW false L L (List.replicate (2 + 3 * n) false) (List.replicate (2 + 3 * n) false)) (2 * 0) from hlg)
      have R6 := Lib.hid (R5.out.step hmv)
      clear hlg hmv H5 R5
      go_wp2_with fail
      go_loopw [68] (fun i wr => ∃ (j : Nat) (s : Mr (Mu.one p g1 g2)) (F : Nat → Prop) (M : List (List UInt8)) (a b : List Bool), j ≤ n ∧ i = .int .i64 j ∧ LgM p g1 g2 (gdS litS bx) g q w1 wr s (lgT n 3 (2 * n + j)) F (mdW false L M a b) (2 * j) ∧ (a.length = 2 + 3 * n ∧ M.length = 2 + 3 * n ∧ hasT litS.f n (3 * n) M (List.replicate (2 * n + j) old)) ∧ Bz w1 wr F bR RC 73) (fun i _ => n - (intOf i).toNat)
      case atStart => exact ⟨0, s6, F6, L, _, _, Nat.zero_le _, rfl, H6.out, ⟨List.length_replicate, HLL.out.1, HLL.out.2⟩, R6.out⟩
      case round =>
        clear H6 R6
        obtain ⟨j, s, F, M, a, b, hj, rfl, hh, hx, hr⟩ := hrel
        have H := Lib.hid hh
        have X := Lib.hid hx
        have R := Lib.hid hr
        clear hh hr hx
        have c4 := (R.out.1.cell 4).trans HRC.out.2.2.1
        by_cases hlt : j < n
        · have j0 : (j : Int) < (n : Int) := by omega
          have wj : IntKind.i64.wrap ((j : Int) + 1) = ((j + 1 : Nat) : Int) := by have := HN.out; rw [IntWalk.i64_in _ (by omega)]; omega
          have wj2 : wrap64 ((j : Int) + 1) = ((j + 1 : Nat) : Int) := by have := HN.out; unfold wrap64; omega
          have HLT := Lib.hid hlt
          clear hlt hj
          go_wp2_with fail
          refine (el_append H.out HN.out HLT.out (by have := HN.out; have := HLT.out; omega) X.out.1 X.out.2.1 X.out.2.2 A1 n1 c1 HL1.out HNB.out.1 (HRR.out A1 old HR1.out _ H.out.live.bel)).mono ?_
          rintro e w7 ⟨v, s7, F7, M7, a7, b7, rfl, hlg, hmv, h1, h2, h3⟩
          have H7 := Lib.hid hlg
          have X7 := Lib.hid (And.intro h1 (And.intro h2 h3))
          have R7 := Lib.hid (R.out.step hmv)
          clear hlg hmv h1 h2 h3 H R X c4
          go_wp2_with fail
          go_roundw
          case rel => exact ⟨j + 1, s7, F7, M7, a7, b7, by have := HLT.out; omega, rfl, H7.out, X7.out, R7.out⟩
          case measure => (have := HLT.out; simp only [intOf, Int.toNat_natCast]; omega)
        · obtain rfl : j = n := by omega
          clear hlt hj
          have hfu : lgT j 3 (2 * j + j) = ⟨j, [1, 2, 3], 3, some (2, j)⟩ := by rw [show 2 * j + j = 3 * j by omega]; exact lgFull3 HN.out.1
          have H' := H.out
          rw [hfu] at H'
          have HX := Lib.hid H'
          clear H hfu H'
          go_wp2_with fail
          have hc := lgm_free HX.out 0 (by omega) (by omega)
          rw [full_free, if_pos rfl] at hc
          refine hc.mono ?_
          clear hc
          rintro e w7 ⟨rfl, s7, F7, hlg, hmv⟩
          have H7 := Lib.hid (show LgM p g1 g2 (gdS litS bx) g q w1 w7 s7 ((⟨j, [1, 2, 3], 3, some (2, j)⟩ : Lg).free 0) F7 (mdW false L M a b) (2 * j) from hlg)
          have R7 := Lib.hid (R.out.step hmv)
          clear hlg hmv HX R c4
          have c4 := (R7.out.1.cell 4).trans HRC.out.2.2.1
          go_wp2_with fail
          refine (el_new (old := old) H7.out HN.out (by have := HN.out; omega) X.out.1 X.out.2.1 (by rw [show 3 * j = 2 * j + j by omega]; have := X.out.2.2; rwa [show 3 * j = 2 * j + j by omega] at this) A2 n2 c2 HL2.out HNB.out.2 (HRR.out A2 new HR2.out _ H7.out.live.bel)).mono ?_
          clear X
          rintro e w8 ⟨l8, s8, F8, M, a, b, rfl, hlg, hmv, h1, h2, h3⟩
          have H8 := Lib.hid hlg
          have X := Lib.hid (And.intro h1 (And.intro h2 h3))
          have R8 := Lib.hid (R7.out.step hmv)
          clear hlg hmv h1 h2 h3 H7 R7 c4
          have c4 := (R8.out.1.cell 4).trans HRC.out.2.2.1
          go_wp2_with fail
          have hc := lgm_flush H8.out
          rw [mdW_both, if_neg Bool.false_ne_true] at hc
          refine hc.mono ?_
          clear hc
          rintro e w9 ⟨rfl, s9, F9, hlg, hmv⟩
          have H9 := Lib.hid hlg
          have R9 := Lib.hid (R8.out.step hmv)
          clear hlg hmv H8 R8 c4
          go_wp2_with fail
          obtain ⟨F1, hlm, -, hback⟩ := lgm_lm H9.out
          refine ((Mu.lm_out0 hlm false).mono (fun e w' hr => hback hr)).mono ?_
          clear hlm hback
          rintro e w5 ⟨rfl, s5, F5, hlg, hmv⟩
          have H5 := Lib.hid hlg
          have R5 := Lib.hid (R9.out.step hmv)
          clear hlg hmv H9 R9
          obtain ⟨n, hnj⟩ : ∃ n, n = j := ⟨_, rfl⟩
          subst hnj
          have hzl : ∀ W, (zeroValue 111).run Try.prog W = .ok (.agg zeroLit) W := fun _ => by kernel_rfl
          go_wp2_with fail
          obtain ⟨F1, hlm, hsub, -⟩ := lgm_lm H5.out
          obtain ⟨FD, hld, hsub2⟩ := lm_devs hlm
          have hld : Mu.LD p g1 g2 w1 w5 s5.d FD L M false false 0 := hld
          have hdf : ∀ k, FD k → F5 k := fun k hk => hsub k (hsub2 k hk)
          clear hlm hsub hsub2
          obtain ⟨w6, hw6⟩ : ∃ W, W = w5.drew := ⟨_, rfl⟩
          have bd : Below w5.heap.size w5 w6 := by rw [hw6]; exact (Below.refl _ _).drew
          have D6 := Lib.hid (Mu.LD.below hld bd)
          have Y6 := Lib.hid (show Blk w6 bR RC 73 from R5.out.1.below bd)
          have HFD := Lib.hid (show ¬FD bR ∧ w1.heap.size ≤ bR from ⟨fun h => R5.out.2.2 (hdf bR h), R5.out.2.1⟩)
          clear H5 hld hdf bd
          refine wp_region_held_drew (S := (fun w' => w'.cell? ⟨bR, 1, none⟩ = some (.pointer (some ⟨g1, 0, none⟩)) ∧ w'.cell? ⟨bR, 2, none⟩ = some (.pointer (some ⟨g2, 0, none⟩)) ∧ w'.cell? ⟨bR, 5, none⟩ = some (.int .i64 3) ∧ w'.cell? ⟨bR, 6, none⟩ = some (.int .i64 (n : Int)))) (by kernel_rfl) (by rw [← hw6]; exact ⟨(Y6.out.cell 1).trans HRC.out.1, (Y6.out.cell 2).trans HRC.out.2.1, (Y6.out.cell 5).trans HRC.out.2.2.2.1, (Y6.out.cell 6).trans HRC.out.2.2.2.2⟩) (fun hh => ?_)
          rw [← hw6] at hh ⊢
          have HH := Lib.hid hh
          clear hh hw6 R5
          try simp only [List.getElem_toArray, List.getElem_cons_succ, List.getElem_cons_zero, Act.put, List.setIfInBounds_toArray, List.set_cons_zero, List.set_cons_succ]
          refine wpAnyH_take (i := 0) (v := ?vE0) rfl (by kernel_rfl) (by kernel_rfl) (by kernel_rfl) (fun _ _ _ h => h) (Or.inl ⟨by rfl, fun w' _ => ?yE0⟩) HH.out ?_
          case yE0 => (go_simp; try with_reducible rfl)
          try simp only [List.getElem_toArray, List.getElem_cons_zero, Act.put, List.setIfInBounds_toArray, List.set_cons_zero, List.set_cons_succ]
          refine wpAnyH_take (i := 2) (v := ?vE2) rfl (by kernel_rfl) (by kernel_rfl) (by kernel_rfl) (fun _ _ _ h => h) (Or.inl ⟨by rfl, fun w' _ => ?yE2⟩) HH.out ?_
          case yE2 => (go_simp; try with_reducible rfl)
          try simp only [List.getElem_toArray, List.getElem_cons_succ, List.getElem_cons_zero, Act.put, List.setIfInBounds_toArray, List.set_cons_zero, List.set_cons_succ]
          refine wpAnyH_take (i := 10) (v := ?vE10) rfl (by kernel_rfl) (by kernel_rfl) (by kernel_rfl) (fun _ _ _ h => h) (Or.inl ⟨by rfl, fun w' _ => ?yE10⟩) HH.out ?_
          case yE10 => (go_simp; try with_reducible rfl)
          try simp only [List.getElem_toArray, List.getElem_cons_succ, List.getElem_cons_zero, Act.put, List.setIfInBounds_toArray, List.set_cons_zero, List.set_cons_succ]
          refine wpAnyH_take (i := 1) (v := .pointer (some ⟨g1, 0, none⟩)) rfl (by kernel_rfl) (by kernel_rfl) (by kernel_rfl) (fun _ _ _ h => h) (Or.inl ⟨by rfl, fun w' hw' => ?yE1⟩) HH.out ?_
          case yE1 => ((have hc := hw'.1); go_simp; try with_reducible rfl)
          try simp only [List.getElem_toArray, List.getElem_cons_succ, List.getElem_cons_zero, Act.put, List.setIfInBounds_toArray, List.set_cons_zero, List.set_cons_succ]
          refine wpAnyH_take (i := 3) (v := .pointer (some ⟨g2, 0, none⟩)) rfl (by kernel_rfl) (by kernel_rfl) (by kernel_rfl) (fun _ _ _ h => h) (Or.inl ⟨by rfl, fun w' hw' => ?yE3⟩) HH.out ?_
          case yE3 => ((have hc := hw'.2.1); go_simp; try with_reducible rfl)
          try simp only [List.getElem_toArray, List.getElem_cons_succ, List.getElem_cons_zero, Act.put, List.setIfInBounds_toArray, List.set_cons_zero, List.set_cons_succ]
          refine wpAnyH_take (i := 11) (v := .agg #[.int .i64 3, .int .i64 (n : Int)]) rfl (by kernel_rfl) (by kernel_rfl) (by kernel_rfl) (fun _ _ _ h => h) (Or.inl ⟨by rfl, fun w' hw' => ?yE11⟩) HH.out ?_
          case yE11 => ((have hc := hw'.2.2.1; have hc2 := hw'.2.2.2); go_simp; try with_reducible rfl)
          try simp only [List.getElem_toArray, List.getElem_cons_succ, List.getElem_cons_zero, Act.put, List.setIfInBounds_toArray, List.set_cons_zero, List.set_cons_succ]
          refine wpAnyH_take (i := 4) (v := .agg zeroLit) rfl (by kernel_rfl) (by kernel_rfl) (by kernel_rfl) (fun _ _ _ h => h) (Or.inl ⟨by rfl, fun w' hw' => ?yE4⟩) HH.out ?_
          case yE4 => (go_simp; try with_reducible rfl)
          try simp only [List.getElem_toArray, List.getElem_cons_succ, List.getElem_cons_zero, Act.put, List.setIfInBounds_toArray, List.set_cons_zero, List.set_cons_succ]
          refine wpAnyH_take (i := 8) (v := .agg zeroLit) rfl (by kernel_rfl) (by kernel_rfl) (by kernel_rfl) (fun _ _ _ h => h) (Or.inl ⟨by rfl, fun w' hw' => ?yE8⟩) HH.out ?_
          case yE8 => (go_simp; try with_reducible rfl)
          try simp only [List.getElem_toArray, List.getElem_cons_succ, List.getElem_cons_zero, Act.put, List.setIfInBounds_toArray, List.set_cons_zero, List.set_cons_succ]
          refine wpAnyH_take (i := 5) (v := ?vE5) rfl (by kernel_rfl) (by kernel_rfl) (by kernel_rfl) (fun _ _ _ h => h) (Or.inl ⟨by rfl, fun w' _ => ?yE5⟩) HH.out ?_
          case yE5 => (go_simp; try with_reducible rfl)
          try simp only [List.getElem_toArray, List.getElem_cons_succ, List.getElem_cons_zero, Act.put, List.setIfInBounds_toArray, List.set_cons_zero, List.set_cons_succ]
          refine wpAnyH_take (i := 9) (v := ?vE9) rfl (by kernel_rfl) (by kernel_rfl) (by kernel_rfl) (fun _ _ _ h => h) (Or.inl ⟨by rfl, fun w' _ => ?yE9⟩) HH.out ?_
          case yE9 => (go_simp; try with_reducible rfl)
          try simp only [List.getElem_toArray, List.getElem_cons_succ, List.getElem_cons_zero, Act.put, List.setIfInBounds_toArray, List.set_cons_zero, List.set_cons_succ]
          refine wpAnyH_ready (rs := [6]) (by kernel_rfl) (by simp) (AllReadyH.cons rfl (fun K hK => ?_) AllReadyH.nil)
          go_simp
          refine (good_iface 111 (.agg zeroLit) _).mono ?_
          rintro e w7 ⟨rfl, hw7⟩
          obtain ⟨bG, hbG⟩ : ∃ v, v = w6.heap.size := ⟨_, rfl⟩
          rw [← hbG]
          have bw : Below w6.heap.size w6 w7 := by rw [hw7]; exact (Below.refl _ _).alloc (Nat.le_refl _) _
          have HBG := Lib.hid (show Blk w7 bG #[litS.v] 152 by rw [hw7, hbG]; exact heap_alloc_new _ _)
          have NG := Lib.hid (show ¬FD bG ∧ w1.heap.size ≤ bG ∧ w6.heap.size ≤ bG from ⟨fun hf => by have := (Mu.one p g1 g2).L.lt D6.out.live.at_ bG hf; omega, by rw [hbG]; exact D6.out.live.bel.size, by rw [hbG]; exact Nat.le_refl _⟩)
          have D7 := Lib.hid (Mu.LD.below D6.out bw)
          have Y7 := Lib.hid (Y6.out.below bw)
          clear bw hw7 hbG
          go_simp
          refine hK.out _ _ ⟨(Y7.out.cell 1).trans HRC.out.1, (Y7.out.cell 2).trans HRC.out.2.1, (Y7.out.cell 5).trans HRC.out.2.2.2.1, (Y7.out.cell 6).trans HRC.out.2.2.2.2⟩ (fun hh => ?_)
          have HH' := Lib.hid hh
          clear hh hK K HH D6 Y6
          have HH := Lib.hid HH'.out
          clear HH'
          try simp only [List.getElem_toArray, List.getElem_cons_succ, List.getElem_cons_zero, Act.put, List.setIfInBounds_toArray, List.set_cons_zero, List.set_cons_succ]
          refine wpAnyH_ready (rs := [7]) (by kernel_rfl) (by simp) (AllReadyH.cons rfl (fun K hK => ?_) AllReadyH.nil)
          go_simp
          refine (lm_newB (G := gdS litS bG) (fun _ _ _ _ _ _ => trivial) D7.out (fun y hy => by rw [show (gdS litS bG).l = [(bG, #[litS.v], 152)] from rfl, List.mem_singleton] at hy; subst hy; exact ⟨HBG.out, NG.out.1, NG.out.2.1⟩) (n := 2 + 3 * n) HLL.out.1 X.out.2.1).mono ?_
          rintro e w8 ⟨gm, s8, F8, rfl, h, hf, hb⟩
          have D8 := Lib.hid (show Mu.LM p g1 g2 (gdS litS bG) gm w1 w8 s8 F8 (Sc.startM L M (2 + 3 * n)) 0 from h)
          have hmem : ∀ k, (∃ y ∈ (gdS litS bG).l, k = y.1) → k = bG := fun k hk => by obtain ⟨y, hy, e⟩ := hk; rw [show (gdS litS bG).l = [(bG, #[litS.v], 152)] from rfl, List.mem_singleton] at hy; rw [e, hy]
          have Y8 := Lib.hid (Y7.out.but hb (fun hx => hx.elim HFD.out.1 (fun h => by have h1 := hmem _ h; have h2 := HBG.out; rw [← h1] at h2; have h3 : w7.heap[bR]? = some (.cells RC 73 (0, 0)) := Y7.out; have h4 : w7.heap[bR]? = some (.cells #[litS.v] 152 (0, 0)) := h2; rw [h3] at h4; injection h4 with h4; injection h4 with _ h4; exact absurd h4 (by decide))))
          have N8 := Lib.hid (show ¬F8 bR from fun hx => (hf bR hx).elim (fun hx => hx.elim HFD.out.1 (fun h => by have h1 := hmem _ h; have h2 := HBG.out; rw [← h1] at h2; have h3 : w7.heap[bR]? = some (.cells RC 73 (0, 0)) := Y7.out; have h4 : w7.heap[bR]? = some (.cells #[litS.v] 152 (0, 0)) := h2; rw [h3] at h4; injection h4 with h4; injection h4 with _ h4; exact absurd h4 (by decide))) (fun h => by have := Y7.out.lt; omega))
          clear h hf hb hmem
          go_simp
          refine hK.out _ _ ⟨(Y8.out.cell 1).trans HRC.out.1, (Y8.out.cell 2).trans HRC.out.2.1, (Y8.out.cell 5).trans HRC.out.2.2.2.1, (Y8.out.cell 6).trans HRC.out.2.2.2.2⟩ (fun hh => ?_)
          have HH' := Lib.hid hh
          clear hh hK K HH D7 Y7 HBG NG
          have HH := Lib.hid HH'.out
          clear HH'
          try simp only [List.getElem_toArray, List.getElem_cons_succ, List.getElem_cons_zero, Act.put, List.setIfInBounds_toArray, List.set_cons_zero, List.set_cons_succ]
          refine wpAnyH_ready (rs := [12]) (by kernel_rfl) (by simp) (AllReadyH.cons rfl (fun K hK => ?_) AllReadyH.nil)
          go_simp
          refine (el_open (old := old) (new := new) D8.out HLL.out.1 X.out.2.1 (by omega) HN.out HOK.out (fun i hi => el_first HN.out.1 HLL.out.2 X.out.2.2 hi)).mono ?_
          rintro e w9 ⟨qn, Af, kf, cf, fd, lo, s9, F9, FF, yf, X0, X1, rfl, hlg, hfd, hyf, hye, hkf, hg0, hrx, h1, h2, h3, h4⟩
          have H9 := Lib.hid hlg
          have FD9 := Lib.hid hfd
          have YF := Lib.hid (And.intro hyf hye)
          have KF := Lib.hid hkf
          have G0 := Lib.hid hg0
          have RX := Lib.hid hrx
          have DJ := Lib.hid h3
          have Y9 := Lib.hid (Y8.out.but h4 N8.out)
          clear hlg hfd hyf hye hkf hg0 hrx h1 h2 h3 h4
          go_simp
          refine hK.out _ _ ⟨(Y9.out.cell 1).trans HRC.out.1, (Y9.out.cell 2).trans HRC.out.2.1, (Y9.out.cell 5).trans HRC.out.2.2.2.1, (Y9.out.cell 6).trans HRC.out.2.2.2.2⟩ (fun hh => ?_)
          have HH' := Lib.hid hh
          clear hh hK K HH D8 Y8 N8
          have HH := Lib.hid HH'.out
          clear HH'
          try simp only [List.getElem_toArray, List.getElem_cons_succ, List.getElem_cons_zero, Act.put, List.setIfInBounds_toArray, List.set_cons_zero, List.set_cons_succ]
          refine wpAnyH_take (i := 13) (v := ?vG13) rfl (by kernel_rfl) (by kernel_rfl) (by kernel_rfl) (fun _ _ _ h => h) (Or.inl ⟨by rfl, fun w' _ => ?yG13⟩) HH.out ?_
          case yG13 => (go_simp; try with_reducible rfl)
          try simp only [List.getElem_toArray, List.getElem_cons_succ, List.getElem_cons_zero, Act.put, List.setIfInBounds_toArray, List.set_cons_zero, List.set_cons_succ]
          refine wpAnyH_take (i := 14) (v := ?vG14) rfl (by kernel_rfl) (by kernel_rfl) (by kernel_rfl) (fun _ _ _ h => h) (Or.inl ⟨by rfl, fun w' _ => ?yG14⟩) HH.out ?_
          case yG14 => (go_simp; try with_reducible rfl)
          try simp only [List.getElem_toArray, List.getElem_cons_succ, List.getElem_cons_zero, Act.put, List.setIfInBounds_toArray, List.set_cons_zero, List.set_cons_succ]
          refine wpAnyH_take (i := 15) (v := ?vG15) rfl (by kernel_rfl) (by kernel_rfl) (by kernel_rfl) (fun _ _ _ h => h) (Or.inl ⟨by rfl, fun w' _ => ?yG15⟩) HH.out ?_
          case yG15 => (go_simp; try with_reducible rfl)
          try simp only [List.getElem_toArray, List.getElem_cons_succ, List.getElem_cons_zero, Act.put, List.setIfInBounds_toArray, List.set_cons_zero, List.set_cons_succ]
          refine wpAnyH_take (i := 16) (v := ?vG16) rfl (by kernel_rfl) (by kernel_rfl) (by kernel_rfl) (fun _ _ _ h => h) (Or.inl ⟨by rfl, fun w' _ => ?yG16⟩) HH.out ?_
          case yG16 => (go_simp; try with_reducible rfl)
          try simp only [List.getElem_toArray, List.getElem_cons_succ, List.getElem_cons_zero, Act.put, List.setIfInBounds_toArray, List.set_cons_zero, List.set_cons_succ]
          refine wpAnyH_take (i := 17) (v := ?vG17) rfl (by kernel_rfl) (by kernel_rfl) (by kernel_rfl) (fun _ _ _ h => h) (Or.inl ⟨by rfl, fun w' _ => ?yG17⟩) HH.out ?_
          case yG17 => (go_simp; try with_reducible rfl)
          try simp only [List.getElem_toArray, List.getElem_cons_succ, List.getElem_cons_zero, Act.put, List.setIfInBounds_toArray, List.set_cons_zero, List.set_cons_succ]
          refine wpAnyH_take (i := 18) (v := ?vG18) rfl (by kernel_rfl) (by kernel_rfl) (by kernel_rfl) (fun _ _ _ h => h) (Or.inl ⟨by rfl, fun w' _ => ?yG18⟩) HH.out ?_
          case yG18 => (go_simp; try with_reducible rfl)
          try simp only [List.getElem_toArray, List.getElem_cons_succ, List.getElem_cons_zero, Act.put, List.setIfInBounds_toArray, List.set_cons_zero, List.set_cons_succ]
          refine wpAnyH_take (i := 19) (v := ?vG19) rfl (by kernel_rfl) (by kernel_rfl) (by kernel_rfl) (fun _ _ _ h => h) (Or.inl ⟨by rfl, fun w' _ => ?yG19⟩) HH.out ?_
          case yG19 => (go_simp; try with_reducible rfl)
          try simp only [List.getElem_toArray, List.getElem_cons_succ, List.getElem_cons_zero, Act.put, List.setIfInBounds_toArray, List.set_cons_zero, List.set_cons_succ]
          refine wpAnyH_done (by kernel_rfl) ?_ _
          clear HH Y9 HFD HLL X
          obtain ⟨kk, hkk⟩ : ∃ kk, kk = kf - 1 := ⟨_, rfl⟩
          have HKK := Lib.hid hkk
          clear hkk
          have k0 : ¬((kf : Int) = 0) := by have := KF.out; omega
          have k1 : (kk : Int) < (kf : Int) := by have := KF.out; have := HKK.out; omega
          have k2 : (0 : Int) ≤ (kk : Int) := by omega
          have wk : IntKind.i64.wrap ((kf : Int) - 1) = (kk : Int) := by have := KF.out; have := HKK.out; rw [IntWalk.i64_in _ (by omega)]; omega
          have wk2 : wrap64 ((kf : Int) - 1) = (kk : Int) := by have := KF.out; have := HKK.out; unfold wrap64; omega
          go_wp2_with fail
          have hc := lgm_gen H9.out 0 (by omega) (by omega)
          rw [if_pos (Int.le_refl 0), show (0 : Int).toNat = 0 from rfl, G0.out] at hc
          refine hc.mono ?_
          clear hc
          rintro e w10 ⟨rfl, bw⟩
          have H10 := Lib.hid (H9.out.below bw)
          have FD10 := Lib.hid ((FdL Af kf cf).below FD9.out bw)
          clear bw H9 FD9
          obtain ⟨gA, x0, hA, hx0, hc0, hc1, hc2, hrd⟩ := fd_at FD10.out (k := kk) (by have := KF.out; have := HKK.out; omega)
          subst hA
          have hxy : x0 = yf := by have h1 := YF.out.1; rw [← HKK.out, hx0] at h1; exact Option.some.inj h1
          subst hxy
          obtain ⟨xA, hxA⟩ : ∃ v, v = x0.A := ⟨_, rfl⟩
          obtain ⟨xc, hxc⟩ : ∃ v, v = x0.c := ⟨_, rfl⟩
          rw [YF.out.2.1] at hc0
          rw [YF.out.2.2.1] at hc1
          rw [YF.out.2.2.2, ← hxA, ← hxc] at hc2
          have HX0 := Lib.hid hx0
          have HXA := Lib.hid (show xA = x0.A ∧ x0.b = new from ⟨hxA, YF.out.2.2.2⟩)
          clear hx0 hrd hxA hxc
          go_wp2_with fail
          obtain ⟨bF, hbF⟩ : ∃ v, v = w10.heap.size := ⟨_, rfl⟩
          obtain ⟨w12, hw12⟩ : ∃ v, v = w10.alloc (.cells #[.int .i64 2, .int .u64 4, .slice xA new.length xc] 113) := ⟨_, rfl⟩
          rw [← hw12, ← hbF]
          have bw : Below w10.heap.size w10 w12 := by rw [hw12]; exact (Below.refl _ _).alloc (Nat.le_refl _) _
          have XF := Lib.hid (show Bz w1 w12 F9 bF #[.int .i64 2, .int .u64 4, .slice xA new.length xc] 113 from ⟨by rw [hw12, hbF]; exact heap_alloc_new _ _, by rw [hbF]; exact H10.out.live.bel.size, fun hf => by have := (LogL _ _ _ _ _).lt H10.out.live.at_ bF hf; omega⟩)
          have H12 := Lib.hid (H10.out.below bw)
          have FD12 := Lib.hid ((FdL _ kf cf).below FD10.out bw)
          clear bw hw12 hbF H10 FD10 hc0 hc1 hc2
          have hc := lgm_read H12.out 2
          rw [RX.out] at hc
          refine hc.mono ?_
          clear hc
          rintro e w13 ⟨Ab, nb, cb, F13, rfl, hob, hlg, hmv, hdb⟩
          have H13 := Lib.hid hlg
          have XF13 := Lib.hid (XF.out.step hmv)
          have FD13 := Lib.hid ((FdL _ kf cf).but FD12.out hmv.but (fun k hk hf => DJ.out k hf hk))
          have HRX := Lib.hid (show Rd w13.heap.size w13 xA (bv new) from by
                    obtain ⟨g', x1, _, hx1, _, _, _, hrd1⟩ := fd_at FD13.out (k := kk) (by have := KF.out; have := HKK.out; omega)
                    have e1 : x1 = x0 := Option.some.inj (hx1.symm.trans HX0.out)
                    rw [e1, ← HXA.out.1, HXA.out.2] at hrd1
                    exact hrd1)
          have HRA := Lib.hid (Rd.own (n := nb) (c := cb) hob)
          have HNB2 := Lib.hid (own_blen hob)
          have HRB := Lib.hid (show Rd w.heap.size w13 A2 (bv new) from HR2.out.below (HB1.out w13 H13.out.live.bel))
          have BF := Lib.hid (HB1.out w13 H13.out.live.bel)
          clear hob hlg hmv hdb XF H12 FD12 FD13 HX0 HXA YF DJ RX G0
          obtain ⟨Z, hZ⟩ : ∃ Z : ByteArray, Z = ⟨new.toArray⟩ := ⟨_, rfl⟩
          have HZ := Lib.hid hZ
          clear hZ
          have f0 : w13.cell? ⟨bF, 0, none⟩ = some (.int .i64 2) := XF13.out.1.cell 0
          have f1 : w13.cell? ⟨bF, 1, none⟩ = some (.int .u64 4) := XF13.out.1.cell 1
          have f2 : w13.cell? ⟨bF, 2, none⟩ = some (.slice xA new.length xc) := XF13.out.1.cell 2
          have k3 := conv_rd (c := xc) Try.underlying81 Try.underlying5 Try.underlying9 HRX.out rfl
          have k4 := conv_rd (c := c2) Try.underlying81 Try.underlying5 Try.underlying9 HRB.out HL2.out
          have k5 := conv_rd (c := cb) Try.underlying81 Try.underlying5 Try.underlying9 HRA.out HNB2.out
          rw [← HZ.out] at k3 k4 k5
          clear XF13 HRX HRB HRA HNB2
          go_wp2_with fail
          go_ret
          exact ⟨rfl, BF.out⟩
set_option maxRecDepth 100000 in
set_option maxHeartbeats 25600000 in
theorem logElder_true (w : World) (A1 : Option Addr) (n1 c1 : Nat) (old : List UInt8) (hl1 : old.length = n1) (hr1 : Rd w.heap.size w A1 (bv old)) (A2 : Option Addr) (n2 c2 : Nat) (new : List UInt8) (hl2 : new.length = n2) (hr2 : Rd w.heap.size w A2 (bv new)) (y : Int) (hy : 0 ≤ y ∧ y ≤ 255) :
    Calls Try.prog 7 #[.slice A1 n1 c1, .slice A2 n2 c2, .bool true, .int .u8 y] w (RetB (.bool true) w) := by
  have hm2 : 0 ≤ y.tmod 4 ∧ y.tmod 4 < 4 := by rw [Int.tmod_eq_emod_of_nonneg hy.1]; omega
  obtain ⟨n, hn⟩ : ∃ n : Nat, (n : Int) = 1 + y.tmod 4 := ⟨(1 + y.tmod 4).toNat, by omega⟩
  have HN := Lib.hid (show 0 < n ∧ n ≤ 4 by omega)
  have HOK := Lib.hid (show Sg.okS (3 : Int) (n : Int) by unfold Sg.okS; omega)
  have HMD := Lib.hid (fun W => made_any 0 y (by omega) hy 3 n (by decide) hn W)
  have HL1 := Lib.hid hl1
  have HL2 := Lib.hid hl2
  have HR1 := Lib.hid hr1
  have HR2 := Lib.hid hr2
  have wm : IntKind.i64.wrap (2 * (n : Int)) = ((2 * n : Nat) : Int) := by rw [IntWalk.i64_in _ (by omega)]; push_cast; rfl
  have wm2 : wrap64 (2 * (n : Int)) = ((2 * n : Nat) : Int) := by unfold wrap64; push_cast; omega
  clear hm2 hn hy hl1 hl2 hr1 hr2
  go_enter Try.func7, Try.ntmps7
  go_wp2_with fail
  refine (Lo.awake_any _).mono ?_
  rintro e w1 ⟨rfl, bw⟩
  have B1 := Lib.hid bw
  clear bw
  by_cases hb1 : 103 < n1
  · have n0 : (103 : Int) < (n1 : Int) := by omega
    go_wp2_with fail
    go_ret
    exact ⟨rfl, B1.out⟩
  have n0 : ¬ (103 : Int) < (n1 : Int) := by omega
  by_cases hb2 : 103 < n2
  · have n3 : (103 : Int) < (n2 : Int) := by omega
    go_wp2_with fail
    go_ret
    exact ⟨rfl, B1.out⟩
  have n3 : ¬ (103 : Int) < (n2 : Int) := by omega
  have HNB := Lib.hid (show n1 ≤ 103 ∧ n2 ≤ 103 by omega)
  clear hb1 hb2
  go_wp2_with fail
  refine (HMD.out _).mono ?_
  rintro e w2 ⟨p, g1, g2, bx, g, q, s2, F2, rfl, h⟩
  have H2 := Lib.hid (made_lga (a := 3) (b := n) (by have := HN.out; omega) HOK.out h)
  clear h HMD n0 n3
  obtain ⟨RC, hRC⟩ : ∃ RC, RC = rigC p g1 g2 g q 3 n := ⟨_, rfl⟩
  have HRC := Lib.hid (show RC[1]? = some (Value.pointer (some ⟨g1, 0, none⟩)) ∧ RC[2]? = some (Value.pointer (some ⟨g2, 0, none⟩)) ∧ RC[4]? = some (Value.pointer (some ⟨q, 0, none⟩)) ∧ RC[5]? = some (Value.int .i64 3) ∧ RC[6]? = some (Value.int .i64 (n : Int)) by rw [hRC]; exact ⟨rfl, rfl, rfl, rfl, rfl⟩)
  have HRX := Lib.hid hRC
  clear hRC
  unfold rigC
  go_upto_region 8 with fail
  rw [show (#[Value.pointer (some ⟨p, 0, none⟩), Value.pointer (some ⟨g1, 0, none⟩), Value.pointer (some ⟨g2, 0, none⟩), Value.pointer (some ⟨g, 0, none⟩), Value.pointer (some ⟨q, 0, none⟩), Value.int .i64 3, Value.int .i64 (n : Int)] : Array Value) = RC from HRX.out.symm]
  obtain ⟨bR, hbR⟩ : ∃ v, v = w2.heap.size := ⟨_, rfl⟩
  obtain ⟨w3, hw3⟩ : ∃ v, v = w2.alloc (.cells RC 73) := ⟨_, rfl⟩
  have bw : Below w2.heap.size w2 w3 := by rw [hw3]; exact (Below.refl _ _).alloc (Nat.le_refl _) _
  have H3 := Lib.hid (H2.out.below bw)
  have R3 := Lib.hid (show Bz w1 w3 F2 bR RC 73 from ⟨by rw [hw3, hbR]; exact heap_alloc_new _ _, by rw [hbR]; exact H2.out.lg.live.bel.size, fun hf => by have := (LogL _ _ _ _ _).lt H2.out.lg.live.at_ bR hf; omega⟩)
  rw [← hw3, ← hbR]
  clear bw hw3 hbR H2 HRX
  have HB1 := Lib.hid (show ∀ w', Below w1.heap.size w1 w' → Below w.heap.size w w' from fun w' h => B1.out.trans (h.mono B1.out.size))
  have c6 := (R3.out.1.cell 6).trans HRC.out.2.2.2.2
  go_wp2_with fail
  go_loopw [45] (fun i wr => ∃ (j : Nat) (s : Mr (Mu.one p g1 g2)) (F : Nat → Prop) (L : List (List UInt8)), j ≤ 2 * n ∧ i = .int .i64 j ∧ LgA p g1 g2 bx g q w1 wr s F n 3 L (List.replicate j old) (2 * j) ∧ Bz w1 wr F bR RC 73) (fun i _ => 2 * n - (intOf i).toNat)
  case atStart => exact ⟨0, s2, F2, _, Nat.zero_le _, rfl, H3.out, R3.out⟩
  case round =>
    clear H3 R3 c6
    obtain ⟨j, s, F, L, hj, rfl, hh, hr⟩ := hrel
    have H := Lib.hid hh
    have R := Lib.hid hr
    clear hh hr
    have c4 := (R.out.1.cell 4).trans HRC.out.2.2.1
    have HRR := Lib.hid (fun (A : Option Addr) (l : List UInt8) (hh : Rd w.heap.size w A (bv l)) (w' : World) (hb : Below w1.heap.size w1 w') => show Rd w'.heap.size w' A (bv l) from (hh.below (HB1.out w' hb)).more (HB1.out w' hb).size)
    by_cases hlt : j < 2 * n
    · have j0 : (j : Int) < ((2 * n : Nat) : Int) := by omega
      have wj : IntKind.i64.wrap ((j : Int) + 1) = ((j + 1 : Nat) : Int) := by have := HN.out; rw [IntWalk.i64_in _ (by omega)]; omega
      have wj2 : wrap64 ((j : Int) + 1) = ((j + 1 : Nat) : Int) := by have := HN.out; unfold wrap64; omega
      have HLT := Lib.hid hlt
      clear hlt hj
      go_wp2_with fail
      refine (lga_append H.out (by rw [List.length_replicate]; have := HLT.out; omega) (by have := HN.out; have := HLT.out; omega) A1 n1 c1 old HL1.out HNB.out.1 (HRR.out A1 old HR1.out _ H.out.lg.live.bel)).mono ?_
      rintro e w5 ⟨rfl, s5, F5, L5, hlg, hmv⟩
      rw [← List.replicate_succ'] at hlg
      have H5 := Lib.hid hlg
      have R5 := Lib.hid (R.out.step hmv)
      clear hlg hmv H R c4
      go_wp2_with fail
      go_roundw
      case rel => exact ⟨j + 1, s5, F5, L5, by have := HLT.out; omega, rfl, H5.out, R5.out⟩
      case measure => (have := HLT.out; simp only [intOf, Int.toNat_natCast]; omega)
    · obtain rfl : j = 2 * n := by omega
      clear hlt hj
      go_wp2_with fail
      refine (lga_flush H.out).mono ?_
      rintro e w5 ⟨rfl, s5, F5, L, hlg, hmv⟩
      have H5 := Lib.hid hlg
      have R5 := Lib.hid (R.out.step hmv)
      clear hlg hmv H R c4
      have c1 := (R5.out.1.cell 1).trans HRC.out.1
      have c2 := (R5.out.1.cell 2).trans HRC.out.2.1
      have HLL := Lib.hid (show L.length = 2 + 3 * n ∧ hasT litS.f n (3 * n) L (List.replicate (2 * n) old) from ⟨H5.out.len, H5.out.has⟩)
      go_wp2_with fail
      obtain ⟨F1, hlm, -, hback⟩ := lgm_lm H5.out.lg
      refine ((Mu.lm_out1 hlm true).mono (fun e w' hr => hback hr)).mono ?_
      clear hlm hback c1 c2
      rintro e w6 ⟨rfl, s6, F6, hlg, hmv⟩
      rw [List.length_replicate] at hlg
      have H6 := Lib.hid (show LgM p g1 g2 (gdS litS bx) g q w1 w6 s6 (lgT n 3 (2 * n + 0)) F6 (mdW true L L (List.replicate (2 + 3 * n) false) (List.replicate (2 + 3 * n) false)) (2 * 0) from hlg)
      have R6 := Lib.hid (R5.out.step hmv)
      clear hlg hmv H5 R5
      go_wp2_with fail
      go_loopw [68] (fun i wr => ∃ (j : Nat) (s : Mr (Mu.one p g1 g2)) (F : Nat → Prop) (M : List (List UInt8)) (a b : List Bool), j ≤ n ∧ i = .int .i64 j ∧ LgM p g1 g2 (gdS litS bx) g q w1 wr s (lgT n 3 (2 * n + j)) F (mdW true L M a b) (2 * j) ∧ (a.length = 2 + 3 * n ∧ M.length = 2 + 3 * n ∧ hasT litS.f n (3 * n) M (List.replicate (2 * n + j) old)) ∧ Bz w1 wr F bR RC 73) (fun i _ => n - (intOf i).toNat)
      case atStart => exact ⟨0, s6, F6, L, _, _, Nat.zero_le _, rfl, H6.out, ⟨List.length_replicate, HLL.out.1, HLL.out.2⟩, R6.out⟩
      case round =>
        clear H6 R6
        obtain ⟨j, s, F, M, a, b, hj, rfl, hh, hx, hr⟩ := hrel
        have H := Lib.hid hh
        have X := Lib.hid hx
        have R := Lib.hid hr
        clear hh hr hx
        have c4 := (R.out.1.cell 4).trans HRC.out.2.2.1
        by_cases hlt : j < n
        · have j0 : (j : Int) < (n : Int) := by omega
          have wj : IntKind.i64.wrap ((j : Int) + 1) = ((j + 1 : Nat) : Int) := by have := HN.out; rw [IntWalk.i64_in _ (by omega)]; omega
          have wj2 : wrap64 ((j : Int) + 1) = ((j + 1 : Nat) : Int) := by have := HN.out; unfold wrap64; omega
          have HLT := Lib.hid hlt
          clear hlt hj
          go_wp2_with fail
          refine (el_append H.out HN.out HLT.out (by have := HN.out; have := HLT.out; omega) X.out.1 X.out.2.1 X.out.2.2 A1 n1 c1 HL1.out HNB.out.1 (HRR.out A1 old HR1.out _ H.out.live.bel)).mono ?_
          rintro e w7 ⟨v, s7, F7, M7, a7, b7, rfl, hlg, hmv, h1, h2, h3⟩
          have H7 := Lib.hid hlg
          have X7 := Lib.hid (And.intro h1 (And.intro h2 h3))
          have R7 := Lib.hid (R.out.step hmv)
          clear hlg hmv h1 h2 h3 H R X c4
          go_wp2_with fail
          go_roundw
          case rel => exact ⟨j + 1, s7, F7, M7, a7, b7, by have := HLT.out; omega, rfl, H7.out, X7.out, R7.out⟩
          case measure => (have := HLT.out; simp only [intOf, Int.toNat_natCast]; omega)
        · obtain rfl : j = n := by omega
          clear hlt hj
          have hfu : lgT j 3 (2 * j + j) = ⟨j, [1, 2, 3], 3, some (2, j)⟩ := by rw [show 2 * j + j = 3 * j by omega]; exact lgFull3 HN.out.1
          have H' := H.out
          rw [hfu] at H'
          have HX := Lib.hid H'
          clear H hfu H'
          go_wp2_with fail
          have hc := lgm_free HX.out 0 (by omega) (by omega)
          rw [full_free, if_pos rfl] at hc
          refine hc.mono ?_
          clear hc
          rintro e w7 ⟨rfl, s7, F7, hlg, hmv⟩
          have H7 := Lib.hid (show LgM p g1 g2 (gdS litS bx) g q w1 w7 s7 ((⟨j, [1, 2, 3], 3, some (2, j)⟩ : Lg).free 0) F7 (mdW true L M a b) (2 * j) from hlg)
          have R7 := Lib.hid (R.out.step hmv)
          clear hlg hmv HX R c4
          have c4 := (R7.out.1.cell 4).trans HRC.out.2.2.1
          go_wp2_with fail
          refine (el_new (old := old) H7.out HN.out (by have := HN.out; omega) X.out.1 X.out.2.1 (by rw [show 3 * j = 2 * j + j by omega]; have := X.out.2.2; rwa [show 3 * j = 2 * j + j by omega] at this) A2 n2 c2 HL2.out HNB.out.2 (HRR.out A2 new HR2.out _ H7.out.live.bel)).mono ?_
          clear X
          rintro e w8 ⟨l8, s8, F8, M, a, b, rfl, hlg, hmv, h1, h2, h3⟩
          have H8 := Lib.hid hlg
          have X := Lib.hid (And.intro h1 (And.intro h2 h3))
          have R8 := Lib.hid (R7.out.step hmv)
          clear hlg hmv h1 h2 h3 H7 R7 c4
          have c4 := (R8.out.1.cell 4).trans HRC.out.2.2.1
          go_wp2_with fail
          have hc := lgm_flush H8.out
          rw [mdW_both, if_neg Bool.false_ne_true] at hc
          refine hc.mono ?_
          clear hc
          rintro e w9 ⟨rfl, s9, F9, hlg, hmv⟩
          have H9 := Lib.hid hlg
          have R9 := Lib.hid (R8.out.step hmv)
          clear hlg hmv H8 R8 c4
          go_wp2_with fail
          obtain ⟨F1, hlm, -, hback⟩ := lgm_lm H9.out
          refine ((Mu.lm_out1 hlm false).mono (fun e w' hr => hback hr)).mono ?_
          clear hlm hback
          rintro e w5 ⟨rfl, s5, F5, hlg, hmv⟩
          have H5 := Lib.hid hlg
          have R5 := Lib.hid (R9.out.step hmv)
          clear hlg hmv H9 R9
          obtain ⟨n, hnj⟩ : ∃ n, n = j := ⟨_, rfl⟩
          subst hnj
          have hzl : ∀ W, (zeroValue 111).run Try.prog W = .ok (.agg zeroLit) W := fun _ => by kernel_rfl
          go_wp2_with fail
          obtain ⟨F1, hlm, hsub, -⟩ := lgm_lm H5.out
          obtain ⟨FD, hld, hsub2⟩ := lm_devs hlm
          have hld : Mu.LD p g1 g2 w1 w5 s5.d FD M L false false 0 := hld
          have hdf : ∀ k, FD k → F5 k := fun k hk => hsub k (hsub2 k hk)
          clear hlm hsub hsub2
          obtain ⟨w6, hw6⟩ : ∃ W, W = w5.drew := ⟨_, rfl⟩
          have bd : Below w5.heap.size w5 w6 := by rw [hw6]; exact (Below.refl _ _).drew
          have D6 := Lib.hid (Mu.LD.below hld bd)
          have Y6 := Lib.hid (show Blk w6 bR RC 73 from R5.out.1.below bd)
          have HFD := Lib.hid (show ¬FD bR ∧ w1.heap.size ≤ bR from ⟨fun h => R5.out.2.2 (hdf bR h), R5.out.2.1⟩)
          clear H5 hld hdf bd
          refine wp_region_held_drew (S := (fun w' => w'.cell? ⟨bR, 1, none⟩ = some (.pointer (some ⟨g1, 0, none⟩)) ∧ w'.cell? ⟨bR, 2, none⟩ = some (.pointer (some ⟨g2, 0, none⟩)) ∧ w'.cell? ⟨bR, 5, none⟩ = some (.int .i64 3) ∧ w'.cell? ⟨bR, 6, none⟩ = some (.int .i64 (n : Int)))) (by kernel_rfl) (by rw [← hw6]; exact ⟨(Y6.out.cell 1).trans HRC.out.1, (Y6.out.cell 2).trans HRC.out.2.1, (Y6.out.cell 5).trans HRC.out.2.2.2.1, (Y6.out.cell 6).trans HRC.out.2.2.2.2⟩) (fun hh => ?_)
          rw [← hw6] at hh ⊢
          have HH := Lib.hid hh
          clear hh hw6 R5
          try simp only [List.getElem_toArray, List.getElem_cons_succ, List.getElem_cons_zero, Act.put, List.setIfInBounds_toArray, List.set_cons_zero, List.set_cons_succ]
          refine wpAnyH_take (i := 0) (v := ?vE0) rfl (by kernel_rfl) (by kernel_rfl) (by kernel_rfl) (fun _ _ _ h => h) (Or.inl ⟨by rfl, fun w' _ => ?yE0⟩) HH.out ?_
          case yE0 => (go_simp; try with_reducible rfl)
          try simp only [List.getElem_toArray, List.getElem_cons_zero, Act.put, List.setIfInBounds_toArray, List.set_cons_zero, List.set_cons_succ]
          refine wpAnyH_take (i := 2) (v := ?vE2) rfl (by kernel_rfl) (by kernel_rfl) (by kernel_rfl) (fun _ _ _ h => h) (Or.inl ⟨by rfl, fun w' _ => ?yE2⟩) HH.out ?_
          case yE2 => (go_simp; try with_reducible rfl)
          try simp only [List.getElem_toArray, List.getElem_cons_succ, List.getElem_cons_zero, Act.put, List.setIfInBounds_toArray, List.set_cons_zero, List.set_cons_succ]
          refine wpAnyH_take (i := 10) (v := ?vE10) rfl (by kernel_rfl) (by kernel_rfl) (by kernel_rfl) (fun _ _ _ h => h) (Or.inl ⟨by rfl, fun w' _ => ?yE10⟩) HH.out ?_
          case yE10 => (go_simp; try with_reducible rfl)
          try simp only [List.getElem_toArray, List.getElem_cons_succ, List.getElem_cons_zero, Act.put, List.setIfInBounds_toArray, List.set_cons_zero, List.set_cons_succ]
          refine wpAnyH_take (i := 1) (v := .pointer (some ⟨g1, 0, none⟩)) rfl (by kernel_rfl) (by kernel_rfl) (by kernel_rfl) (fun _ _ _ h => h) (Or.inl ⟨by rfl, fun w' hw' => ?yE1⟩) HH.out ?_
          case yE1 => ((have hc := hw'.1); go_simp; try with_reducible rfl)
          try simp only [List.getElem_toArray, List.getElem_cons_succ, List.getElem_cons_zero, Act.put, List.setIfInBounds_toArray, List.set_cons_zero, List.set_cons_succ]
          refine wpAnyH_take (i := 3) (v := .pointer (some ⟨g2, 0, none⟩)) rfl (by kernel_rfl) (by kernel_rfl) (by kernel_rfl) (fun _ _ _ h => h) (Or.inl ⟨by rfl, fun w' hw' => ?yE3⟩) HH.out ?_
          case yE3 => ((have hc := hw'.2.1); go_simp; try with_reducible rfl)
          try simp only [List.getElem_toArray, List.getElem_cons_succ, List.getElem_cons_zero, Act.put, List.setIfInBounds_toArray, List.set_cons_zero, List.set_cons_succ]
          refine wpAnyH_take (i := 11) (v := .agg #[.int .i64 3, .int .i64 (n : Int)]) rfl (by kernel_rfl) (by kernel_rfl) (by kernel_rfl) (fun _ _ _ h => h) (Or.inl ⟨by rfl, fun w' hw' => ?yE11⟩) HH.out ?_
          case yE11 => ((have hc := hw'.2.2.1; have hc2 := hw'.2.2.2); go_simp; try with_reducible rfl)
          try simp only [List.getElem_toArray, List.getElem_cons_succ, List.getElem_cons_zero, Act.put, List.setIfInBounds_toArray, List.set_cons_zero, List.set_cons_succ]
          refine wpAnyH_take (i := 4) (v := .agg zeroLit) rfl (by kernel_rfl) (by kernel_rfl) (by kernel_rfl) (fun _ _ _ h => h) (Or.inl ⟨by rfl, fun w' hw' => ?yE4⟩) HH.out ?_
          case yE4 => (go_simp; try with_reducible rfl)
          try simp only [List.getElem_toArray, List.getElem_cons_succ, List.getElem_cons_zero, Act.put, List.setIfInBounds_toArray, List.set_cons_zero, List.set_cons_succ]
          refine wpAnyH_take (i := 8) (v := .agg zeroLit) rfl (by kernel_rfl) (by kernel_rfl) (by kernel_rfl) (fun _ _ _ h => h) (Or.inl ⟨by rfl, fun w' hw' => ?yE8⟩) HH.out ?_
          case yE8 => (go_simp; try with_reducible rfl)
          try simp only [List.getElem_toArray, List.getElem_cons_succ, List.getElem_cons_zero, Act.put, List.setIfInBounds_toArray, List.set_cons_zero, List.set_cons_succ]
          refine wpAnyH_take (i := 5) (v := ?vE5) rfl (by kernel_rfl) (by kernel_rfl) (by kernel_rfl) (fun _ _ _ h => h) (Or.inl ⟨by rfl, fun w' _ => ?yE5⟩) HH.out ?_
          case yE5 => (go_simp; try with_reducible rfl)
          try simp only [List.getElem_toArray, List.getElem_cons_succ, List.getElem_cons_zero, Act.put, List.setIfInBounds_toArray, List.set_cons_zero, List.set_cons_succ]
          refine wpAnyH_take (i := 9) (v := ?vE9) rfl (by kernel_rfl) (by kernel_rfl) (by kernel_rfl) (fun _ _ _ h => h) (Or.inl ⟨by rfl, fun w' _ => ?yE9⟩) HH.out ?_
          case yE9 => (go_simp; try with_reducible rfl)
          try simp only [List.getElem_toArray, List.getElem_cons_succ, List.getElem_cons_zero, Act.put, List.setIfInBounds_toArray, List.set_cons_zero, List.set_cons_succ]
          refine wpAnyH_ready (rs := [6]) (by kernel_rfl) (by simp) (AllReadyH.cons rfl (fun K hK => ?_) AllReadyH.nil)
          go_simp
          refine (good_iface 111 (.agg zeroLit) _).mono ?_
          rintro e w7 ⟨rfl, hw7⟩
          obtain ⟨bG, hbG⟩ : ∃ v, v = w6.heap.size := ⟨_, rfl⟩
          rw [← hbG]
          have bw : Below w6.heap.size w6 w7 := by rw [hw7]; exact (Below.refl _ _).alloc (Nat.le_refl _) _
          have HBG := Lib.hid (show Blk w7 bG #[litS.v] 152 by rw [hw7, hbG]; exact heap_alloc_new _ _)
          have NG := Lib.hid (show ¬FD bG ∧ w1.heap.size ≤ bG ∧ w6.heap.size ≤ bG from ⟨fun hf => by have := (Mu.one p g1 g2).L.lt D6.out.live.at_ bG hf; omega, by rw [hbG]; exact D6.out.live.bel.size, by rw [hbG]; exact Nat.le_refl _⟩)
          have D7 := Lib.hid (Mu.LD.below D6.out bw)
          have Y7 := Lib.hid (Y6.out.below bw)
          clear bw hw7 hbG
          go_simp
          refine hK.out _ _ ⟨(Y7.out.cell 1).trans HRC.out.1, (Y7.out.cell 2).trans HRC.out.2.1, (Y7.out.cell 5).trans HRC.out.2.2.2.1, (Y7.out.cell 6).trans HRC.out.2.2.2.2⟩ (fun hh => ?_)
          have HH' := Lib.hid hh
          clear hh hK K HH D6 Y6
          have HH := Lib.hid HH'.out
          clear HH'
          try simp only [List.getElem_toArray, List.getElem_cons_succ, List.getElem_cons_zero, Act.put, List.setIfInBounds_toArray, List.set_cons_zero, List.set_cons_succ]
          refine wpAnyH_ready (rs := [7]) (by kernel_rfl) (by simp) (AllReadyH.cons rfl (fun K hK => ?_) AllReadyH.nil)
          go_simp
          refine (lm_newB (G := gdS litS bG) (fun _ _ _ _ _ _ => trivial) D7.out (fun y hy => by rw [show (gdS litS bG).l = [(bG, #[litS.v], 152)] from rfl, List.mem_singleton] at hy; subst hy; exact ⟨HBG.out, NG.out.1, NG.out.2.1⟩) (n := 2 + 3 * n) X.out.2.1 HLL.out.1).mono ?_
          rintro e w8 ⟨gm, s8, F8, rfl, h, hf, hb⟩
          have D8 := Lib.hid (show Mu.LM p g1 g2 (gdS litS bG) gm w1 w8 s8 F8 (Sc.startM M L (2 + 3 * n)) 0 from h)
          have hmem : ∀ k, (∃ y ∈ (gdS litS bG).l, k = y.1) → k = bG := fun k hk => by obtain ⟨y, hy, e⟩ := hk; rw [show (gdS litS bG).l = [(bG, #[litS.v], 152)] from rfl, List.mem_singleton] at hy; rw [e, hy]
          have Y8 := Lib.hid (Y7.out.but hb (fun hx => hx.elim HFD.out.1 (fun h => by have h1 := hmem _ h; have h2 := HBG.out; rw [← h1] at h2; have h3 : w7.heap[bR]? = some (.cells RC 73 (0, 0)) := Y7.out; have h4 : w7.heap[bR]? = some (.cells #[litS.v] 152 (0, 0)) := h2; rw [h3] at h4; injection h4 with h4; injection h4 with _ h4; exact absurd h4 (by decide))))
          have N8 := Lib.hid (show ¬F8 bR from fun hx => (hf bR hx).elim (fun hx => hx.elim HFD.out.1 (fun h => by have h1 := hmem _ h; have h2 := HBG.out; rw [← h1] at h2; have h3 : w7.heap[bR]? = some (.cells RC 73 (0, 0)) := Y7.out; have h4 : w7.heap[bR]? = some (.cells #[litS.v] 152 (0, 0)) := h2; rw [h3] at h4; injection h4 with h4; injection h4 with _ h4; exact absurd h4 (by decide))) (fun h => by have := Y7.out.lt; omega))
          clear h hf hb hmem
          go_simp
          refine hK.out _ _ ⟨(Y8.out.cell 1).trans HRC.out.1, (Y8.out.cell 2).trans HRC.out.2.1, (Y8.out.cell 5).trans HRC.out.2.2.2.1, (Y8.out.cell 6).trans HRC.out.2.2.2.2⟩ (fun hh => ?_)
          have HH' := Lib.hid hh
          clear hh hK K HH D7 Y7 HBG NG
          have HH := Lib.hid HH'.out
          clear HH'
          try simp only [List.getElem_toArray, List.getElem_cons_succ, List.getElem_cons_zero, Act.put, List.setIfInBounds_toArray, List.set_cons_zero, List.set_cons_succ]
          refine wpAnyH_ready (rs := [12]) (by kernel_rfl) (by simp) (AllReadyH.cons rfl (fun K hK => ?_) AllReadyH.nil)
          go_simp
          refine (el_open (old := old) (new := new) D8.out X.out.2.1 HLL.out.1 (by omega) HN.out HOK.out (fun i hi => el_second HN.out.1 HLL.out.2 X.out.2.2 hi)).mono ?_
          rintro e w9 ⟨qn, Af, kf, cf, fd, lo, s9, F9, FF, yf, X0, X1, rfl, hlg, hfd, hyf, hye, hkf, hg0, hrx, h1, h2, h3, h4⟩
          have H9 := Lib.hid hlg
          have FD9 := Lib.hid hfd
          have YF := Lib.hid (And.intro hyf hye)
          have KF := Lib.hid hkf
          have G0 := Lib.hid hg0
          have RX := Lib.hid hrx
          have DJ := Lib.hid h3
          have Y9 := Lib.hid (Y8.out.but h4 N8.out)
          clear hlg hfd hyf hye hkf hg0 hrx h1 h2 h3 h4
          go_simp
          refine hK.out _ _ ⟨(Y9.out.cell 1).trans HRC.out.1, (Y9.out.cell 2).trans HRC.out.2.1, (Y9.out.cell 5).trans HRC.out.2.2.2.1, (Y9.out.cell 6).trans HRC.out.2.2.2.2⟩ (fun hh => ?_)
          have HH' := Lib.hid hh
          clear hh hK K HH D8 Y8 N8
          have HH := Lib.hid HH'.out
          clear HH'
          try simp only [List.getElem_toArray, List.getElem_cons_succ, List.getElem_cons_zero, Act.put, List.setIfInBounds_toArray, List.set_cons_zero, List.set_cons_succ]
          refine wpAnyH_take (i := 13) (v := ?vG13) rfl (by kernel_rfl) (by kernel_rfl) (by kernel_rfl) (fun _ _ _ h => h) (Or.inl ⟨by rfl, fun w' _ => ?yG13⟩) HH.out ?_
          case yG13 => (go_simp; try with_reducible rfl)
          try simp only [List.getElem_toArray, List.getElem_cons_succ, List.getElem_cons_zero, Act.put, List.setIfInBounds_toArray, List.set_cons_zero, List.set_cons_succ]
          refine wpAnyH_take (i := 14) (v := ?vG14) rfl (by kernel_rfl) (by kernel_rfl) (by kernel_rfl) (fun _ _ _ h => h) (Or.inl ⟨by rfl, fun w' _ => ?yG14⟩) HH.out ?_
          case yG14 => (go_simp; try with_reducible rfl)
          try simp only [List.getElem_toArray, List.getElem_cons_succ, List.getElem_cons_zero, Act.put, List.setIfInBounds_toArray, List.set_cons_zero, List.set_cons_succ]
          refine wpAnyH_take (i := 15) (v := ?vG15) rfl (by kernel_rfl) (by kernel_rfl) (by kernel_rfl) (fun _ _ _ h => h) (Or.inl ⟨by rfl, fun w' _ => ?yG15⟩) HH.out ?_
          case yG15 => (go_simp; try with_reducible rfl)
          try simp only [List.getElem_toArray, List.getElem_cons_succ, List.getElem_cons_zero, Act.put, List.setIfInBounds_toArray, List.set_cons_zero, List.set_cons_succ]
          refine wpAnyH_take (i := 16) (v := ?vG16) rfl (by kernel_rfl) (by kernel_rfl) (by kernel_rfl) (fun _ _ _ h => h) (Or.inl ⟨by rfl, fun w' _ => ?yG16⟩) HH.out ?_
          case yG16 => (go_simp; try with_reducible rfl)
          try simp only [List.getElem_toArray, List.getElem_cons_succ, List.getElem_cons_zero, Act.put, List.setIfInBounds_toArray, List.set_cons_zero, List.set_cons_succ]
          refine wpAnyH_take (i := 17) (v := ?vG17) rfl (by kernel_rfl) (by kernel_rfl) (by kernel_rfl) (fun _ _ _ h => h) (Or.inl ⟨by rfl, fun w' _ => ?yG17⟩) HH.out ?_
          case yG17 => (go_simp; try with_reducible rfl)
          try simp only [List.getElem_toArray, List.getElem_cons_succ, List.getElem_cons_zero, Act.put, List.setIfInBounds_toArray, List.set_cons_zero, List.set_cons_succ]
          refine wpAnyH_take (i := 18) (v := ?vG18) rfl (by kernel_rfl) (by kernel_rfl) (by kernel_rfl) (fun _ _ _ h => h) (Or.inl ⟨by rfl, fun w' _ => ?yG18⟩) HH.out ?_
          case yG18 => (go_simp; try with_reducible rfl)
          try simp only [List.getElem_toArray, List.getElem_cons_succ, List.getElem_cons_zero, Act.put, List.setIfInBounds_toArray, List.set_cons_zero, List.set_cons_succ]
          refine wpAnyH_take (i := 19) (v := ?vG19) rfl (by kernel_rfl) (by kernel_rfl) (by kernel_rfl) (fun _ _ _ h => h) (Or.inl ⟨by rfl, fun w' _ => ?yG19⟩) HH.out ?_
          case yG19 => (go_simp; try with_reducible rfl)
          try simp only [List.getElem_toArray, List.getElem_cons_succ, List.getElem_cons_zero, Act.put, List.setIfInBounds_toArray, List.set_cons_zero, List.set_cons_succ]
          refine wpAnyH_done (by kernel_rfl) ?_ _
          clear HH Y9 HFD HLL X
          obtain ⟨kk, hkk⟩ : ∃ kk, kk = kf - 1 := ⟨_, rfl⟩
          have HKK := Lib.hid hkk
          clear hkk
          have k0 : ¬((kf : Int) = 0) := by have := KF.out; omega
          have k1 : (kk : Int) < (kf : Int) := by have := KF.out; have := HKK.out; omega
          have k2 : (0 : Int) ≤ (kk : Int) := by omega
          have wk : IntKind.i64.wrap ((kf : Int) - 1) = (kk : Int) := by have := KF.out; have := HKK.out; rw [IntWalk.i64_in _ (by omega)]; omega
          have wk2 : wrap64 ((kf : Int) - 1) = (kk : Int) := by have := KF.out; have := HKK.out; unfold wrap64; omega
          go_wp2_with fail
          have hc := lgm_gen H9.out 0 (by omega) (by omega)
          rw [if_pos (Int.le_refl 0), show (0 : Int).toNat = 0 from rfl, G0.out] at hc
          refine hc.mono ?_
          clear hc
          rintro e w10 ⟨rfl, bw⟩
          have H10 := Lib.hid (H9.out.below bw)
          have FD10 := Lib.hid ((FdL Af kf cf).below FD9.out bw)
          clear bw H9 FD9
          obtain ⟨gA, x0, hA, hx0, hc0, hc1, hc2, hrd⟩ := fd_at FD10.out (k := kk) (by have := KF.out; have := HKK.out; omega)
          subst hA
          have hxy : x0 = yf := by have h1 := YF.out.1; rw [← HKK.out, hx0] at h1; exact Option.some.inj h1
          subst hxy
          obtain ⟨xA, hxA⟩ : ∃ v, v = x0.A := ⟨_, rfl⟩
          obtain ⟨xc, hxc⟩ : ∃ v, v = x0.c := ⟨_, rfl⟩
          rw [YF.out.2.1] at hc0
          rw [YF.out.2.2.1] at hc1
          rw [YF.out.2.2.2, ← hxA, ← hxc] at hc2
          have HX0 := Lib.hid hx0
          have HXA := Lib.hid (show xA = x0.A ∧ x0.b = new from ⟨hxA, YF.out.2.2.2⟩)
          clear hx0 hrd hxA hxc
          go_wp2_with fail
          obtain ⟨bF, hbF⟩ : ∃ v, v = w10.heap.size := ⟨_, rfl⟩
          obtain ⟨w12, hw12⟩ : ∃ v, v = w10.alloc (.cells #[.int .i64 2, .int .u64 4, .slice xA new.length xc] 113) := ⟨_, rfl⟩
          rw [← hw12, ← hbF]
          have bw : Below w10.heap.size w10 w12 := by rw [hw12]; exact (Below.refl _ _).alloc (Nat.le_refl _) _
          have XF := Lib.hid (show Bz w1 w12 F9 bF #[.int .i64 2, .int .u64 4, .slice xA new.length xc] 113 from ⟨by rw [hw12, hbF]; exact heap_alloc_new _ _, by rw [hbF]; exact H10.out.live.bel.size, fun hf => by have := (LogL _ _ _ _ _).lt H10.out.live.at_ bF hf; omega⟩)
          have H12 := Lib.hid (H10.out.below bw)
          have FD12 := Lib.hid ((FdL _ kf cf).below FD10.out bw)
          clear bw hw12 hbF H10 FD10 hc0 hc1 hc2
          have hc := lgm_read H12.out 2
          rw [RX.out] at hc
          refine hc.mono ?_
          clear hc
          rintro e w13 ⟨Ab, nb, cb, F13, rfl, hob, hlg, hmv, hdb⟩
          have H13 := Lib.hid hlg
          have XF13 := Lib.hid (XF.out.step hmv)
          have FD13 := Lib.hid ((FdL _ kf cf).but FD12.out hmv.but (fun k hk hf => DJ.out k hf hk))
          have HRX := Lib.hid (show Rd w13.heap.size w13 xA (bv new) from by
                    obtain ⟨g', x1, _, hx1, _, _, _, hrd1⟩ := fd_at FD13.out (k := kk) (by have := KF.out; have := HKK.out; omega)
                    have e1 : x1 = x0 := Option.some.inj (hx1.symm.trans HX0.out)
                    rw [e1, ← HXA.out.1, HXA.out.2] at hrd1
                    exact hrd1)
          have HRA := Lib.hid (Rd.own (n := nb) (c := cb) hob)
          have HNB2 := Lib.hid (own_blen hob)
          have HRB := Lib.hid (show Rd w.heap.size w13 A2 (bv new) from HR2.out.below (HB1.out w13 H13.out.live.bel))
          have BF := Lib.hid (HB1.out w13 H13.out.live.bel)
          clear hob hlg hmv hdb XF H12 FD12 FD13 HX0 HXA YF DJ RX G0
          obtain ⟨Z, hZ⟩ : ∃ Z : ByteArray, Z = ⟨new.toArray⟩ := ⟨_, rfl⟩
          have HZ := Lib.hid hZ
          clear hZ
          have f0 : w13.cell? ⟨bF, 0, none⟩ = some (.int .i64 2) := XF13.out.1.cell 0
          have f1 : w13.cell? ⟨bF, 1, none⟩ = some (.int .u64 4) := XF13.out.1.cell 1
          have f2 : w13.cell? ⟨bF, 2, none⟩ = some (.slice xA new.length xc) := XF13.out.1.cell 2
          have k3 := conv_rd (c := xc) Try.underlying81 Try.underlying5 Try.underlying9 HRX.out rfl
          have k4 := conv_rd (c := c2) Try.underlying81 Try.underlying5 Try.underlying9 HRB.out HL2.out
          have k5 := conv_rd (c := cb) Try.underlying81 Try.underlying5 Try.underlying9 HRA.out HNB2.out
          rw [← HZ.out] at k3 k4 k5
          clear XF13 HRX HRB HRA HNB2
          go_wp2_with fail
          go_ret
          exact ⟨rfl, BF.out⟩
theorem logElder_any (w : World) (A1 : Option Addr) (n1 c1 : Nat) (old : List UInt8) (hl1 : old.length = n1) (_ : n1 ≤ c1) (_ : c1 ≤ maxLen) (hr1 : Rd w.heap.size w A1 (bv old)) (A2 : Option Addr) (n2 c2 : Nat) (new : List UInt8) (hl2 : new.length = n2) (_ : n2 ≤ c2) (_ : c2 ≤ maxLen) (hr2 : Rd w.heap.size w A2 (bv new)) (which : Bool) (y : Int) (hy : 0 ≤ y ∧ y ≤ 255) :
    Calls Try.prog 7 #[.slice A1 n1 c1, .slice A2 n2 c2, .bool which, .int .u8 y] w (RetB (.bool true) w) := by
  cases which
  · exact logElder_false w A1 n1 c1 old hl1 hr1 A2 n2 c2 new hl2 hr2 y hy
  · exact logElder_true w A1 n1 c1 old hl1 hr1 A2 n2 c2 new hl2 hr2 y hy
theorem logElder_own : ownKnob Try.prog.godebug = none := by kernel_rfl
theorem logElder_laid : laidOutB Try.prog = true := by kernel_rfl

set_option maxRecDepth 100000 in
theorem logElder_lifted (os : Os) (started : os.Started) (H : Type) (enc : TypeId × Value → H) :
    ReturnsInHanded {} Try.checked os 7 .any (Rows.logElderSpec.pre6 enc Try.prog Try.f7 Rows.logElderRow.domain false) (Rows.logElderSpec.post enc Try.prog Try.f7 false true false false) := by
  refine returnsInHanded_of_change (C := Try.checked) logElder_own started (by kernel_rfl) Try.func7
    (ChangeSpec.witness6 (enc := enc) (C := Try.checked) false ⟨#[], #[.slice none 0 0, .slice none 0 0, .bool false, .int .u8 0], []⟩ 8 (by kernel_rfl) (by kernel_rfl) (by kernel_rfl) (by kernel_rfl)) ?_
  intro W base args ds gs before hval0 hW _ _
  have hval : ∀ (j : Nat) t v, Try.f7.params[j]? = some t → args[j]? = some v → Value.okWide Try.prog W .any base t v := hval0
  have hW' := hW
  obtain ⟨p, q, hA0, hV, rfl, hfz, hnd⟩ := hW
  have hA : DataW.TrodAll enc Try.prog W 0 (fun _ => true) true Try.f7.params.toList args.toList ds p := hA0
  rw [Try.params7] at hA hval
  obtain ⟨v0, vs0, d0, ds0, p0, q0, hargs, rfl, rfl, h0, r0⟩ := trodAll_cons hA
  obtain ⟨v1, vs1, d1, ds1, p1, q1, rfl, rfl, rfl, h1, r1⟩ := trodAll_cons r0
  obtain ⟨v2, vs2, d2, ds2, p2, q2, rfl, rfl, rfl, h2, r2⟩ := trodAll_cons r1
  obtain ⟨v3, vs3, d3, ds3, p3, q3, rfl, rfl, rfl, h3, r3⟩ := trodAll_cons r2
  obtain ⟨rfl, rfl, rfl⟩ := trodAll_nil r3
  obtain rfl : args = #[v0, v1, v2, v3] := by cases args; simp_all
  obtain ⟨rfl, rfl⟩ := trodVars_none hV
  obtain ⟨a0, n0, c0, rfl⟩ := okWide_slice Try.underlying81 (hval 0 81 v0 rfl rfl)
  have lt0 : ∀ x ∈ p0, x.block < W.heap.size := by obtain ⟨m, hm⟩ := h0; exact DataW.trod_lt m _ _ _ hm
  obtain ⟨l0, hl0, hc0, hm0, hr0⟩ := open_bytes Try.underlying81 Try.underlying5 (by kernel_rfl) h0
  obtain ⟨a1, n1, c1, rfl⟩ := okWide_slice Try.underlying81 (hval 1 81 v1 rfl rfl)
  have lt1 : ∀ x ∈ p1, x.block < W.heap.size := by obtain ⟨m, hm⟩ := h1; exact DataW.trod_lt m _ _ _ hm
  obtain ⟨l1, hl1, hc1, hm1, hr1⟩ := open_bytes Try.underlying81 Try.underlying5 (by kernel_rfl) h1
  obtain ⟨a2, rfl, rfl, rfl⟩ := open_bool Try.underlying4 (hval 2 4 v2 rfl rfl) h2
  obtain ⟨a3, rfl, rfl, rfl, w3⟩ := open_int Try.underlying5 (hval 3 5 v3 rfl rfl) h3
  have b3 := bounds_u8 w3
  clear hA0 hval0
  refine (logElder_any W a0 n0 c0 l0 hl0 hc0 hm0 hr0 a1 n1 c1 l1 hl1 hc1 hm1 hr1 a2 a3 b3).mono fun e W' ⟨he, bel⟩ => ?_
  subst he
  exact ⟨_, rfl, _, _, _, [], _, [], hW', trodAll_mk1 (shut_bool Try.underlying4 _), (trodAll_cons_mk (Below.trod logElder_laid (by kernel_rfl) (of_decide_eq_true (by kernel_rfl)) h0 bel lt0) (trodAll_cons_mk (Below.trod logElder_laid (by kernel_rfl) (of_decide_eq_true (by kernel_rfl)) h1 bel lt1) (trodAll_cons_mk (shut_bool Try.underlying4 a2) (trodAll_cons_mk (shut_int Try.underlying5 w3) trodAll_mk0)))), rfl, bel.frame _, fun h => by cases h⟩

theorem logElder_holds : Rows.LogElderSaid :=
  OpenClaim.holds_of_wide 7 Try.f7 rfl rfl rfl rfl rfl rfl rfl ⟨rfl, rfl, rfl, rfl, rfl⟩ rfl rfl rfl rfl rfl (by kernel_rfl) Try.func7 (by kernel_rfl)
    (of_decide_eq_true (by kernel_rfl)) (by unfold Func.isWrapper; rw [if_neg (of_decide_eq_false (by kernel_rfl))]; exact ⟨rfl, rfl⟩)
    (fun os started H enc _ => logElder_lifted os started H enc)

#print axioms logElder_holds

end Go.Proofs.Ythadomboiockhaa
