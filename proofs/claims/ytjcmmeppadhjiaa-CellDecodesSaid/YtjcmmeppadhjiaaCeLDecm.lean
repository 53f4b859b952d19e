/-
  CellDecodes holds: of any bytes the law returns true, and its argument reads as it did.
-/
import Derived.Test.YtjcmmeppadhjiaaCa4
import Derived.Deep.Cut
import Derived.Deep.RegionHeld
import Derived.Test.YtjcmmeppadhjiaaRows
import Derived.ProofKit
import Derived.OpenShut
import Derived.ShutString
import Derived.ChangeOld
namespace Go.Proofs.Ytjcmmeppadhjiaa
open Go.RowKit Ce Go.ChangeShapes Go.WideShapes Go.ChangeAt
attribute [local go_sem ↓] Go.wp_at_zero Go.wp_at_succ
set_option maxRecDepth 100000 in
set_option maxHeartbeats 12800000 in
theorem cellDecodes_any (w : World) (A : Option Addr) (n c : Nat) (l : List UInt8) (hn : l.length = n) (hc : n ≤ c) (hmax : c ≤ maxLen) (hr : Rd w.heap.size w A (bv l)) : Calls Try.prog 5 #[.slice A n c] w (RetB (.bool true) w) := by
  have hcap : n ≤ c ∧ c ≤ maxLen := ⟨hc, hmax⟩
  clear hc hmax
  obtain ⟨zc, hzc⟩ : ∃ z, z = clA zeroCl none 0 := ⟨_, rfl⟩
  have hzv : ∀ W, (zeroValue 27).run Try.prog W = .ok (.agg zc) W := fun _ => by rw [hzc]; kernel_rfl
  obtain ⟨Y, hY⟩ : ∃ Y, Y = (decCl l).1 := ⟨_, rfl⟩
  obtain ⟨m, hm⟩ : ∃ m, m = (decCl l).2.1 := ⟨_, rfl⟩
  obtain ⟨k, hk⟩ : ∃ k, k = (decCl l).2.2 := ⟨_, rfl⟩
  obtain ⟨r, hr'⟩ : ∃ r, r = if k = 0 then l.drop m else [] := ⟨_, rfl⟩
  have HDE := Lib.hid (show n ≤ 300 → ∀ W, Below w.heap.size w W → Calls Try.prog 19 #[.slice A n c] W (RetDec Y r (k : Int) W) from fun hle W hW => by
    have h := decode_any A n c l W hn hcap (hr.below hW) hW.size (by omega)
    rw [← hY, ← hm, ← hk, ← hr'] at h; exact h)
  have HYtjcmmeppadhjiaa := Lib.hid hn
  have HCAP := Lib.hid hcap
  have HR := Lib.hid hr
  have HRR := Lib.hid hr'
  have HDD := Lib.hid (show decCl l = (Y, m, k) from by rw [hY, hm, hk])
  have HZC := Lib.hid hzc
  have B := Lib.hid (Below.refl w.heap.size w)
  have HCD := Lib.hid (show n ≤ 300 → ∀ W, Below w.heap.size w W → Calls Try.prog 20 #[.slice A n c] W (RetCD Y (m : Int) (k : Int) W) from fun hle W hW => by
    have h := cdecode_any A n c l W hn hcap (hr.below hW) hW.size (by omega)
    rw [← hY, ← hm, ← hk] at h; exact h)
  clear hY hm hk hr' hzc hn hcap hr
  go_enter Try.func5, Try.ntmps5
  go_wp2_with fail
  refine (ceAwake_any _).mono ?_
  rintro e w1 ⟨rfl, bw⟩
  have B' := Lib.hid (B.out.trans (bw.mono B.out.size))
  clear bw B 
  have B := Lib.hid B'.out
  clear B' 
  by_cases hbig : 300 < n
  · have n1 : (300 : Int) < (n : Int) := by omega
    go_wp2_with fail
    go_ret
    exact ⟨rfl, B.out⟩
  have n1 : ¬ (300 : Int) < (n : Int) := by omega
  have hle : n ≤ 300 := by omega
  have HD' := Lib.hid (HDE.out hle)
  have HC' := Lib.hid (HCD.out hle)
  clear hbig hle HDE HCD
  go_wp2_with fail
  clear n1
  refine (HD'.out _ B.out).mono ?_
  rintro e w2 ⟨A1, c1, A2, c2, rfl, ho, hq, bw, hne⟩
  have R1 := Lib.hid (Rd.own ho)
  have R2 := Lib.hid (Rd.own hq)
  clear ho hq hne HD'
  have B' := Lib.hid (B.out.trans (bw.mono B.out.size))
  clear bw B
  have B := Lib.hid B'.out
  clear B'
  obtain ⟨csa, hcsa⟩ : ∃ cs, cs = clA Y A1 c1 := ⟨_, rfl⟩
  rw [← hcsa]
  have HIa := Lib.hid (show (Try.prog.info? 27).map (·.size) = some csa.size from by rw [hcsa]; kernel_rfl)
  have HOa := Lib.hid (show csa.all (·.oneCell') = true from by rw [hcsa]; simp [clA, Value.oneCell'])
  have HZa := Lib.hid (show zc.size = csa.size from by rw [HZC.out, hcsa]; rfl)
  have HCSa := Lib.hid hcsa
  clear hcsa
  go_upto_region 6 with (show wpList _ _ _ ({ dst := none, op := .store 27 (.tmp 3) (.tmp 17), type := _, pos := _, after := _, guard := _ } :: _) _ _; apply Classical.byContradiction; intro hneg)
  refine hneg ?_
  clear hneg
  refine wpList_store_row rfl 27 (.tmp 3) (.tmp 17) rfl w2.heap.size csa rfl rfl 27 zc (heap_alloc_new _ _) HIa.out HZa.out HOa.out ?_
  obtain ⟨w3, hw⟩ : ∃ v, v = (w2.alloc (.cells zc 27)).setRow w2.heap.size csa := ⟨_, rfl⟩
  obtain ⟨ga, hg⟩ : ∃ g, g = w2.heap.size := ⟨_, rfl⟩
  rw [← hw, ← hg]
  have bn : Below w2.heap.size w2 w3 := by rw [hw]; exact below_new (Below.refl _ _) (Nat.le_refl _)
  have Xa := Lib.hid (show Blk w3 ga csa 27 from by rw [hw, hg]; exact setRow_heap _ _ _ _ _ _ (heap_alloc_new _ _))
  have SB3 := Lib.hid bn.size
  have B' := Lib.hid (B.out.trans (bn.mono B.out.size))
  have R1' := Lib.hid (R1.out.below (bn.mono (Nat.le_refl _)))
  have R2' := Lib.hid (R2.out.below (bn.mono (Nat.le_refl _)))
  clear bn B R1 R2
  have B := Lib.hid B'.out
  clear B'
  have R1 := Lib.hid R1'.out
  clear R1'
  have R2 := Lib.hid R2'.out
  clear R2'
  clear hw hg
  go_wp2_with fail
  refine (HC'.out _ B.out).mono ?_
  rintro e w4 ⟨A3, c3, rfl, hR3, bw⟩
  have S1 := Lib.hid (show w2.heap.size ≤ w3.heap.size from SB3.out)
  have SZ4 := Lib.hid bw.size
  have R1' := Lib.hid ((R1.out.more S1.out).below bw)
  have R2' := Lib.hid ((R2.out.more S1.out).below bw)
  have R3 := Lib.hid hR3
  clear R1 R2 hR3 HC'
  have R1 := Lib.hid R1'.out
  have R2 := Lib.hid R2'.out
  clear R1' R2'
  have B' := Lib.hid (B.out.trans (bw.mono B.out.size))
  have Xa' := Lib.hid (Blk.below Xa.out bw)
  clear bw B Xa
  have B := Lib.hid B'.out
  clear B'
  have Xa := Lib.hid Xa'.out
  clear Xa'
  obtain ⟨csb, hcsb⟩ : ∃ cs, cs = clA Y A3 c3 := ⟨_, rfl⟩
  rw [← hcsb]
  have HIb := Lib.hid (show (Try.prog.info? 27).map (·.size) = some csb.size from by rw [hcsb]; kernel_rfl)
  have HOb := Lib.hid (show csb.all (·.oneCell') = true from by rw [hcsb]; simp [clA, Value.oneCell'])
  have HZb := Lib.hid (show zc.size = csb.size from by rw [HZC.out, hcsb]; rfl)
  have HCSb := Lib.hid hcsb
  clear hcsb
  go_upto_region 7 with (show wpList _ _ _ ({ dst := none, op := .store 27 (.tmp 6) (.tmp 23), type := _, pos := _, after := _, guard := _ } :: _) _ _; apply Classical.byContradiction; intro hneg)
  refine hneg ?_
  clear hneg
  refine wpList_store_row rfl 27 (.tmp 6) (.tmp 23) rfl w4.heap.size csb rfl rfl 27 zc (heap_alloc_new _ _) HIb.out HZb.out HOb.out ?_
  obtain ⟨w5, hw⟩ : ∃ v, v = (w4.alloc (.cells zc 27)).setRow w4.heap.size csb := ⟨_, rfl⟩
  obtain ⟨gb, hg⟩ : ∃ g, g = w4.heap.size := ⟨_, rfl⟩
  rw [← hw, ← hg]
  have bn : Below w4.heap.size w4 w5 := by rw [hw]; exact below_new (Below.refl _ _) (Nat.le_refl _)
  have Xb := Lib.hid (show Blk w5 gb csb 27 from by rw [hw, hg]; exact setRow_heap _ _ _ _ _ _ (heap_alloc_new _ _))
  have SZ5 := Lib.hid bn.size
  have S4 := Lib.hid (show w3.heap.size ≤ w4.heap.size from SZ4.out)
  have R1' := Lib.hid ((R1.out.more S4.out).below bn)
  have R2' := Lib.hid ((R2.out.more S4.out).below bn)
  have R3' := Lib.hid ((R3.out.more S4.out).below bn)
  clear R1 R2 R3 hw hg
  have R1 := Lib.hid R1'.out
  have R2 := Lib.hid R2'.out
  have R3 := Lib.hid R3'.out
  clear R1' R2' R3'
  have B' := Lib.hid (B.out.trans (bn.mono B.out.size))
  have Xa' := Lib.hid (Blk.below Xa.out bn)
  clear bn B Xa
  have B := Lib.hid B'.out
  clear B'
  have Xa := Lib.hid Xa'.out
  clear Xa'
  have kk : ((k : Int) == (k : Int)) = true := by simp
  go_wp2_with (first
    | (refine wpList_execgC (v := .agg csa) (w' := w5) rfl ?hl ?_; case hl => exact exec_load 27 (.tmp 3) rfl rfl Xa.out Try.underlying27 rfl HIa.out)
    | (refine wpList_execgC (v := .agg csb) (w' := w5) rfl ?hl ?_; case hl => exact exec_load 27 (.tmp 6) rfl rfl Xb.out Try.underlying27 rfl HIb.out))
  have hsame := csame_any Y Y A1 A3 c1 c3 w5 R1.out R3.out SZ5.out
  rw [← HCSa.out, ← HCSb.out, decide_eq_true rfl] at hsame
  refine hsame.mono ?_
  rintro e w6 ⟨rfl, bw⟩
  clear hsame
  have R2' := Lib.hid ((R2.out.more SZ5.out).below bw)
  clear R2
  have R2 := Lib.hid R2'.out
  clear R2'
  have B' := Lib.hid (B.out.trans (bw.mono B.out.size))
  clear bw B
  have B := Lib.hid B'.out
  clear B'
  go_upto_region 9 with fail
  by_cases k0 : k = 0
  ·
    subst k0
    have hrr := HRR.out
    rw [if_pos rfl] at hrr
    obtain ⟨hok, hmn, hm0, hen⟩ := enc_dec HDD.out
    have HMN := Lib.hid hmn
    have HM0 := Lib.hid hm0
    clear hok hmn hm0 hen
    obtain ⟨ad, rfl, had, hqq⟩ := HR.out.at_ (k := 0) (by have := HMN.out; have := HM0.out; omega)
    clear had hqq
    have t1 : (m : Int) ≤ (n : Int) := by have := HMN.out; have := HYtjcmmeppadhjiaa.out; omega
    have t2 : (n : Int) ≤ (c : Int) := by have := HCAP.out; omega
    have t3 : (m : Int) ≤ (c : Int) := by omega
    have t0 : (0 : Int) ≤ (m : Int) := by omega
    obtain ⟨Z, hZ⟩ : ∃ Z : ByteArray, Z = ⟨r.toArray⟩ := ⟨_, rfl⟩
    have HZ := Lib.hid hZ
    have HSS := Lib.hid (str_same hZ hZ)
    have LR := Lib.hid (show r.length = n - m from by rw [hrr, List.length_drop, HYtjcmmeppadhjiaa.out])
    have HRE := Lib.hid hrr
    clear hZ hrr
    obtain ⟨nr, hnr⟩ : ∃ x, x = r.length := ⟨_, rfl⟩
    rw [← hnr]
    have HNR := Lib.hid hnr
    clear hnr
    by_cases hc : m = c
    · have HCC := Lib.hid hc
      obtain rfl : m = c := hc
      refine wp_region_held_drew (S := (fun w' => Below w.heap.size w w' ∧ Rd w5.heap.size w' A2 (bv r))) (by kernel_rfl) ⟨B.out.drew, R2.out.drewN 1⟩ (fun hh => ?_)
      have HH := Lib.hid hh
      clear hh
      refine wpAnyH_take (i := 0) (v := ?vE0) rfl (by kernel_rfl) (by kernel_rfl) (by kernel_rfl) (fun _ _ _ h => h) (Or.inl ⟨by rfl, fun w' _ => ?yE0⟩) HH.out ?_
      case yE0 => (go_simp; try with_reducible rfl)
      refine wpAnyH_take (i := 1) (v := ?vE1) rfl (by kernel_rfl) (by kernel_rfl) (by kernel_rfl) (fun _ _ _ h => h) (Or.inl ⟨by rfl, fun w' _ => ?yE1⟩) HH.out ?_
      case yE1 => (go_simp; try with_reducible rfl)
      try simp only [List.getElem_toArray, List.getElem_cons_succ, List.getElem_cons_zero, Act.put, List.setIfInBounds_toArray, List.set_cons_zero, List.set_cons_succ]
      refine wpAnyH_take (i := 2) (v := ?vE2) rfl (by kernel_rfl) (by kernel_rfl) (by kernel_rfl) (fun _ _ _ h => h) (Or.inl ⟨by rfl, fun w' _ => ?yE2⟩) HH.out ?_
      case yE2 => (go_simp; try with_reducible rfl)
      refine wpAnyH_take (i := 3) (v := undef) rfl (by kernel_rfl) (by kernel_rfl) (by kernel_rfl) (fun _ _ _ h => h) (Or.inr ⟨by rfl, rfl⟩) HH.out ?_
      refine wpAnyH_take (i := 4) (v := undef) rfl (by kernel_rfl) (by kernel_rfl) (by kernel_rfl) (fun _ _ _ h => h) (Or.inr ⟨by rfl, rfl⟩) HH.out ?_
      try simp only [List.getElem_toArray, List.getElem_cons_succ, List.getElem_cons_zero, Act.put, List.setIfInBounds_toArray, List.set_cons_zero, List.set_cons_succ]
      refine wpAnyH_take (i := 5) (v := undef) rfl (by kernel_rfl) (by kernel_rfl) (by kernel_rfl) (fun _ _ _ h => h) (Or.inr ⟨by rfl, rfl⟩) HH.out ?_
      try simp only [List.getElem_toArray, List.getElem_cons_succ, List.getElem_cons_zero, Act.put, List.setIfInBounds_toArray, List.set_cons_zero, List.set_cons_succ]
      refine wpAnyH_take (i := 6) (v := ?vE6) rfl (by kernel_rfl) (by kernel_rfl) (by kernel_rfl) (fun _ _ _ h => h) (Or.inl ⟨by rfl, fun w' _ => ?yE6⟩) HH.out ?_
      case yE6 => (go_simp; try with_reducible rfl)
      try simp only [List.getElem_toArray, List.getElem_cons_succ, List.getElem_cons_zero, Act.put, List.setIfInBounds_toArray, List.set_cons_zero, List.set_cons_succ]
      refine wpAnyH_take (i := 7) (v := ?vE7) rfl (by kernel_rfl) (by kernel_rfl) (by kernel_rfl) (fun _ _ _ h => h) (Or.inl ⟨by rfl, fun w' _ => ?yE7⟩) HH.out ?_
      case yE7 => (go_simp; try with_reducible rfl)
      try simp only [List.getElem_toArray, List.getElem_cons_succ, List.getElem_cons_zero, Act.put, List.setIfInBounds_toArray, List.set_cons_zero, List.set_cons_succ]
      refine wpAnyH_take (i := 8) (v := ?vE8) rfl (by kernel_rfl) (by kernel_rfl) (by kernel_rfl) (fun _ _ _ h => h) (Or.inl ⟨by rfl, fun w' _ => ?yE8⟩) HH.out ?_
      case yE8 => (go_simp; try with_reducible rfl)
      refine wpAnyH_take (i := 9) (v := ?vE9) rfl (by kernel_rfl) (by kernel_rfl) (by kernel_rfl) (fun _ _ _ h => h) (Or.inl ⟨by rfl, fun w' _ => ?yE9⟩) HH.out ?_
      case yE9 => (go_simp; try with_reducible rfl)
      try simp only [List.getElem_toArray, List.getElem_cons_succ, List.getElem_cons_zero, Act.put, List.setIfInBounds_toArray, List.set_cons_zero, List.set_cons_succ]
      refine wpAnyH_take (i := 10) (v := ?vE10) rfl (by kernel_rfl) (by kernel_rfl) (by kernel_rfl) (fun _ _ _ h => h) (Or.inl ⟨by rfl, fun w' _ => ?yE10⟩) HH.out ?_
      case yE10 => (go_simp; try with_reducible rfl)
      try simp only [List.getElem_toArray, List.getElem_cons_succ, List.getElem_cons_zero, Act.put, List.setIfInBounds_toArray, List.set_cons_zero, List.set_cons_succ]
      refine wpAnyH_take (i := 11) (v := ?vE11) rfl (by kernel_rfl) (by kernel_rfl) (by kernel_rfl) (fun _ _ _ h => h) (Or.inl ⟨by rfl, fun w' _ => ?yE11⟩) HH.out ?_
      case yE11 => (go_simp; try with_reducible rfl)
      try simp only [List.getElem_toArray, List.getElem_cons_succ, List.getElem_cons_zero, Act.put, List.setIfInBounds_toArray, List.set_cons_zero, List.set_cons_succ]
      refine wpAnyH_take (i := 12) (v := .string Z) rfl (by kernel_rfl) (by kernel_rfl) (by kernel_rfl) (fun _ _ _ h => h) (Or.inl ⟨by rfl, fun w' hw' => ?yE12⟩) HH.out ?_
      case yE12 => (have kc := conv_rd (c := c2) Try.underlying25 Try.underlying5 Try.underlying9 hw'.2 HNR.out.symm; rw [← HZ.out] at kc; go_simp; try with_reducible rfl)
      refine wpAnyH_take (i := 13) (v := ?vE13) rfl (by kernel_rfl) (by kernel_rfl) (by kernel_rfl) (fun _ _ _ h => h) (Or.inl ⟨by rfl, fun w' _ => ?yE13⟩) HH.out ?_
      case yE13 => (go_simp; try with_reducible rfl)
      try simp only [List.getElem_toArray, List.getElem_cons_succ, List.getElem_cons_zero, Act.put, List.setIfInBounds_toArray, List.set_cons_zero, List.set_cons_succ]
      refine wpAnyH_take (i := 14) (v := ?vE14) rfl (by kernel_rfl) (by kernel_rfl) (by kernel_rfl) (fun _ _ _ h => h) (Or.inl ⟨by rfl, fun w' _ => ?yE14⟩) HH.out ?_
      case yE14 => (go_simp; try with_reducible rfl)
      try simp only [List.getElem_toArray, List.getElem_cons_succ, List.getElem_cons_zero, Act.put, List.setIfInBounds_toArray, List.set_cons_zero, List.set_cons_succ]
      refine wpAnyH_take (i := 15) (v := .slice (some ad) (n - m) 0) rfl (by kernel_rfl) (by kernel_rfl) (by kernel_rfl) (fun _ _ _ h => h) (Or.inl ⟨by rfl, fun w' hw' => ?yE15⟩) HH.out ?_
      case yE15 => (go_simp; try with_reducible rfl)
      try simp only [List.getElem_toArray, List.getElem_cons_succ, List.getElem_cons_zero, Act.put, List.setIfInBounds_toArray, List.set_cons_zero, List.set_cons_succ]
      refine wpAnyH_take (i := 16) (v := .string Z) rfl (by kernel_rfl) (by kernel_rfl) (by kernel_rfl) (fun _ _ _ h => h) (Or.inl ⟨by rfl, fun w' hw' => ?yE16⟩) HH.out ?_
      case yE16 => (have kc := conv_rd (c := 0) Try.underlying25 Try.underlying5 Try.underlying9 (show Rd w.heap.size w' (some ad) (bv r) from by rw [show r = [] from List.eq_nil_of_length_eq_zero (by have h1 := LR.out; have h2 := HCC.out; have h3 := HCAP.out; omega)]; exact Rd.none) LR.out; rw [← HZ.out] at kc; go_simp; try with_reducible rfl)
      try simp only [List.getElem_toArray, List.getElem_cons_succ, List.getElem_cons_zero, Act.put, List.setIfInBounds_toArray, List.set_cons_zero, List.set_cons_succ]
      have hss := HSS.out
      rw [decide_eq_true rfl] at hss
      refine wpAnyH_take (i := 17) (v := ?vE17) rfl (by kernel_rfl) (by kernel_rfl) (by kernel_rfl) (fun _ _ _ h => h) (Or.inl ⟨by rfl, fun w' _ => ?yE17⟩) HH.out ?_
      case yE17 => (go_simp; try with_reducible rfl)
      try simp only [List.getElem_toArray, List.getElem_cons_succ, List.getElem_cons_zero, Act.put, List.setIfInBounds_toArray, List.set_cons_zero, List.set_cons_succ]
      refine wpAnyH_take (i := 18) (v := ?vE18) rfl (by kernel_rfl) (by kernel_rfl) (by kernel_rfl) (fun _ _ _ h => h) (Or.inl ⟨by rfl, fun w' _ => ?yE18⟩) HH.out ?_
      case yE18 => (go_simp; try with_reducible rfl)
      try simp only [List.getElem_toArray, List.getElem_cons_succ, List.getElem_cons_zero, Act.put, List.setIfInBounds_toArray, List.set_cons_zero, List.set_cons_succ]
      refine wpAnyH_take (i := 19) (v := ?vE19) rfl (by kernel_rfl) (by kernel_rfl) (by kernel_rfl) (fun _ _ _ h => h) (Or.inl ⟨by rfl, fun w' _ => ?yE19⟩) HH.out ?_
      case yE19 => (go_simp; try with_reducible rfl)
      refine wpAnyH_take (i := 20) (v := ?vE20) rfl (by kernel_rfl) (by kernel_rfl) (by kernel_rfl) (fun _ _ _ h => h) (Or.inl ⟨by rfl, fun w' _ => ?yE20⟩) HH.out ?_
      case yE20 => (go_simp; try with_reducible rfl)
      try simp only [List.getElem_toArray, List.getElem_cons_succ, List.getElem_cons_zero, Act.put, List.setIfInBounds_toArray, List.set_cons_zero, List.set_cons_succ]
      refine wpAnyH_done (by kernel_rfl) ?_ _
      go_wp2_with fail
      go_ret
      exact ⟨rfl, HH.out.1⟩
    · have hc2 : ¬ c = m := fun e => hc e.symm
      have hc3 : ((c : Int) - (m : Int) = 0) = False := by simp; omega
      refine wp_region_held_drew (S := (fun w' => Below w.heap.size w w' ∧ Rd w5.heap.size w' A2 (bv r))) (by kernel_rfl) ⟨B.out.drew, R2.out.drewN 1⟩ (fun hh => ?_)
      have HH := Lib.hid hh
      clear hh
      refine wpAnyH_take (i := 0) (v := ?vN0) rfl (by kernel_rfl) (by kernel_rfl) (by kernel_rfl) (fun _ _ _ h => h) (Or.inl ⟨by rfl, fun w' _ => ?yN0⟩) HH.out ?_
      case yN0 => (go_simp; try with_reducible rfl)
      refine wpAnyH_take (i := 1) (v := ?vN1) rfl (by kernel_rfl) (by kernel_rfl) (by kernel_rfl) (fun _ _ _ h => h) (Or.inl ⟨by rfl, fun w' _ => ?yN1⟩) HH.out ?_
      case yN1 => (go_simp; try with_reducible rfl)
      try simp only [List.getElem_toArray, List.getElem_cons_succ, List.getElem_cons_zero, Act.put, List.setIfInBounds_toArray, List.set_cons_zero, List.set_cons_succ]
      refine wpAnyH_take (i := 2) (v := ?vN2) rfl (by kernel_rfl) (by kernel_rfl) (by kernel_rfl) (fun _ _ _ h => h) (Or.inl ⟨by rfl, fun w' _ => ?yN2⟩) HH.out ?_
      case yN2 => (go_simp; try with_reducible rfl)
      refine wpAnyH_take (i := 3) (v := undef) rfl (by kernel_rfl) (by kernel_rfl) (by kernel_rfl) (fun _ _ _ h => h) (Or.inr ⟨by rfl, rfl⟩) HH.out ?_
      refine wpAnyH_take (i := 4) (v := undef) rfl (by kernel_rfl) (by kernel_rfl) (by kernel_rfl) (fun _ _ _ h => h) (Or.inr ⟨by rfl, rfl⟩) HH.out ?_
      try simp only [List.getElem_toArray, List.getElem_cons_succ, List.getElem_cons_zero, Act.put, List.setIfInBounds_toArray, List.set_cons_zero, List.set_cons_succ]
      refine wpAnyH_take (i := 5) (v := undef) rfl (by kernel_rfl) (by kernel_rfl) (by kernel_rfl) (fun _ _ _ h => h) (Or.inr ⟨by rfl, rfl⟩) HH.out ?_
      try simp only [List.getElem_toArray, List.getElem_cons_succ, List.getElem_cons_zero, Act.put, List.setIfInBounds_toArray, List.set_cons_zero, List.set_cons_succ]
      refine wpAnyH_take (i := 6) (v := ?vN6) rfl (by kernel_rfl) (by kernel_rfl) (by kernel_rfl) (fun _ _ _ h => h) (Or.inl ⟨by rfl, fun w' _ => ?yN6⟩) HH.out ?_
      case yN6 => (go_simp; try with_reducible rfl)
      try simp only [List.getElem_toArray, List.getElem_cons_succ, List.getElem_cons_zero, Act.put, List.setIfInBounds_toArray, List.set_cons_zero, List.set_cons_succ]
      refine wpAnyH_take (i := 7) (v := ?vN7) rfl (by kernel_rfl) (by kernel_rfl) (by kernel_rfl) (fun _ _ _ h => h) (Or.inl ⟨by rfl, fun w' _ => ?yN7⟩) HH.out ?_
      case yN7 => (go_simp; try with_reducible rfl)
      try simp only [List.getElem_toArray, List.getElem_cons_succ, List.getElem_cons_zero, Act.put, List.setIfInBounds_toArray, List.set_cons_zero, List.set_cons_succ]
      refine wpAnyH_take (i := 8) (v := ?vN8) rfl (by kernel_rfl) (by kernel_rfl) (by kernel_rfl) (fun _ _ _ h => h) (Or.inl ⟨by rfl, fun w' _ => ?yN8⟩) HH.out ?_
      case yN8 => (go_simp; try with_reducible rfl)
      refine wpAnyH_take (i := 9) (v := ?vN9) rfl (by kernel_rfl) (by kernel_rfl) (by kernel_rfl) (fun _ _ _ h => h) (Or.inl ⟨by rfl, fun w' _ => ?yN9⟩) HH.out ?_
      case yN9 => (go_simp; try with_reducible rfl)
      try simp only [List.getElem_toArray, List.getElem_cons_succ, List.getElem_cons_zero, Act.put, List.setIfInBounds_toArray, List.set_cons_zero, List.set_cons_succ]
      refine wpAnyH_take (i := 10) (v := ?vN10) rfl (by kernel_rfl) (by kernel_rfl) (by kernel_rfl) (fun _ _ _ h => h) (Or.inl ⟨by rfl, fun w' _ => ?yN10⟩) HH.out ?_
      case yN10 => (go_simp; try with_reducible rfl)
      try simp only [List.getElem_toArray, List.getElem_cons_succ, List.getElem_cons_zero, Act.put, List.setIfInBounds_toArray, List.set_cons_zero, List.set_cons_succ]
      refine wpAnyH_take (i := 11) (v := ?vN11) rfl (by kernel_rfl) (by kernel_rfl) (by kernel_rfl) (fun _ _ _ h => h) (Or.inl ⟨by rfl, fun w' _ => ?yN11⟩) HH.out ?_
      case yN11 => (go_simp; try with_reducible rfl)
      try simp only [List.getElem_toArray, List.getElem_cons_succ, List.getElem_cons_zero, Act.put, List.setIfInBounds_toArray, List.set_cons_zero, List.set_cons_succ]
      refine wpAnyH_take (i := 12) (v := .string Z) rfl (by kernel_rfl) (by kernel_rfl) (by kernel_rfl) (fun _ _ _ h => h) (Or.inl ⟨by rfl, fun w' hw' => ?yN12⟩) HH.out ?_
      case yN12 => (have kc := conv_rd (c := c2) Try.underlying25 Try.underlying5 Try.underlying9 hw'.2 HNR.out.symm; rw [← HZ.out] at kc; go_simp; try with_reducible rfl)
      refine wpAnyH_take (i := 13) (v := ?vN13) rfl (by kernel_rfl) (by kernel_rfl) (by kernel_rfl) (fun _ _ _ h => h) (Or.inl ⟨by rfl, fun w' _ => ?yN13⟩) HH.out ?_
      case yN13 => (go_simp; try with_reducible rfl)
      try simp only [List.getElem_toArray, List.getElem_cons_succ, List.getElem_cons_zero, Act.put, List.setIfInBounds_toArray, List.set_cons_zero, List.set_cons_succ]
      refine wpAnyH_take (i := 14) (v := ?vN14) rfl (by kernel_rfl) (by kernel_rfl) (by kernel_rfl) (fun _ _ _ h => h) (Or.inl ⟨by rfl, fun w' _ => ?yN14⟩) HH.out ?_
      case yN14 => (go_simp; try with_reducible rfl)
      try simp only [List.getElem_toArray, List.getElem_cons_succ, List.getElem_cons_zero, Act.put, List.setIfInBounds_toArray, List.set_cons_zero, List.set_cons_succ]
      refine wpAnyH_take (i := 15) (v := .slice (some (ad.add m)) (n - m) (c - m)) rfl (by kernel_rfl) (by kernel_rfl) (by kernel_rfl) (fun _ _ _ h => h) (Or.inl ⟨by rfl, fun w' hw' => ?yN15⟩) HH.out ?_
      case yN15 => (go_simp; try with_reducible rfl)
      try simp only [List.getElem_toArray, List.getElem_cons_succ, List.getElem_cons_zero, Act.put, List.setIfInBounds_toArray, List.set_cons_zero, List.set_cons_succ]
      refine wpAnyH_take (i := 16) (v := .string Z) rfl (by kernel_rfl) (by kernel_rfl) (by kernel_rfl) (fun _ _ _ h => h) (Or.inl ⟨by rfl, fun w' hw' => ?yN16⟩) HH.out ?_
      case yN16 => (have kc := conv_rd (c := (c - m)) Try.underlying25 Try.underlying5 Try.underlying9 (show Rd w.heap.size w' (some (ad.add m)) (bv r) from by rw [HRE.out]; exact (HR.out.below hw'.1).drop m) LR.out; rw [← HZ.out] at kc; go_simp; try with_reducible rfl)
      try simp only [List.getElem_toArray, List.getElem_cons_succ, List.getElem_cons_zero, Act.put, List.setIfInBounds_toArray, List.set_cons_zero, List.set_cons_succ]
      have hss := HSS.out
      rw [decide_eq_true rfl] at hss
      refine wpAnyH_take (i := 17) (v := ?vN17) rfl (by kernel_rfl) (by kernel_rfl) (by kernel_rfl) (fun _ _ _ h => h) (Or.inl ⟨by rfl, fun w' _ => ?yN17⟩) HH.out ?_
      case yN17 => (go_simp; try with_reducible rfl)
      try simp only [List.getElem_toArray, List.getElem_cons_succ, List.getElem_cons_zero, Act.put, List.setIfInBounds_toArray, List.set_cons_zero, List.set_cons_succ]
      refine wpAnyH_take (i := 18) (v := ?vN18) rfl (by kernel_rfl) (by kernel_rfl) (by kernel_rfl) (fun _ _ _ h => h) (Or.inl ⟨by rfl, fun w' _ => ?yN18⟩) HH.out ?_
      case yN18 => (go_simp; try with_reducible rfl)
      try simp only [List.getElem_toArray, List.getElem_cons_succ, List.getElem_cons_zero, Act.put, List.setIfInBounds_toArray, List.set_cons_zero, List.set_cons_succ]
      refine wpAnyH_take (i := 19) (v := ?vN19) rfl (by kernel_rfl) (by kernel_rfl) (by kernel_rfl) (fun _ _ _ h => h) (Or.inl ⟨by rfl, fun w' _ => ?yN19⟩) HH.out ?_
      case yN19 => (go_simp; try with_reducible rfl)
      refine wpAnyH_take (i := 20) (v := ?vN20) rfl (by kernel_rfl) (by kernel_rfl) (by kernel_rfl) (fun _ _ _ h => h) (Or.inl ⟨by rfl, fun w' _ => ?yN20⟩) HH.out ?_
      case yN20 => (go_simp; try with_reducible rfl)
      try simp only [List.getElem_toArray, List.getElem_cons_succ, List.getElem_cons_zero, Act.put, List.setIfInBounds_toArray, List.set_cons_zero, List.set_cons_succ]
      refine wpAnyH_done (by kernel_rfl) ?_ _
      go_wp2_with fail
      go_ret
      exact ⟨rfl, HH.out.1⟩
  ·
    have hrr := HRR.out
    rw [if_neg k0] at hrr
    subst hrr
    obtain ⟨kI, hkI⟩ : ∃ x : Int, x = (k : Int) := ⟨_, rfl⟩
    rw [← hkI]
    have k1 : (kI == 0) = false := by simp; omega
    have k2 : (kI != 0) = true := by simp; omega
    clear hkI k0
    simp only [List.length_nil]
    refine wp_region_held_drew (S := (fun w' => Below w.heap.size w w')) (by kernel_rfl) B.out.drew (fun hh => ?_)
    have HH := Lib.hid hh
    clear hh
    refine wpAnyH_take (i := 0) (v := ?vZ0) rfl (by kernel_rfl) (by kernel_rfl) (by kernel_rfl) (fun _ _ _ h => h) (Or.inl ⟨by rfl, fun w' _ => ?yZ0⟩) HH.out ?_
    case yZ0 => (go_simp; try with_reducible rfl)
    refine wpAnyH_take (i := 1) (v := ?vZ1) rfl (by kernel_rfl) (by kernel_rfl) (by kernel_rfl) (fun _ _ _ h => h) (Or.inl ⟨by rfl, fun w' _ => ?yZ1⟩) HH.out ?_
    case yZ1 => (go_simp; try with_reducible rfl)
    try simp only [List.getElem_toArray, List.getElem_cons_succ, List.getElem_cons_zero, Act.put, List.setIfInBounds_toArray, List.set_cons_zero, List.set_cons_succ]
    refine wpAnyH_take (i := 2) (v := ?vZ2) rfl (by kernel_rfl) (by kernel_rfl) (by kernel_rfl) (fun _ _ _ h => h) (Or.inl ⟨by rfl, fun w' _ => ?yZ2⟩) HH.out ?_
    case yZ2 => (go_simp; try with_reducible rfl)
    refine wpAnyH_take (i := 3) (v := ?vZ3) rfl (by kernel_rfl) (by kernel_rfl) (by kernel_rfl) (fun _ _ _ h => h) (Or.inl ⟨by rfl, fun w' _ => ?yZ3⟩) HH.out ?_
    case yZ3 => (go_simp; try with_reducible rfl)
    refine wpAnyH_take (i := 4) (v := ?vZ4) rfl (by kernel_rfl) (by kernel_rfl) (by kernel_rfl) (fun _ _ _ h => h) (Or.inl ⟨by rfl, fun w' _ => ?yZ4⟩) HH.out ?_
    case yZ4 => (go_simp; try with_reducible rfl)
    try simp only [List.getElem_toArray, List.getElem_cons_succ, List.getElem_cons_zero, Act.put, List.setIfInBounds_toArray, List.set_cons_zero, List.set_cons_succ]
    refine wpAnyH_take (i := 5) (v := ?vZ5) rfl (by kernel_rfl) (by kernel_rfl) (by kernel_rfl) (fun _ _ _ h => h) (Or.inl ⟨by rfl, fun w' _ => ?yZ5⟩) HH.out ?_
    case yZ5 => (go_simp; try with_reducible rfl)
    try simp only [List.getElem_toArray, List.getElem_cons_succ, List.getElem_cons_zero, Act.put, List.setIfInBounds_toArray, List.set_cons_zero, List.set_cons_succ]
    refine wpAnyH_take (i := 6) (v := ?vZ6) rfl (by kernel_rfl) (by kernel_rfl) (by kernel_rfl) (fun _ _ _ h => h) (Or.inl ⟨by rfl, fun w' _ => ?yZ6⟩) HH.out ?_
    case yZ6 => (go_simp; try with_reducible rfl)
    try simp only [List.getElem_toArray, List.getElem_cons_succ, List.getElem_cons_zero, Act.put, List.setIfInBounds_toArray, List.set_cons_zero, List.set_cons_succ]
    refine wpAnyH_take (i := 7) (v := ?vZ7) rfl (by kernel_rfl) (by kernel_rfl) (by kernel_rfl) (fun _ _ _ h => h) (Or.inl ⟨by rfl, fun w' _ => ?yZ7⟩) HH.out ?_
    case yZ7 => (go_simp; try with_reducible rfl)
    try simp only [List.getElem_toArray, List.getElem_cons_succ, List.getElem_cons_zero, Act.put, List.setIfInBounds_toArray, List.set_cons_zero, List.set_cons_succ]
    refine wpAnyH_take (i := 8) (v := undef) rfl (by kernel_rfl) (by kernel_rfl) (by kernel_rfl) (fun _ _ _ h => h) (Or.inr ⟨by rfl, rfl⟩) HH.out ?_
    refine wpAnyH_take (i := 9) (v := undef) rfl (by kernel_rfl) (by kernel_rfl) (by kernel_rfl) (fun _ _ _ h => h) (Or.inr ⟨by rfl, rfl⟩) HH.out ?_
    refine wpAnyH_take (i := 10) (v := undef) rfl (by kernel_rfl) (by kernel_rfl) (by kernel_rfl) (fun _ _ _ h => h) (Or.inr ⟨by rfl, rfl⟩) HH.out ?_
    try simp only [List.getElem_toArray, List.getElem_cons_succ, List.getElem_cons_zero, Act.put, List.setIfInBounds_toArray, List.set_cons_zero, List.set_cons_succ]
    refine wpAnyH_take (i := 11) (v := undef) rfl (by kernel_rfl) (by kernel_rfl) (by kernel_rfl) (fun _ _ _ h => h) (Or.inr ⟨by rfl, rfl⟩) HH.out ?_
    refine wpAnyH_take (i := 12) (v := undef) rfl (by kernel_rfl) (by kernel_rfl) (by kernel_rfl) (fun _ _ _ h => h) (Or.inr ⟨by rfl, rfl⟩) HH.out ?_
    refine wpAnyH_take (i := 13) (v := undef) rfl (by kernel_rfl) (by kernel_rfl) (by kernel_rfl) (fun _ _ _ h => h) (Or.inr ⟨by rfl, rfl⟩) HH.out ?_
    try simp only [List.getElem_toArray, List.getElem_cons_succ, List.getElem_cons_zero, Act.put, List.setIfInBounds_toArray, List.set_cons_zero, List.set_cons_succ]
    refine wpAnyH_take (i := 14) (v := undef) rfl (by kernel_rfl) (by kernel_rfl) (by kernel_rfl) (fun _ _ _ h => h) (Or.inr ⟨by rfl, rfl⟩) HH.out ?_
    refine wpAnyH_take (i := 15) (v := undef) rfl (by kernel_rfl) (by kernel_rfl) (by kernel_rfl) (fun _ _ _ h => h) (Or.inr ⟨by rfl, rfl⟩) HH.out ?_
    refine wpAnyH_take (i := 16) (v := undef) rfl (by kernel_rfl) (by kernel_rfl) (by kernel_rfl) (fun _ _ _ h => h) (Or.inr ⟨by rfl, rfl⟩) HH.out ?_
    try simp only [List.getElem_toArray, List.getElem_cons_succ, List.getElem_cons_zero, Act.put, List.setIfInBounds_toArray, List.set_cons_zero, List.set_cons_succ]
    refine wpAnyH_take (i := 17) (v := undef) rfl (by kernel_rfl) (by kernel_rfl) (by kernel_rfl) (fun _ _ _ h => h) (Or.inr ⟨by rfl, rfl⟩) HH.out ?_
    refine wpAnyH_take (i := 18) (v := undef) rfl (by kernel_rfl) (by kernel_rfl) (by kernel_rfl) (fun _ _ _ h => h) (Or.inr ⟨by rfl, rfl⟩) HH.out ?_
    try simp only [List.getElem_toArray, List.getElem_cons_succ, List.getElem_cons_zero, Act.put, List.setIfInBounds_toArray, List.set_cons_zero, List.set_cons_succ]
    refine wpAnyH_take (i := 19) (v := ?vZ19) rfl (by kernel_rfl) (by kernel_rfl) (by kernel_rfl) (fun _ _ _ h => h) (Or.inl ⟨by rfl, fun w' _ => ?yZ19⟩) HH.out ?_
    case yZ19 => (go_simp; try with_reducible rfl)
    try simp only [List.getElem_toArray, List.getElem_cons_succ, List.getElem_cons_zero, Act.put, List.setIfInBounds_toArray, List.set_cons_zero, List.set_cons_succ]
    refine wpAnyH_take (i := 20) (v := ?vZ20) rfl (by kernel_rfl) (by kernel_rfl) (by kernel_rfl) (fun _ _ _ h => h) (Or.inl ⟨by rfl, fun w' _ => ?yZ20⟩) HH.out ?_
    case yZ20 => (go_simp; try with_reducible rfl)
    try simp only [List.getElem_toArray, List.getElem_cons_succ, List.getElem_cons_zero, Act.put, List.setIfInBounds_toArray, List.set_cons_zero, List.set_cons_succ]
    refine wpAnyH_done (by kernel_rfl) ?_ _
    go_wp2_with fail
    go_ret
    exact ⟨rfl, HH.out⟩
theorem cellDecodes_own : ownKnob Try.prog.godebug = none := by kernel_rfl
theorem cellDecodes_laid : laidOutB Try.prog = true := by kernel_rfl

set_option maxRecDepth 100000 in
theorem cellDecodes_lifted (os : Os) (started : os.Started) (H : Type) (enc : TypeId × Value → H) :
    ReturnsInHanded {} Try.checked os 5 .any (Rows.cellDecodesSpec.pre6 enc Try.prog Try.f5 Rows.cellDecodesRow.domain false) (Rows.cellDecodesSpec.post enc Try.prog Try.f5 false true false false) := by
  refine returnsInHanded_of_change (C := Try.checked) cellDecodes_own started (by kernel_rfl) Try.func5
    (ChangeSpec.witness6 (enc := enc) (C := Try.checked) false ⟨#[], #[.slice none 0 0], []⟩ 8 (by kernel_rfl) (by kernel_rfl) (by kernel_rfl) (by kernel_rfl)) ?_
  intro W base args ds gs before hval0 hW _ _
  have hval : ∀ (j : Nat) t v, Try.f5.params[j]? = some t → args[j]? = some v → Value.okWide Try.prog W .any base t v := hval0
  have hW' := hW
  obtain ⟨p, q, hA0, hV, rfl, hfz, hnd⟩ := hW
  have hA : DataW.TrodAll enc Try.prog W 0 (fun _ => true) true Try.f5.params.toList args.toList ds p := hA0
  rw [Try.params5] at hA hval
  obtain ⟨v0, vs0, d0, ds0, p0, q0, hargs, rfl, rfl, h0, r0⟩ := trodAll_cons hA
  obtain ⟨rfl, rfl, rfl⟩ := trodAll_nil r0
  obtain rfl : args = #[v0] := by cases args; simp_all
  obtain ⟨rfl, rfl⟩ := trodVars_none hV
  obtain ⟨a0, n0, c0, rfl⟩ := okWide_slice Try.underlying25 (hval 0 25 v0 rfl rfl)
  have lt0 : ∀ x ∈ p0, x.block < W.heap.size := by obtain ⟨m, hm⟩ := h0; exact DataW.trod_lt m _ _ _ hm
  obtain ⟨l0, hl0, hc0, hm0, hr0⟩ := open_bytes Try.underlying25 Try.underlying5 (by kernel_rfl) h0
  clear hA0 hval0
  refine (cellDecodes_any W a0 n0 c0 l0 hl0 hc0 hm0 hr0).mono fun e W' ⟨he, bel⟩ => ?_
  subst he
  exact ⟨_, rfl, _, _, _, [], _, [], hW', trodAll_mk1 (shut_bool Try.underlying4 _), (trodAll_cons_mk (Below.trod cellDecodes_laid (by kernel_rfl) (of_decide_eq_true (by kernel_rfl)) h0 bel lt0) trodAll_mk0), rfl, bel.frame _, fun h => by cases h⟩

theorem cellDecodes_holds : Rows.CellDecodesSaid :=
  OpenClaim.holds_of_wide 5 Try.f5 rfl rfl rfl rfl rfl rfl rfl ⟨rfl, rfl, rfl, rfl, rfl⟩ rfl rfl rfl rfl rfl (by kernel_rfl) Try.func5 (by kernel_rfl)
    (of_decide_eq_true (by kernel_rfl)) (by unfold Func.isWrapper; rw [if_neg (of_decide_eq_false (by kernel_rfl))]; exact ⟨rfl, rfl⟩)
    (fun os started H enc _ => cellDecodes_lifted os started H enc)

#print axioms cellDecodes_holds

end Go.Proofs.Ytjcmmeppadhjiaa
