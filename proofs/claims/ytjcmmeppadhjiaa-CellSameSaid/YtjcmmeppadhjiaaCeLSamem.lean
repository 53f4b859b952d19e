/-
  CellSame holds: of any two cells the law returns true, and its arguments read as they did.
-/
import Derived.Test.YtjcmmeppadhjiaaCa4
import Derived.Deep.Cut
import Derived.Deep.RegionHeld
import Derived.Test.YtjcmmeppadhjiaaRows
import Derived.ProofKit
import Derived.OpenShut
import Derived.ShutString
import Derived.ChangeOld
namespace Go.Proofs.Ytjcmmeppadhjiaa
open Go.RowKit Ce Go.ChangeShapes Go.WideShapes Go.ChangeAt
attribute [local go_sem ↓] Go.wp_at_zero Go.wp_at_succ
set_option maxRecDepth 100000 in
set_option maxHeartbeats 12800000 in
theorem cellSame_any (w : World) (xa : Cl) (Aa : Option Addr) (ca : Nat) (_ : xa.okB) (_ : xa.body.length ≤ ca) (_ : ca ≤ maxLen) (hra : Rd w.heap.size w Aa (bv xa.body)) (xb : Cl) (Ab : Option Addr) (cb : Nat) (_ : xb.okB) (_ : xb.body.length ≤ cb) (_ : cb ≤ maxLen) (hrb : Rd w.heap.size w Ab (bv xb.body)) : Calls Try.prog 8 #[.agg (clA xa Aa ca), .agg (clA xb Ab cb)] w (RetB (.bool true) w) := by
  obtain ⟨q, hq⟩ : ∃ q, q = decide (xa = xb) := ⟨_, rfl⟩
  obtain ⟨csa, hcsa⟩ : ∃ cs, cs = clA xa Aa ca := ⟨_, rfl⟩
  rw [← hcsa]
  obtain ⟨csb, hcsb⟩ : ∃ cs, cs = clA xb Ab cb := ⟨_, rfl⟩
  rw [← hcsb]
  obtain ⟨w0, hw0⟩ : ∃ v, v = ((w.alloc (.cells csa 27)).alloc (.cells csb 27)) := ⟨_, rfl⟩
  have BW := Lib.hid (show Below w.heap.size w w0 from by rw [hw0]; exact bel2 _ _ _)
  have Xa := Lib.hid (show Blk w0 (w.heap.size) csa 27 from by rw [hw0]; exact heap_alloc2_old _ _ _)
  have HENa := Lib.hid (show ∀ W, Below w0.heap.size w0 W → Calls Try.prog 18 #[.agg csa] W (RetRowE (bv (encX xa)) (errX xa) W) from fun W hW => by rw [hcsa]; exact encode_any xa Aa ca W ((hra.below BW.out).below (hW.mono BW.out.size)) (Nat.le_trans BW.out.size hW.size))
  have HRTa := Lib.hid (show ∀ W, Calls Try.prog 15 #[.agg csa] W (RetB (.bool (decide (okCl xa))) W) from fun W => by rw [hcsa]; exact right_any xa Aa ca W)
  have HCRa := Lib.hid (show ∀ W, Below w0.heap.size w0 W → Calls Try.prog 13 #[.agg csa] W (RetB (.bool (decide (okCl xa))) W) from fun W hW => by rw [hcsa]; exact cright_any xa Aa ca W ((hra.below BW.out).below (hW.mono BW.out.size)) (Nat.le_trans BW.out.size hW.size))
  have HSZa := Lib.hid (show ∀ W, Calls Try.prog 16 #[.agg csa] W (RetB (.int .i64 (if okCl xa then ((encCl xa).length : Int) else 0)) W) from fun W => by rw [hcsa]; exact size_any xa Aa ca W)
  have HCEa := Lib.hid (show okCl xa → ∀ W, Below w0.heap.size w0 W → Calls Try.prog 14 #[.agg csa] W (RetRow 5 (bv (encCl xa)) W) from fun ok W hW => by rw [hcsa]; exact cencode_yes xa ok Aa ca W ((hra.below BW.out).below (hW.mono BW.out.size)) (Nat.le_trans BW.out.size hW.size))
  have HMOa := Lib.hid (show ∀ W, Calls Try.prog 17 #[.agg csa] W (RetB (.bool (decide (xa.kind = 1 ∨ xa.kind = 2 ∨ xa.kind = 3))) W) from fun W => by rw [hcsa]; exact moment_cl xa Aa ca W)
  have HCa := Lib.hid (show csa[0]? = some (.int .i64 xa.kind) ∧ csa[10]? = some (.slice Aa xa.body.length ca) from by rw [hcsa]; exact ⟨rfl, rfl⟩)
  have HIa := Lib.hid (show (Try.prog.info? 27).map (·.size) = some csa.size from by rw [hcsa]; kernel_rfl)
  have HOa := Lib.hid (show csa.all (·.oneCell') = true from by rw [hcsa]; simp [clA, Value.oneCell'])
  have HCSa := Lib.hid hcsa
  have HRDa := Lib.hid (hra.below BW.out)
  obtain ⟨na, hna⟩ : ∃ n, n = xa.body.length := ⟨_, rfl⟩
  rw [← hna] at HCa
  have HNa := Lib.hid hna
  have Xb := Lib.hid (show Blk w0 (w.heap.size + 1) csb 27 from by rw [hw0]; exact heap_alloc2_new _ _ _)
  have HENb := Lib.hid (show ∀ W, Below w0.heap.size w0 W → Calls Try.prog 18 #[.agg csb] W (RetRowE (bv (encX xb)) (errX xb) W) from fun W hW => by rw [hcsb]; exact encode_any xb Ab cb W ((hrb.below BW.out).below (hW.mono BW.out.size)) (Nat.le_trans BW.out.size hW.size))
  have HRTb := Lib.hid (show ∀ W, Calls Try.prog 15 #[.agg csb] W (RetB (.bool (decide (okCl xb))) W) from fun W => by rw [hcsb]; exact right_any xb Ab cb W)
  have HCRb := Lib.hid (show ∀ W, Below w0.heap.size w0 W → Calls Try.prog 13 #[.agg csb] W (RetB (.bool (decide (okCl xb))) W) from fun W hW => by rw [hcsb]; exact cright_any xb Ab cb W ((hrb.below BW.out).below (hW.mono BW.out.size)) (Nat.le_trans BW.out.size hW.size))
  have HSZb := Lib.hid (show ∀ W, Calls Try.prog 16 #[.agg csb] W (RetB (.int .i64 (if okCl xb then ((encCl xb).length : Int) else 0)) W) from fun W => by rw [hcsb]; exact size_any xb Ab cb W)
  have HCEb := Lib.hid (show okCl xb → ∀ W, Below w0.heap.size w0 W → Calls Try.prog 14 #[.agg csb] W (RetRow 5 (bv (encCl xb)) W) from fun ok W hW => by rw [hcsb]; exact cencode_yes xb ok Ab cb W ((hrb.below BW.out).below (hW.mono BW.out.size)) (Nat.le_trans BW.out.size hW.size))
  have HMOb := Lib.hid (show ∀ W, Calls Try.prog 17 #[.agg csb] W (RetB (.bool (decide (xb.kind = 1 ∨ xb.kind = 2 ∨ xb.kind = 3))) W) from fun W => by rw [hcsb]; exact moment_cl xb Ab cb W)
  have HCb := Lib.hid (show csb[0]? = some (.int .i64 xb.kind) ∧ csb[10]? = some (.slice Ab xb.body.length cb) from by rw [hcsb]; exact ⟨rfl, rfl⟩)
  have HIb := Lib.hid (show (Try.prog.info? 27).map (·.size) = some csb.size from by rw [hcsb]; kernel_rfl)
  have HOb := Lib.hid (show csb.all (·.oneCell') = true from by rw [hcsb]; simp [clA, Value.oneCell'])
  have HCSb := Lib.hid hcsb
  have HRDb := Lib.hid (hrb.below BW.out)
  obtain ⟨nb, hnb⟩ : ∃ n, n = xb.body.length := ⟨_, rfl⟩
  rw [← hnb] at HCb
  have HNb := Lib.hid hnb
  have B := Lib.hid (Below.refl w0.heap.size w0)
  clear hcsa hna hra hcsb hnb hrb
  have HS12 := Lib.hid (show ∀ W, Below w0.heap.size w0 W → Calls Try.prog 22 #[.agg csa, .agg csb] W (RetB (.bool q) W) from fun W hW => by
    have h := same_any xa xb Aa Ab ca cb W (HRDa.out.below (hW.mono BW.out.size)) (HRDb.out.below (hW.mono BW.out.size)) (Nat.le_trans BW.out.size hW.size)
    rw [← HCSa.out, ← HCSb.out] at h
    rw [hq]; exact h)
  have HS21 := Lib.hid (show ∀ W, Below w0.heap.size w0 W → Calls Try.prog 22 #[.agg csb, .agg csa] W (RetB (.bool q) W) from fun W hW => by
    have h := same_any xb xa Ab Aa cb ca W (HRDb.out.below (hW.mono BW.out.size)) (HRDa.out.below (hW.mono BW.out.size)) (Nat.le_trans BW.out.size hW.size)
    rw [← HCSb.out, ← HCSa.out] at h
    rw [hq, show decide (xa = xb) = decide (xb = xa) from decide_iff ⟨fun e => e.symm, fun e => e.symm⟩]; exact h)
  have HT12 := Lib.hid (show ∀ W, Below w0.heap.size w0 W → Calls Try.prog 21 #[.agg csa, .agg csb] W (RetB (.bool q) W) from fun W hW => by
    have h := csame_any xa xb Aa Ab ca cb W (HRDa.out.below (hW.mono BW.out.size)) (HRDb.out.below (hW.mono BW.out.size)) (Nat.le_trans BW.out.size hW.size)
    rw [← HCSa.out, ← HCSb.out] at h
    rw [hq]; exact h)
  have HS11 := Lib.hid (show ∀ W, Below w0.heap.size w0 W → Calls Try.prog 22 #[.agg csa, .agg csa] W (RetB (.bool true) W) from fun W hW => by
    have h := same_any xa xa Aa Aa ca ca W (HRDa.out.below (hW.mono BW.out.size)) (HRDa.out.below (hW.mono BW.out.size)) (Nat.le_trans BW.out.size hW.size)
    rw [← HCSa.out] at h
    rw [decide_eq_true rfl] at h; exact h)
  have HQ := Lib.hid hq
  clear hq
  go_enter Try.func8, Try.ntmps8
  go_upto_region 1 with fail
  rw [← hw0]
  clear hw0
  go_wp2_with fail
  refine (ceAwake_any _).mono ?_
  rintro e w1 ⟨rfl, bw⟩
  have B' := Lib.hid (B.out.trans (bw.mono B.out.size))
  clear bw B 
  have B := Lib.hid B'.out
  clear B' 
  have c10 := ((Blk.below Xa.out B.out).cell 10).trans HCa.out.2
  have d10 := ((Blk.below Xb.out B.out).cell 10).trans HCb.out.2
  by_cases big : 100 < na ∨ 100 < nb
  · rcases big with h | h
    · have n1 : (100 : Int) < (na : Int) := by omega
      go_wp2_with fail
      go_ret
      exact ⟨rfl, BW.out.trans (B.out.mono BW.out.size)⟩
    · by_cases h2 : 100 < na
      · have n1 : (100 : Int) < (na : Int) := by omega
        go_wp2_with fail
        go_ret
        exact ⟨rfl, BW.out.trans (B.out.mono BW.out.size)⟩
      · have n1 : ¬ (100 : Int) < (na : Int) := by omega
        have n2 : (100 : Int) < (nb : Int) := by omega
        go_wp2_with fail
        go_ret
        exact ⟨rfl, BW.out.trans (B.out.mono BW.out.size)⟩
  · have n1 : ¬ (100 : Int) < (na : Int) := by omega
    have n2 : ¬ (100 : Int) < (nb : Int) := by omega
    clear big
    go_upto_region 5 with fail
    clear c10 d10 n1 n2
    cases q
    ·
      refine wp_region_held_drew (S := (fun w' => Below w0.heap.size w0 w')) (by kernel_rfl) B.out.drew (fun hh => ?_)
      have HH := Lib.hid hh
      clear hh
      try simp only [List.getElem_toArray, List.getElem_cons_succ, List.getElem_cons_zero, Act.put, List.setIfInBounds_toArray, List.set_cons_zero, List.set_cons_succ]
      refine wpAnyH_take (i := 0) (v := .agg csa) rfl (by kernel_rfl) (by kernel_rfl) (by kernel_rfl) (fun _ _ _ h => h) (Or.inl ⟨by rfl, fun w' hw' => ?yF0⟩) HH.out ?_
      case yF0 => exact exec_load 27 (.tmp 2) rfl rfl (Blk.below Xa.out hw') Try.underlying27 rfl HIa.out
      try simp only [List.getElem_toArray, List.getElem_cons_zero, Act.put, List.setIfInBounds_toArray, List.set_cons_zero, List.set_cons_succ]
      refine wpAnyH_take (i := 1) (v := .agg csb) rfl (by kernel_rfl) (by kernel_rfl) (by kernel_rfl) (fun _ _ _ h => h) (Or.inl ⟨by rfl, fun w' hw' => ?yF1⟩) HH.out ?_
      case yF1 => exact exec_load 27 (.tmp 3) rfl rfl (Blk.below Xb.out hw') Try.underlying27 rfl HIb.out
      try simp only [List.getElem_toArray, List.getElem_cons_succ, List.getElem_cons_zero, Act.put, List.setIfInBounds_toArray, List.set_cons_zero, List.set_cons_succ]
      try simp only [List.getElem_toArray, List.getElem_cons_succ, List.getElem_cons_zero, Act.put, List.setIfInBounds_toArray, List.set_cons_zero, List.set_cons_succ]
      refine wpAnyH_take (i := 3) (v := .agg csa) rfl (by kernel_rfl) (by kernel_rfl) (by kernel_rfl) (fun _ _ _ h => h) (Or.inl ⟨by rfl, fun w' hw' => ?yF3⟩) HH.out ?_
      case yF3 => exact exec_load 27 (.tmp 2) rfl rfl (Blk.below Xa.out hw') Try.underlying27 rfl HIa.out
      try simp only [List.getElem_toArray, List.getElem_cons_succ, List.getElem_cons_zero, Act.put, List.setIfInBounds_toArray, List.set_cons_zero, List.set_cons_succ]
      refine wpAnyH_take (i := 4) (v := .agg csb) rfl (by kernel_rfl) (by kernel_rfl) (by kernel_rfl) (fun _ _ _ h => h) (Or.inl ⟨by rfl, fun w' hw' => ?yF4⟩) HH.out ?_
      case yF4 => exact exec_load 27 (.tmp 3) rfl rfl (Blk.below Xb.out hw') Try.underlying27 rfl HIb.out
      try simp only [List.getElem_toArray, List.getElem_cons_succ, List.getElem_cons_zero, Act.put, List.setIfInBounds_toArray, List.set_cons_zero, List.set_cons_succ]
      refine wpAnyH_ready (rs := [2]) (by kernel_rfl) (by simp) (AllReadyH.cons rfl (fun K hK => ?_) AllReadyH.nil)
      go_simp
      refine (HS12.out _ HH.out).mono ?_
      rintro e wF2 ⟨rfl, bw⟩
      have hb := HH.out.trans (bw.mono HH.out.size)
      go_simp
      refine hK.out _ _ hb (fun hh => ?_)
      have HH' := Lib.hid hh
      clear hh hK K HH bw
      have HH := Lib.hid HH'.out
      clear HH'
      try simp only [List.getElem_toArray, List.getElem_cons_succ, List.getElem_cons_zero, Act.put, List.setIfInBounds_toArray, List.set_cons_zero, List.set_cons_succ]
      refine wpAnyH_ready (rs := [5]) (by kernel_rfl) (by simp) (AllReadyH.cons rfl (fun K hK => ?_) AllReadyH.nil)
      go_simp
      refine (HT12.out _ HH.out).mono ?_
      rintro e wF5 ⟨rfl, bw⟩
      have hb := HH.out.trans (bw.mono HH.out.size)
      go_simp
      refine hK.out _ _ hb (fun hh => ?_)
      have HH' := Lib.hid hh
      clear hh hK K HH bw
      have HH := Lib.hid HH'.out
      clear HH'
      refine wpAnyH_take (i := 6) (v := ?vF6) rfl (by kernel_rfl) (by kernel_rfl) (by kernel_rfl) (fun _ _ _ h => h) (Or.inl ⟨by rfl, fun w' _ => ?yF6⟩) HH.out ?_
      case yF6 => (go_simp; try with_reducible rfl)
      refine wpAnyH_take (i := 7) (v := ?vF7) rfl (by kernel_rfl) (by kernel_rfl) (by kernel_rfl) (fun _ _ _ h => h) (Or.inl ⟨by rfl, fun w' _ => ?yF7⟩) HH.out ?_
      case yF7 => (go_simp; try with_reducible rfl)
      try simp only [List.getElem_toArray, List.getElem_cons_succ, List.getElem_cons_zero, Act.put, List.setIfInBounds_toArray, List.set_cons_zero, List.set_cons_succ]
      try simp only [List.getElem_toArray, List.getElem_cons_succ, List.getElem_cons_zero, Act.put, List.setIfInBounds_toArray, List.set_cons_zero, List.set_cons_succ]
      refine wpAnyH_take (i := 8) (v := .agg csb) rfl (by kernel_rfl) (by kernel_rfl) (by kernel_rfl) (fun _ _ _ h => h) (Or.inl ⟨by rfl, fun w' hw' => ?yF8⟩) HH.out ?_
      case yF8 => exact exec_load 27 (.tmp 3) rfl rfl (Blk.below Xb.out hw') Try.underlying27 rfl HIb.out
      try simp only [List.getElem_toArray, List.getElem_cons_succ, List.getElem_cons_zero, Act.put, List.setIfInBounds_toArray, List.set_cons_zero, List.set_cons_succ]
      refine wpAnyH_take (i := 9) (v := .agg csa) rfl (by kernel_rfl) (by kernel_rfl) (by kernel_rfl) (fun _ _ _ h => h) (Or.inl ⟨by rfl, fun w' hw' => ?yF9⟩) HH.out ?_
      case yF9 => exact exec_load 27 (.tmp 2) rfl rfl (Blk.below Xa.out hw') Try.underlying27 rfl HIa.out
      try simp only [List.getElem_toArray, List.getElem_cons_succ, List.getElem_cons_zero, Act.put, List.setIfInBounds_toArray, List.set_cons_zero, List.set_cons_succ]
      refine wpAnyH_take (i := 11) (v := .agg csa) rfl (by kernel_rfl) (by kernel_rfl) (by kernel_rfl) (fun _ _ _ h => h) (Or.inl ⟨by rfl, fun w' hw' => ?yF11⟩) HH.out ?_
      case yF11 => exact exec_load 27 (.tmp 2) rfl rfl (Blk.below Xa.out hw') Try.underlying27 rfl HIa.out
      try simp only [List.getElem_toArray, List.getElem_cons_succ, List.getElem_cons_zero, Act.put, List.setIfInBounds_toArray, List.set_cons_zero, List.set_cons_succ]
      try simp only [List.getElem_toArray, List.getElem_cons_succ, List.getElem_cons_zero, Act.put, List.setIfInBounds_toArray, List.set_cons_zero, List.set_cons_succ]
      refine wpAnyH_take (i := 12) (v := .agg csb) rfl (by kernel_rfl) (by kernel_rfl) (by kernel_rfl) (fun _ _ _ h => h) (Or.inl ⟨by rfl, fun w' hw' => ?yF12⟩) HH.out ?_
      case yF12 => exact exec_load 27 (.tmp 3) rfl rfl (Blk.below Xb.out hw') Try.underlying27 rfl HIb.out
      try simp only [List.getElem_toArray, List.getElem_cons_succ, List.getElem_cons_zero, Act.put, List.setIfInBounds_toArray, List.set_cons_zero, List.set_cons_succ]
      refine wpAnyH_ready (rs := [10]) (by kernel_rfl) (by simp) (AllReadyH.cons rfl (fun K hK => ?_) AllReadyH.nil)
      go_simp
      refine (HS21.out _ HH.out).mono ?_
      rintro e wF10 ⟨rfl, bw⟩
      have hb := HH.out.trans (bw.mono HH.out.size)
      go_simp
      refine hK.out _ _ hb (fun hh => ?_)
      have HH' := Lib.hid hh
      clear hh hK K HH bw
      have HH := Lib.hid HH'.out
      clear HH'
      try simp only [List.getElem_toArray, List.getElem_cons_succ, List.getElem_cons_zero, Act.put, List.setIfInBounds_toArray, List.set_cons_zero, List.set_cons_succ]
      refine wpAnyH_ready (rs := [13]) (by kernel_rfl) (by simp) (AllReadyH.cons rfl (fun K hK => ?_) AllReadyH.nil)
      go_simp
      refine (HT12.out _ HH.out).mono ?_
      rintro e wF13 ⟨rfl, bw⟩
      have hb := HH.out.trans (bw.mono HH.out.size)
      go_simp
      refine hK.out _ _ hb (fun hh => ?_)
      have HH' := Lib.hid hh
      clear hh hK K HH bw
      have HH := Lib.hid HH'.out
      clear HH'
      try simp only [List.getElem_toArray, List.getElem_cons_succ, List.getElem_cons_zero, Act.put, List.setIfInBounds_toArray, List.set_cons_zero, List.set_cons_succ]
      refine wpAnyH_take (i := 14) (v := ?vF14) rfl (by kernel_rfl) (by kernel_rfl) (by kernel_rfl) (fun _ _ _ h => h) (Or.inl ⟨by rfl, fun w' _ => ?yF14⟩) HH.out ?_
      case yF14 => (go_simp; try with_reducible rfl)
      refine wpAnyH_take (i := 15) (v := ?vF15) rfl (by kernel_rfl) (by kernel_rfl) (by kernel_rfl) (fun _ _ _ h => h) (Or.inl ⟨by rfl, fun w' _ => ?yF15⟩) HH.out ?_
      case yF15 => (go_simp; try with_reducible rfl)
      refine wpAnyH_take (i := 16) (v := ?vF16) rfl (by kernel_rfl) (by kernel_rfl) (by kernel_rfl) (fun _ _ _ h => h) (Or.inl ⟨by rfl, fun w' _ => ?yF16⟩) HH.out ?_
      case yF16 => (go_simp; try with_reducible rfl)
      try simp only [List.getElem_toArray, List.getElem_cons_succ, List.getElem_cons_zero, Act.put, List.setIfInBounds_toArray, List.set_cons_zero, List.set_cons_succ]
      try simp only [List.getElem_toArray, List.getElem_cons_succ, List.getElem_cons_zero, Act.put, List.setIfInBounds_toArray, List.set_cons_zero, List.set_cons_succ]
      refine wpAnyH_take (i := 17) (v := .agg csa) rfl (by kernel_rfl) (by kernel_rfl) (by kernel_rfl) (fun _ _ _ h => h) (Or.inl ⟨by rfl, fun w' hw' => ?yF17⟩) HH.out ?_
      case yF17 => exact exec_load 27 (.tmp 2) rfl rfl (Blk.below Xa.out hw') Try.underlying27 rfl HIa.out
      try simp only [List.getElem_toArray, List.getElem_cons_succ, List.getElem_cons_zero, Act.put, List.setIfInBounds_toArray, List.set_cons_zero, List.set_cons_succ]
      refine wpAnyH_take (i := 18) (v := .agg csa) rfl (by kernel_rfl) (by kernel_rfl) (by kernel_rfl) (fun _ _ _ h => h) (Or.inl ⟨by rfl, fun w' hw' => ?yF18⟩) HH.out ?_
      case yF18 => exact exec_load 27 (.tmp 2) rfl rfl (Blk.below Xa.out hw') Try.underlying27 rfl HIa.out
      try simp only [List.getElem_toArray, List.getElem_cons_succ, List.getElem_cons_zero, Act.put, List.setIfInBounds_toArray, List.set_cons_zero, List.set_cons_succ]
      refine wpAnyH_ready (rs := [19]) (by kernel_rfl) (by simp) (AllReadyH.cons rfl (fun K hK => ?_) AllReadyH.nil)
      go_simp
      refine (HS11.out _ HH.out).mono ?_
      rintro e wF19 ⟨rfl, bw⟩
      have hb := HH.out.trans (bw.mono HH.out.size)
      go_simp
      refine hK.out _ _ hb (fun hh => ?_)
      have HH' := Lib.hid hh
      clear hh hK K HH bw
      have HH := Lib.hid HH'.out
      clear HH'
      try simp only [List.getElem_toArray, List.getElem_cons_succ, List.getElem_cons_zero, Act.put, List.setIfInBounds_toArray, List.set_cons_zero, List.set_cons_succ]
      refine wpAnyH_take (i := 20) (v := ?vF20) rfl (by kernel_rfl) (by kernel_rfl) (by kernel_rfl) (fun _ _ _ h => h) (Or.inl ⟨by rfl, fun w' _ => ?yF20⟩) HH.out ?_
      case yF20 => (go_simp; try with_reducible rfl)
      refine wpAnyH_take (i := 21) (v := ?vF21) rfl (by kernel_rfl) (by kernel_rfl) (by kernel_rfl) (fun _ _ _ h => h) (Or.inl ⟨by rfl, fun w' _ => ?yF21⟩) HH.out ?_
      case yF21 => (go_simp; try with_reducible rfl)
      try simp only [List.getElem_toArray, List.getElem_cons_succ, List.getElem_cons_zero, Act.put, List.setIfInBounds_toArray, List.set_cons_zero, List.set_cons_succ]
      refine wpAnyH_done (by kernel_rfl) ?_ _
      have B' := Lib.hid HH.out
      clear B HH
      have B := Lib.hid B'.out
      clear B'
      go_wp2_with (first
        | (refine wpList_load_row rfl 27 (.tmp 2) rfl (w.heap.size) rfl 27 csa (0, 0) _ (Blk.below Xa.out B.out) Try.underlying27 rfl HIa.out ?_))
      refine (HENa.out _ B.out).mono ?_
      rintro e w2 ⟨AQa, nQa, cQa, rfl, ho, bw⟩
      have B' := Lib.hid (B.out.trans (bw.mono B.out.size))
      have Qa := Lib.hid (own_more ho B.out.size)
      clear ho bw B 
      have B := Lib.hid B'.out
      clear B' 
      have LQa := Lib.hid (show nQa = (encX xa).length from (own_blen Qa.out).symm)
      go_wp2_with (first
        | (refine wpList_load_row rfl 27 (.tmp 3) rfl (w.heap.size + 1) rfl 27 csb (0, 0) _ (Blk.below Xb.out B.out) Try.underlying27 rfl HIb.out ?_))
      refine (HENb.out _ B.out).mono ?_
      rintro e w3 ⟨AQb, nQb, cQb, rfl, ho, bw⟩
      have B' := Lib.hid (B.out.trans (bw.mono B.out.size))
      have Qa' := Lib.hid (own_below Qa.out bw)
      have Qb := Lib.hid (own_more ho B.out.size)
      clear ho bw B Qa
      have B := Lib.hid B'.out
      have Qa := Lib.hid Qa'.out
      clear B' Qa'
      have LQb := Lib.hid (show nQb = (encX xb).length from (own_blen Qb.out).symm)
      by_cases oka : okCl xa
      ·
        by_cases okb : okCl xb
        ·
          rw [show errX xa = 0 from if_pos oka, show errX xb = 0 from if_pos okb]
          have ha := Qa.out
          rw [show encX xa = encCl xa from if_pos oka] at ha
          have hb := Qb.out
          rw [show encX xb = encCl xb from if_pos okb] at hb
          have LA := Lib.hid (own_blen ha)
          have LB := Lib.hid (own_blen hb)
          obtain ⟨Za, hZa⟩ : ∃ Z : ByteArray, Z = ⟨(encCl xa).toArray⟩ := ⟨_, rfl⟩
          obtain ⟨Zb, hZb⟩ : ∃ Z : ByteArray, Z = ⟨(encCl xb).toArray⟩ := ⟨_, rfl⟩
          have hss : (Za.toList == Zb.toList) = false := by
            rw [str_same hZa hZb, HQ.out]
            exact decide_iff ⟨fun e => encCl_inj oka okb e, fun e => by rw [e]⟩
          have HSS := Lib.hid hss
          have HZa := Lib.hid hZa
          have HZb := Lib.hid hZb
          obtain ⟨WQ, hWQ⟩ : ∃ W, W = w3 := ⟨_, rfl⟩
          have RA := Lib.hid (show Rd WQ.heap.size w3 AQa (bv (encCl xa)) from by rw [hWQ]; exact Rd.own ha)
          have RB := Lib.hid (show Rd WQ.heap.size w3 AQb (bv (encCl xb)) from by rw [hWQ]; exact Rd.own hb)
          have EQ := Lib.hid hWQ
          clear hWQ hZa hZb hss ha hb oka okb
          go_upto_region 9 with fail
          refine wp_region_held_drew (S := (fun w' => Below w0.heap.size w0 w' ∧ Rd WQ.heap.size w' AQa (bv (encCl xa)) ∧ Rd WQ.heap.size w' AQb (bv (encCl xb)))) (by kernel_rfl) ⟨B.out.drew, RA.out.drewN 1, RB.out.drewN 1⟩ (fun hh => ?_)
          have HH := Lib.hid hh
          clear hh
          refine wpAnyH_take (i := 0) (v := ?vFz0) rfl (by kernel_rfl) (by kernel_rfl) (by kernel_rfl) (fun _ _ _ h => h) (Or.inl ⟨by rfl, fun w' _ => ?yFz0⟩) HH.out ?_
          case yFz0 => (go_simp; try with_reducible rfl)
          refine wpAnyH_take (i := 1) (v := ?vFz1) rfl (by kernel_rfl) (by kernel_rfl) (by kernel_rfl) (fun _ _ _ h => h) (Or.inl ⟨by rfl, fun w' _ => ?yFz1⟩) HH.out ?_
          case yFz1 => (go_simp; try with_reducible rfl)
          try simp only [List.getElem_toArray, List.getElem_cons_succ, List.getElem_cons_zero, Act.put, List.setIfInBounds_toArray, List.set_cons_zero, List.set_cons_succ]
          refine wpAnyH_take (i := 2) (v := ?vFz2) rfl (by kernel_rfl) (by kernel_rfl) (by kernel_rfl) (fun _ _ _ h => h) (Or.inl ⟨by rfl, fun w' _ => ?yFz2⟩) HH.out ?_
          case yFz2 => (go_simp; try with_reducible rfl)
          try simp only [List.getElem_toArray, List.getElem_cons_succ, List.getElem_cons_zero, Act.put, List.setIfInBounds_toArray, List.set_cons_zero, List.set_cons_succ]
          refine wpAnyH_take (i := 3) (v := ?vFz3) rfl (by kernel_rfl) (by kernel_rfl) (by kernel_rfl) (fun _ _ _ h => h) (Or.inl ⟨by rfl, fun w' _ => ?yFz3⟩) HH.out ?_
          case yFz3 => (go_simp; try with_reducible rfl)
          try simp only [List.getElem_toArray, List.getElem_cons_succ, List.getElem_cons_zero, Act.put, List.setIfInBounds_toArray, List.set_cons_zero, List.set_cons_succ]
          refine wpAnyH_take (i := 4) (v := ?vFz4) rfl (by kernel_rfl) (by kernel_rfl) (by kernel_rfl) (fun _ _ _ h => h) (Or.inl ⟨by rfl, fun w' _ => ?yFz4⟩) HH.out ?_
          case yFz4 => (go_simp; try with_reducible rfl)
          try simp only [List.getElem_toArray, List.getElem_cons_succ, List.getElem_cons_zero, Act.put, List.setIfInBounds_toArray, List.set_cons_zero, List.set_cons_succ]
          refine wpAnyH_take (i := 5) (v := ?vFz5) rfl (by kernel_rfl) (by kernel_rfl) (by kernel_rfl) (fun _ _ _ h => h) (Or.inl ⟨by rfl, fun w' _ => ?yFz5⟩) HH.out ?_
          case yFz5 => (go_simp; try with_reducible rfl)
          refine wpAnyH_take (i := 6) (v := ?vFz6) rfl (by kernel_rfl) (by kernel_rfl) (by kernel_rfl) (fun _ _ _ h => h) (Or.inl ⟨by rfl, fun w' _ => ?yFz6⟩) HH.out ?_
          case yFz6 => (go_simp; try with_reducible rfl)
          try simp only [List.getElem_toArray, List.getElem_cons_succ, List.getElem_cons_zero, Act.put, List.setIfInBounds_toArray, List.set_cons_zero, List.set_cons_succ]
          refine wpAnyH_take (i := 7) (v := ?vFz7) rfl (by kernel_rfl) (by kernel_rfl) (by kernel_rfl) (fun _ _ _ h => h) (Or.inl ⟨by rfl, fun w' _ => ?yFz7⟩) HH.out ?_
          case yFz7 => (go_simp; try with_reducible rfl)
          try simp only [List.getElem_toArray, List.getElem_cons_succ, List.getElem_cons_zero, Act.put, List.setIfInBounds_toArray, List.set_cons_zero, List.set_cons_succ]
          try simp only [List.getElem_toArray, List.getElem_cons_succ, List.getElem_cons_zero, Act.put, List.setIfInBounds_toArray, List.set_cons_zero, List.set_cons_succ]
          refine wpAnyH_take (i := 8) (v := .string Za) rfl (by kernel_rfl) (by kernel_rfl) (by kernel_rfl) (fun _ _ _ h => h) (Or.inl ⟨by rfl, fun w' hw' => ?yFz8⟩) HH.out ?_
          case yFz8 => (have kc := conv_rd (c := cQa) Try.underlying25 Try.underlying5 Try.underlying9 hw'.2.1 LA.out; rw [← HZa.out] at kc; go_simp; try with_reducible rfl)
          try simp only [List.getElem_toArray, List.getElem_cons_succ, List.getElem_cons_zero, Act.put, List.setIfInBounds_toArray, List.set_cons_zero, List.set_cons_succ]
          refine wpAnyH_take (i := 9) (v := ?vFz9) rfl (by kernel_rfl) (by kernel_rfl) (by kernel_rfl) (fun _ _ _ h => h) (Or.inl ⟨by rfl, fun w' _ => ?yFz9⟩) HH.out ?_
          case yFz9 => (go_simp; try with_reducible rfl)
          try simp only [List.getElem_toArray, List.getElem_cons_succ, List.getElem_cons_zero, Act.put, List.setIfInBounds_toArray, List.set_cons_zero, List.set_cons_succ]
          refine wpAnyH_take (i := 10) (v := .string Zb) rfl (by kernel_rfl) (by kernel_rfl) (by kernel_rfl) (fun _ _ _ h => h) (Or.inl ⟨by rfl, fun w' hw' => ?yFz10⟩) HH.out ?_
          case yFz10 => (have kc := conv_rd (c := cQb) Try.underlying25 Try.underlying5 Try.underlying9 hw'.2.2 LB.out; rw [← HZb.out] at kc; go_simp; try with_reducible rfl)
          try simp only [List.getElem_toArray, List.getElem_cons_succ, List.getElem_cons_zero, Act.put, List.setIfInBounds_toArray, List.set_cons_zero, List.set_cons_succ]
          try simp only [List.getElem_toArray, List.getElem_cons_succ, List.getElem_cons_zero, Act.put, List.setIfInBounds_toArray, List.set_cons_zero, List.set_cons_succ]
          refine wpAnyH_take (i := 11) (v := .bool false) rfl (by kernel_rfl) (by kernel_rfl) (by kernel_rfl) (fun _ _ _ h => h) (Or.inl ⟨by rfl, fun w' hw' => ?yFz11⟩) HH.out ?_
          case yFz11 => (go_simp; simpa using HSS.out)
          try simp only [List.getElem_toArray, List.getElem_cons_succ, List.getElem_cons_zero, Act.put, List.setIfInBounds_toArray, List.set_cons_zero, List.set_cons_succ]
          refine wpAnyH_take (i := 12) (v := .agg csa) rfl (by kernel_rfl) (by kernel_rfl) (by kernel_rfl) (fun _ _ _ h => h) (Or.inl ⟨by rfl, fun w' hw' => ?yFz12⟩) HH.out ?_
          case yFz12 => exact exec_load 27 (.tmp 2) rfl rfl (Blk.below Xa.out hw'.1) Try.underlying27 rfl HIa.out
          try simp only [List.getElem_toArray, List.getElem_cons_succ, List.getElem_cons_zero, Act.put, List.setIfInBounds_toArray, List.set_cons_zero, List.set_cons_succ]
          refine wpAnyH_take (i := 13) (v := .agg csb) rfl (by kernel_rfl) (by kernel_rfl) (by kernel_rfl) (fun _ _ _ h => h) (Or.inl ⟨by rfl, fun w' hw' => ?yFz13⟩) HH.out ?_
          case yFz13 => exact exec_load 27 (.tmp 3) rfl rfl (Blk.below Xb.out hw'.1) Try.underlying27 rfl HIb.out
          try simp only [List.getElem_toArray, List.getElem_cons_succ, List.getElem_cons_zero, Act.put, List.setIfInBounds_toArray, List.set_cons_zero, List.set_cons_succ]
          refine wpAnyH_ready (rs := [14]) (by kernel_rfl) (by simp) (AllReadyH.cons rfl (fun K hK => ?_) AllReadyH.nil)
          go_simp
          refine (HS12.out _ HH.out.1).mono ?_
          rintro e wFz ⟨rfl, bw⟩
          have hb := HH.out.1.trans (bw.mono HH.out.1.size)
          have r1 := Rd.below HH.out.2.1 (bw.mono (by rw [EQ.out]; exact Nat.le_refl _))
          have r2 := Rd.below HH.out.2.2 (bw.mono (by rw [EQ.out]; exact Nat.le_refl _))
          go_simp
          refine hK.out _ _ ⟨hb, r1, r2⟩ (fun hh => ?_)
          have HH' := Lib.hid hh
          clear hh hK K HH bw
          have HH := Lib.hid HH'.out
          clear HH'
          try simp only [List.getElem_toArray, List.getElem_cons_succ, List.getElem_cons_zero, Act.put, List.setIfInBounds_toArray, List.set_cons_zero, List.set_cons_succ]
          refine wpAnyH_take (i := 15) (v := ?vFz15) rfl (by kernel_rfl) (by kernel_rfl) (by kernel_rfl) (fun _ _ _ h => h) (Or.inl ⟨by rfl, fun w' _ => ?yFz15⟩) HH.out ?_
          case yFz15 => (go_simp; try with_reducible rfl)
          refine wpAnyH_take (i := 16) (v := ?vFz16) rfl (by kernel_rfl) (by kernel_rfl) (by kernel_rfl) (fun _ _ _ h => h) (Or.inl ⟨by rfl, fun w' _ => ?yFz16⟩) HH.out ?_
          case yFz16 => (go_simp; try with_reducible rfl)
          try simp only [List.getElem_toArray, List.getElem_cons_succ, List.getElem_cons_zero, Act.put, List.setIfInBounds_toArray, List.set_cons_zero, List.set_cons_succ]
          refine wpAnyH_take (i := 17) (v := ?vFz17) rfl (by kernel_rfl) (by kernel_rfl) (by kernel_rfl) (fun _ _ _ h => h) (Or.inl ⟨by rfl, fun w' _ => ?yFz17⟩) HH.out ?_
          case yFz17 => (go_simp; try with_reducible rfl)
          try simp only [List.getElem_toArray, List.getElem_cons_succ, List.getElem_cons_zero, Act.put, List.setIfInBounds_toArray, List.set_cons_zero, List.set_cons_succ]
          refine wpAnyH_done (by kernel_rfl) ?_ _
          go_wp2_with fail
          go_ret
          exact ⟨rfl, BW.out.trans (HH.out.1.mono BW.out.size)⟩
        ·
          rw [show errX xa = 0 from if_pos oka, show errX xb = 3 from if_neg okb]
          clear oka okb
          go_upto_region 9 with fail
          refine wp_region_held_drew (S := (fun w' => Below w0.heap.size w0 w')) (by kernel_rfl) B.out.drew (fun hh => ?_)
          have HH := Lib.hid hh
          clear hh
          refine wpAnyH_take (i := 0) (v := ?vFy0) rfl (by kernel_rfl) (by kernel_rfl) (by kernel_rfl) (fun _ _ _ h => h) (Or.inl ⟨by rfl, fun w' _ => ?yFy0⟩) HH.out ?_
          case yFy0 => (go_simp; try with_reducible rfl)
          refine wpAnyH_take (i := 1) (v := ?vFy1) rfl (by kernel_rfl) (by kernel_rfl) (by kernel_rfl) (fun _ _ _ h => h) (Or.inl ⟨by rfl, fun w' _ => ?yFy1⟩) HH.out ?_
          case yFy1 => (go_simp; try with_reducible rfl)
          try simp only [List.getElem_toArray, List.getElem_cons_succ, List.getElem_cons_zero, Act.put, List.setIfInBounds_toArray, List.set_cons_zero, List.set_cons_succ]
          refine wpAnyH_take (i := 2) (v := ?vFy2) rfl (by kernel_rfl) (by kernel_rfl) (by kernel_rfl) (fun _ _ _ h => h) (Or.inl ⟨by rfl, fun w' _ => ?yFy2⟩) HH.out ?_
          case yFy2 => (go_simp; try with_reducible rfl)
          try simp only [List.getElem_toArray, List.getElem_cons_succ, List.getElem_cons_zero, Act.put, List.setIfInBounds_toArray, List.set_cons_zero, List.set_cons_succ]
          refine wpAnyH_take (i := 3) (v := ?vFy3) rfl (by kernel_rfl) (by kernel_rfl) (by kernel_rfl) (fun _ _ _ h => h) (Or.inl ⟨by rfl, fun w' _ => ?yFy3⟩) HH.out ?_
          case yFy3 => (go_simp; try with_reducible rfl)
          try simp only [List.getElem_toArray, List.getElem_cons_succ, List.getElem_cons_zero, Act.put, List.setIfInBounds_toArray, List.set_cons_zero, List.set_cons_succ]
          refine wpAnyH_take (i := 4) (v := ?vFy4) rfl (by kernel_rfl) (by kernel_rfl) (by kernel_rfl) (fun _ _ _ h => h) (Or.inl ⟨by rfl, fun w' _ => ?yFy4⟩) HH.out ?_
          case yFy4 => (go_simp; try with_reducible rfl)
          try simp only [List.getElem_toArray, List.getElem_cons_succ, List.getElem_cons_zero, Act.put, List.setIfInBounds_toArray, List.set_cons_zero, List.set_cons_succ]
          refine wpAnyH_take (i := 5) (v := ?vFy5) rfl (by kernel_rfl) (by kernel_rfl) (by kernel_rfl) (fun _ _ _ h => h) (Or.inl ⟨by rfl, fun w' _ => ?yFy5⟩) HH.out ?_
          case yFy5 => (go_simp; try with_reducible rfl)
          refine wpAnyH_take (i := 6) (v := ?vFy6) rfl (by kernel_rfl) (by kernel_rfl) (by kernel_rfl) (fun _ _ _ h => h) (Or.inl ⟨by rfl, fun w' _ => ?yFy6⟩) HH.out ?_
          case yFy6 => (go_simp; try with_reducible rfl)
          refine wpAnyH_take (i := 7) (v := undef) rfl (by kernel_rfl) (by kernel_rfl) (by kernel_rfl) (fun _ _ _ h => h) (Or.inr ⟨by rfl, rfl⟩) HH.out ?_
          try simp only [List.getElem_toArray, List.getElem_cons_succ, List.getElem_cons_zero, Act.put, List.setIfInBounds_toArray, List.set_cons_zero, List.set_cons_succ]
          refine wpAnyH_take (i := 8) (v := undef) rfl (by kernel_rfl) (by kernel_rfl) (by kernel_rfl) (fun _ _ _ h => h) (Or.inr ⟨by rfl, rfl⟩) HH.out ?_
          refine wpAnyH_take (i := 9) (v := undef) rfl (by kernel_rfl) (by kernel_rfl) (by kernel_rfl) (fun _ _ _ h => h) (Or.inr ⟨by rfl, rfl⟩) HH.out ?_
          refine wpAnyH_take (i := 10) (v := undef) rfl (by kernel_rfl) (by kernel_rfl) (by kernel_rfl) (fun _ _ _ h => h) (Or.inr ⟨by rfl, rfl⟩) HH.out ?_
          try simp only [List.getElem_toArray, List.getElem_cons_succ, List.getElem_cons_zero, Act.put, List.setIfInBounds_toArray, List.set_cons_zero, List.set_cons_succ]
          refine wpAnyH_take (i := 11) (v := undef) rfl (by kernel_rfl) (by kernel_rfl) (by kernel_rfl) (fun _ _ _ h => h) (Or.inr ⟨by rfl, rfl⟩) HH.out ?_
          refine wpAnyH_take (i := 12) (v := undef) rfl (by kernel_rfl) (by kernel_rfl) (by kernel_rfl) (fun _ _ _ h => h) (Or.inr ⟨by rfl, rfl⟩) HH.out ?_
          refine wpAnyH_take (i := 13) (v := undef) rfl (by kernel_rfl) (by kernel_rfl) (by kernel_rfl) (fun _ _ _ h => h) (Or.inr ⟨by rfl, rfl⟩) HH.out ?_
          try simp only [List.getElem_toArray, List.getElem_cons_succ, List.getElem_cons_zero, Act.put, List.setIfInBounds_toArray, List.set_cons_zero, List.set_cons_succ]
          refine wpAnyH_take (i := 14) (v := undef) rfl (by kernel_rfl) (by kernel_rfl) (by kernel_rfl) (fun _ _ _ h => h) (Or.inr ⟨by rfl, rfl⟩) HH.out ?_
          refine wpAnyH_take (i := 15) (v := undef) rfl (by kernel_rfl) (by kernel_rfl) (by kernel_rfl) (fun _ _ _ h => h) (Or.inr ⟨by rfl, rfl⟩) HH.out ?_
          refine wpAnyH_take (i := 16) (v := ?vFy16) rfl (by kernel_rfl) (by kernel_rfl) (by kernel_rfl) (fun _ _ _ h => h) (Or.inl ⟨by rfl, fun w' _ => ?yFy16⟩) HH.out ?_
          case yFy16 => (go_simp; try with_reducible rfl)
          try simp only [List.getElem_toArray, List.getElem_cons_succ, List.getElem_cons_zero, Act.put, List.setIfInBounds_toArray, List.set_cons_zero, List.set_cons_succ]
          refine wpAnyH_take (i := 17) (v := ?vFy17) rfl (by kernel_rfl) (by kernel_rfl) (by kernel_rfl) (fun _ _ _ h => h) (Or.inl ⟨by rfl, fun w' _ => ?yFy17⟩) HH.out ?_
          case yFy17 => (go_simp; try with_reducible rfl)
          try simp only [List.getElem_toArray, List.getElem_cons_succ, List.getElem_cons_zero, Act.put, List.setIfInBounds_toArray, List.set_cons_zero, List.set_cons_succ]
          refine wpAnyH_done (by kernel_rfl) ?_ _
          go_wp2_with fail
          go_ret
          exact ⟨rfl, BW.out.trans (HH.out.mono BW.out.size)⟩
      ·
        rw [show errX xa = 3 from if_neg oka]
        clear oka
        obtain ⟨eb, heb⟩ : ∃ e, e = errX xb := ⟨_, rfl⟩
        rw [← heb]
        clear heb
        go_upto_region 9 with fail
        refine wp_region_held_drew (S := (fun w' => Below w0.heap.size w0 w')) (by kernel_rfl) B.out.drew (fun hh => ?_)
        have HH := Lib.hid hh
        clear hh
        refine wpAnyH_take (i := 0) (v := ?vFx0) rfl (by kernel_rfl) (by kernel_rfl) (by kernel_rfl) (fun _ _ _ h => h) (Or.inl ⟨by rfl, fun w' _ => ?yFx0⟩) HH.out ?_
        case yFx0 => (go_simp; try with_reducible rfl)
        refine wpAnyH_take (i := 1) (v := ?vFx1) rfl (by kernel_rfl) (by kernel_rfl) (by kernel_rfl) (fun _ _ _ h => h) (Or.inl ⟨by rfl, fun w' _ => ?yFx1⟩) HH.out ?_
        case yFx1 => (go_simp; try with_reducible rfl)
        try simp only [List.getElem_toArray, List.getElem_cons_succ, List.getElem_cons_zero, Act.put, List.setIfInBounds_toArray, List.set_cons_zero, List.set_cons_succ]
        refine wpAnyH_take (i := 2) (v := ?vFx2) rfl (by kernel_rfl) (by kernel_rfl) (by kernel_rfl) (fun _ _ _ h => h) (Or.inl ⟨by rfl, fun w' _ => ?yFx2⟩) HH.out ?_
        case yFx2 => (go_simp; try with_reducible rfl)
        refine wpAnyH_take (i := 3) (v := undef) rfl (by kernel_rfl) (by kernel_rfl) (by kernel_rfl) (fun _ _ _ h => h) (Or.inr ⟨by rfl, rfl⟩) HH.out ?_
        refine wpAnyH_take (i := 4) (v := undef) rfl (by kernel_rfl) (by kernel_rfl) (by kernel_rfl) (fun _ _ _ h => h) (Or.inr ⟨by rfl, rfl⟩) HH.out ?_
        try simp only [List.getElem_toArray, List.getElem_cons_succ, List.getElem_cons_zero, Act.put, List.setIfInBounds_toArray, List.set_cons_zero, List.set_cons_succ]
        refine wpAnyH_take (i := 5) (v := ?vFx5) rfl (by kernel_rfl) (by kernel_rfl) (by kernel_rfl) (fun _ _ _ h => h) (Or.inl ⟨by rfl, fun w' _ => ?yFx5⟩) HH.out ?_
        case yFx5 => (go_simp; try with_reducible rfl)
        refine wpAnyH_take (i := 6) (v := ?vFx6) rfl (by kernel_rfl) (by kernel_rfl) (by kernel_rfl) (fun _ _ _ h => h) (Or.inl ⟨by rfl, fun w' _ => ?yFx6⟩) HH.out ?_
        case yFx6 => (go_simp; try with_reducible rfl)
        refine wpAnyH_take (i := 7) (v := undef) rfl (by kernel_rfl) (by kernel_rfl) (by kernel_rfl) (fun _ _ _ h => h) (Or.inr ⟨by rfl, rfl⟩) HH.out ?_
        try simp only [List.getElem_toArray, List.getElem_cons_succ, List.getElem_cons_zero, Act.put, List.setIfInBounds_toArray, List.set_cons_zero, List.set_cons_succ]
        refine wpAnyH_take (i := 8) (v := undef) rfl (by kernel_rfl) (by kernel_rfl) (by kernel_rfl) (fun _ _ _ h => h) (Or.inr ⟨by rfl, rfl⟩) HH.out ?_
        refine wpAnyH_take (i := 9) (v := undef) rfl (by kernel_rfl) (by kernel_rfl) (by kernel_rfl) (fun _ _ _ h => h) (Or.inr ⟨by rfl, rfl⟩) HH.out ?_
        refine wpAnyH_take (i := 10) (v := undef) rfl (by kernel_rfl) (by kernel_rfl) (by kernel_rfl) (fun _ _ _ h => h) (Or.inr ⟨by rfl, rfl⟩) HH.out ?_
        try simp only [List.getElem_toArray, List.getElem_cons_succ, List.getElem_cons_zero, Act.put, List.setIfInBounds_toArray, List.set_cons_zero, List.set_cons_succ]
        refine wpAnyH_take (i := 11) (v := undef) rfl (by kernel_rfl) (by kernel_rfl) (by kernel_rfl) (fun _ _ _ h => h) (Or.inr ⟨by rfl, rfl⟩) HH.out ?_
        refine wpAnyH_take (i := 12) (v := undef) rfl (by kernel_rfl) (by kernel_rfl) (by kernel_rfl) (fun _ _ _ h => h) (Or.inr ⟨by rfl, rfl⟩) HH.out ?_
        refine wpAnyH_take (i := 13) (v := undef) rfl (by kernel_rfl) (by kernel_rfl) (by kernel_rfl) (fun _ _ _ h => h) (Or.inr ⟨by rfl, rfl⟩) HH.out ?_
        try simp only [List.getElem_toArray, List.getElem_cons_succ, List.getElem_cons_zero, Act.put, List.setIfInBounds_toArray, List.set_cons_zero, List.set_cons_succ]
        refine wpAnyH_take (i := 14) (v := undef) rfl (by kernel_rfl) (by kernel_rfl) (by kernel_rfl) (fun _ _ _ h => h) (Or.inr ⟨by rfl, rfl⟩) HH.out ?_
        refine wpAnyH_take (i := 15) (v := undef) rfl (by kernel_rfl) (by kernel_rfl) (by kernel_rfl) (fun _ _ _ h => h) (Or.inr ⟨by rfl, rfl⟩) HH.out ?_
        refine wpAnyH_take (i := 16) (v := ?vFx16) rfl (by kernel_rfl) (by kernel_rfl) (by kernel_rfl) (fun _ _ _ h => h) (Or.inl ⟨by rfl, fun w' _ => ?yFx16⟩) HH.out ?_
        case yFx16 => (go_simp; try with_reducible rfl)
        try simp only [List.getElem_toArray, List.getElem_cons_succ, List.getElem_cons_zero, Act.put, List.setIfInBounds_toArray, List.set_cons_zero, List.set_cons_succ]
        refine wpAnyH_take (i := 17) (v := ?vFx17) rfl (by kernel_rfl) (by kernel_rfl) (by kernel_rfl) (fun _ _ _ h => h) (Or.inl ⟨by rfl, fun w' _ => ?yFx17⟩) HH.out ?_
        case yFx17 => (go_simp; try with_reducible rfl)
        try simp only [List.getElem_toArray, List.getElem_cons_succ, List.getElem_cons_zero, Act.put, List.setIfInBounds_toArray, List.set_cons_zero, List.set_cons_succ]
        refine wpAnyH_done (by kernel_rfl) ?_ _
        go_wp2_with fail
        go_ret
        exact ⟨rfl, BW.out.trans (HH.out.mono BW.out.size)⟩
    ·
      refine wp_region_held_drew (S := (fun w' => Below w0.heap.size w0 w')) (by kernel_rfl) B.out.drew (fun hh => ?_)
      have HH := Lib.hid hh
      clear hh
      try simp only [List.getElem_toArray, List.getElem_cons_succ, List.getElem_cons_zero, Act.put, List.setIfInBounds_toArray, List.set_cons_zero, List.set_cons_succ]
      refine wpAnyH_take (i := 0) (v := .agg csa) rfl (by kernel_rfl) (by kernel_rfl) (by kernel_rfl) (fun _ _ _ h => h) (Or.inl ⟨by rfl, fun w' hw' => ?yT0⟩) HH.out ?_
      case yT0 => exact exec_load 27 (.tmp 2) rfl rfl (Blk.below Xa.out hw') Try.underlying27 rfl HIa.out
      try simp only [List.getElem_toArray, List.getElem_cons_zero, Act.put, List.setIfInBounds_toArray, List.set_cons_zero, List.set_cons_succ]
      refine wpAnyH_take (i := 1) (v := .agg csb) rfl (by kernel_rfl) (by kernel_rfl) (by kernel_rfl) (fun _ _ _ h => h) (Or.inl ⟨by rfl, fun w' hw' => ?yT1⟩) HH.out ?_
      case yT1 => exact exec_load 27 (.tmp 3) rfl rfl (Blk.below Xb.out hw') Try.underlying27 rfl HIb.out
      try simp only [List.getElem_toArray, List.getElem_cons_succ, List.getElem_cons_zero, Act.put, List.setIfInBounds_toArray, List.set_cons_zero, List.set_cons_succ]
      try simp only [List.getElem_toArray, List.getElem_cons_succ, List.getElem_cons_zero, Act.put, List.setIfInBounds_toArray, List.set_cons_zero, List.set_cons_succ]
      refine wpAnyH_take (i := 3) (v := .agg csa) rfl (by kernel_rfl) (by kernel_rfl) (by kernel_rfl) (fun _ _ _ h => h) (Or.inl ⟨by rfl, fun w' hw' => ?yT3⟩) HH.out ?_
      case yT3 => exact exec_load 27 (.tmp 2) rfl rfl (Blk.below Xa.out hw') Try.underlying27 rfl HIa.out
      try simp only [List.getElem_toArray, List.getElem_cons_succ, List.getElem_cons_zero, Act.put, List.setIfInBounds_toArray, List.set_cons_zero, List.set_cons_succ]
      refine wpAnyH_take (i := 4) (v := .agg csb) rfl (by kernel_rfl) (by kernel_rfl) (by kernel_rfl) (fun _ _ _ h => h) (Or.inl ⟨by rfl, fun w' hw' => ?yT4⟩) HH.out ?_
      case yT4 => exact exec_load 27 (.tmp 3) rfl rfl (Blk.below Xb.out hw') Try.underlying27 rfl HIb.out
      try simp only [List.getElem_toArray, List.getElem_cons_succ, List.getElem_cons_zero, Act.put, List.setIfInBounds_toArray, List.set_cons_zero, List.set_cons_succ]
      refine wpAnyH_ready (rs := [2]) (by kernel_rfl) (by simp) (AllReadyH.cons rfl (fun K hK => ?_) AllReadyH.nil)
      go_simp
      refine (HS12.out _ HH.out).mono ?_
      rintro e wT2 ⟨rfl, bw⟩
      have hb := HH.out.trans (bw.mono HH.out.size)
      go_simp
      refine hK.out _ _ hb (fun hh => ?_)
      have HH' := Lib.hid hh
      clear hh hK K HH bw
      have HH := Lib.hid HH'.out
      clear HH'
      try simp only [List.getElem_toArray, List.getElem_cons_succ, List.getElem_cons_zero, Act.put, List.setIfInBounds_toArray, List.set_cons_zero, List.set_cons_succ]
      refine wpAnyH_ready (rs := [5]) (by kernel_rfl) (by simp) (AllReadyH.cons rfl (fun K hK => ?_) AllReadyH.nil)
      go_simp
      refine (HT12.out _ HH.out).mono ?_
      rintro e wT5 ⟨rfl, bw⟩
      have hb := HH.out.trans (bw.mono HH.out.size)
      go_simp
      refine hK.out _ _ hb (fun hh => ?_)
      have HH' := Lib.hid hh
      clear hh hK K HH bw
      have HH := Lib.hid HH'.out
      clear HH'
      refine wpAnyH_take (i := 6) (v := ?vT6) rfl (by kernel_rfl) (by kernel_rfl) (by kernel_rfl) (fun _ _ _ h => h) (Or.inl ⟨by rfl, fun w' _ => ?yT6⟩) HH.out ?_
      case yT6 => (go_simp; try with_reducible rfl)
      refine wpAnyH_take (i := 7) (v := ?vT7) rfl (by kernel_rfl) (by kernel_rfl) (by kernel_rfl) (fun _ _ _ h => h) (Or.inl ⟨by rfl, fun w' _ => ?yT7⟩) HH.out ?_
      case yT7 => (go_simp; try with_reducible rfl)
      try simp only [List.getElem_toArray, List.getElem_cons_succ, List.getElem_cons_zero, Act.put, List.setIfInBounds_toArray, List.set_cons_zero, List.set_cons_succ]
      try simp only [List.getElem_toArray, List.getElem_cons_succ, List.getElem_cons_zero, Act.put, List.setIfInBounds_toArray, List.set_cons_zero, List.set_cons_succ]
      refine wpAnyH_take (i := 8) (v := .agg csb) rfl (by kernel_rfl) (by kernel_rfl) (by kernel_rfl) (fun _ _ _ h => h) (Or.inl ⟨by rfl, fun w' hw' => ?yT8⟩) HH.out ?_
      case yT8 => exact exec_load 27 (.tmp 3) rfl rfl (Blk.below Xb.out hw') Try.underlying27 rfl HIb.out
      try simp only [List.getElem_toArray, List.getElem_cons_succ, List.getElem_cons_zero, Act.put, List.setIfInBounds_toArray, List.set_cons_zero, List.set_cons_succ]
      refine wpAnyH_take (i := 9) (v := .agg csa) rfl (by kernel_rfl) (by kernel_rfl) (by kernel_rfl) (fun _ _ _ h => h) (Or.inl ⟨by rfl, fun w' hw' => ?yT9⟩) HH.out ?_
      case yT9 => exact exec_load 27 (.tmp 2) rfl rfl (Blk.below Xa.out hw') Try.underlying27 rfl HIa.out
      try simp only [List.getElem_toArray, List.getElem_cons_succ, List.getElem_cons_zero, Act.put, List.setIfInBounds_toArray, List.set_cons_zero, List.set_cons_succ]
      refine wpAnyH_take (i := 11) (v := .agg csa) rfl (by kernel_rfl) (by kernel_rfl) (by kernel_rfl) (fun _ _ _ h => h) (Or.inl ⟨by rfl, fun w' hw' => ?yT11⟩) HH.out ?_
      case yT11 => exact exec_load 27 (.tmp 2) rfl rfl (Blk.below Xa.out hw') Try.underlying27 rfl HIa.out
      try simp only [List.getElem_toArray, List.getElem_cons_succ, List.getElem_cons_zero, Act.put, List.setIfInBounds_toArray, List.set_cons_zero, List.set_cons_succ]
      try simp only [List.getElem_toArray, List.getElem_cons_succ, List.getElem_cons_zero, Act.put, List.setIfInBounds_toArray, List.set_cons_zero, List.set_cons_succ]
      refine wpAnyH_take (i := 12) (v := .agg csb) rfl (by kernel_rfl) (by kernel_rfl) (by kernel_rfl) (fun _ _ _ h => h) (Or.inl ⟨by rfl, fun w' hw' => ?yT12⟩) HH.out ?_
      case yT12 => exact exec_load 27 (.tmp 3) rfl rfl (Blk.below Xb.out hw') Try.underlying27 rfl HIb.out
      try simp only [List.getElem_toArray, List.getElem_cons_succ, List.getElem_cons_zero, Act.put, List.setIfInBounds_toArray, List.set_cons_zero, List.set_cons_succ]
      refine wpAnyH_ready (rs := [10]) (by kernel_rfl) (by simp) (AllReadyH.cons rfl (fun K hK => ?_) AllReadyH.nil)
      go_simp
      refine (HS21.out _ HH.out).mono ?_
      rintro e wT10 ⟨rfl, bw⟩
      have hb := HH.out.trans (bw.mono HH.out.size)
      go_simp
      refine hK.out _ _ hb (fun hh => ?_)
      have HH' := Lib.hid hh
      clear hh hK K HH bw
      have HH := Lib.hid HH'.out
      clear HH'
      try simp only [List.getElem_toArray, List.getElem_cons_succ, List.getElem_cons_zero, Act.put, List.setIfInBounds_toArray, List.set_cons_zero, List.set_cons_succ]
      refine wpAnyH_ready (rs := [13]) (by kernel_rfl) (by simp) (AllReadyH.cons rfl (fun K hK => ?_) AllReadyH.nil)
      go_simp
      refine (HT12.out _ HH.out).mono ?_
      rintro e wT13 ⟨rfl, bw⟩
      have hb := HH.out.trans (bw.mono HH.out.size)
      go_simp
      refine hK.out _ _ hb (fun hh => ?_)
      have HH' := Lib.hid hh
      clear hh hK K HH bw
      have HH := Lib.hid HH'.out
      clear HH'
      try simp only [List.getElem_toArray, List.getElem_cons_succ, List.getElem_cons_zero, Act.put, List.setIfInBounds_toArray, List.set_cons_zero, List.set_cons_succ]
      refine wpAnyH_take (i := 14) (v := ?vT14) rfl (by kernel_rfl) (by kernel_rfl) (by kernel_rfl) (fun _ _ _ h => h) (Or.inl ⟨by rfl, fun w' _ => ?yT14⟩) HH.out ?_
      case yT14 => (go_simp; try with_reducible rfl)
      refine wpAnyH_take (i := 15) (v := ?vT15) rfl (by kernel_rfl) (by kernel_rfl) (by kernel_rfl) (fun _ _ _ h => h) (Or.inl ⟨by rfl, fun w' _ => ?yT15⟩) HH.out ?_
      case yT15 => (go_simp; try with_reducible rfl)
      refine wpAnyH_take (i := 16) (v := ?vT16) rfl (by kernel_rfl) (by kernel_rfl) (by kernel_rfl) (fun _ _ _ h => h) (Or.inl ⟨by rfl, fun w' _ => ?yT16⟩) HH.out ?_
      case yT16 => (go_simp; try with_reducible rfl)
      try simp only [List.getElem_toArray, List.getElem_cons_succ, List.getElem_cons_zero, Act.put, List.setIfInBounds_toArray, List.set_cons_zero, List.set_cons_succ]
      try simp only [List.getElem_toArray, List.getElem_cons_succ, List.getElem_cons_zero, Act.put, List.setIfInBounds_toArray, List.set_cons_zero, List.set_cons_succ]
      refine wpAnyH_take (i := 17) (v := .agg csa) rfl (by kernel_rfl) (by kernel_rfl) (by kernel_rfl) (fun _ _ _ h => h) (Or.inl ⟨by rfl, fun w' hw' => ?yT17⟩) HH.out ?_
      case yT17 => exact exec_load 27 (.tmp 2) rfl rfl (Blk.below Xa.out hw') Try.underlying27 rfl HIa.out
      try simp only [List.getElem_toArray, List.getElem_cons_succ, List.getElem_cons_zero, Act.put, List.setIfInBounds_toArray, List.set_cons_zero, List.set_cons_succ]
      refine wpAnyH_take (i := 18) (v := .agg csa) rfl (by kernel_rfl) (by kernel_rfl) (by kernel_rfl) (fun _ _ _ h => h) (Or.inl ⟨by rfl, fun w' hw' => ?yT18⟩) HH.out ?_
      case yT18 => exact exec_load 27 (.tmp 2) rfl rfl (Blk.below Xa.out hw') Try.underlying27 rfl HIa.out
      try simp only [List.getElem_toArray, List.getElem_cons_succ, List.getElem_cons_zero, Act.put, List.setIfInBounds_toArray, List.set_cons_zero, List.set_cons_succ]
      refine wpAnyH_ready (rs := [19]) (by kernel_rfl) (by simp) (AllReadyH.cons rfl (fun K hK => ?_) AllReadyH.nil)
      go_simp
      refine (HS11.out _ HH.out).mono ?_
      rintro e wT19 ⟨rfl, bw⟩
      have hb := HH.out.trans (bw.mono HH.out.size)
      go_simp
      refine hK.out _ _ hb (fun hh => ?_)
      have HH' := Lib.hid hh
      clear hh hK K HH bw
      have HH := Lib.hid HH'.out
      clear HH'
      try simp only [List.getElem_toArray, List.getElem_cons_succ, List.getElem_cons_zero, Act.put, List.setIfInBounds_toArray, List.set_cons_zero, List.set_cons_succ]
      refine wpAnyH_take (i := 20) (v := ?vT20) rfl (by kernel_rfl) (by kernel_rfl) (by kernel_rfl) (fun _ _ _ h => h) (Or.inl ⟨by rfl, fun w' _ => ?yT20⟩) HH.out ?_
      case yT20 => (go_simp; try with_reducible rfl)
      refine wpAnyH_take (i := 21) (v := ?vT21) rfl (by kernel_rfl) (by kernel_rfl) (by kernel_rfl) (fun _ _ _ h => h) (Or.inl ⟨by rfl, fun w' _ => ?yT21⟩) HH.out ?_
      case yT21 => (go_simp; try with_reducible rfl)
      try simp only [List.getElem_toArray, List.getElem_cons_succ, List.getElem_cons_zero, Act.put, List.setIfInBounds_toArray, List.set_cons_zero, List.set_cons_succ]
      refine wpAnyH_done (by kernel_rfl) ?_ _
      have B' := Lib.hid HH.out
      clear B HH
      have B := Lib.hid B'.out
      clear B'
      go_wp2_with (first
        | (refine wpList_load_row rfl 27 (.tmp 2) rfl (w.heap.size) rfl 27 csa (0, 0) _ (Blk.below Xa.out B.out) Try.underlying27 rfl HIa.out ?_))
      refine (HENa.out _ B.out).mono ?_
      rintro e w2 ⟨AQa, nQa, cQa, rfl, ho, bw⟩
      have B' := Lib.hid (B.out.trans (bw.mono B.out.size))
      have Qa := Lib.hid (own_more ho B.out.size)
      clear ho bw B 
      have B := Lib.hid B'.out
      clear B' 
      have LQa := Lib.hid (show nQa = (encX xa).length from (own_blen Qa.out).symm)
      go_wp2_with (first
        | (refine wpList_load_row rfl 27 (.tmp 3) rfl (w.heap.size + 1) rfl 27 csb (0, 0) _ (Blk.below Xb.out B.out) Try.underlying27 rfl HIb.out ?_))
      refine (HENb.out _ B.out).mono ?_
      rintro e w3 ⟨AQb, nQb, cQb, rfl, ho, bw⟩
      have B' := Lib.hid (B.out.trans (bw.mono B.out.size))
      have Qa' := Lib.hid (own_below Qa.out bw)
      have Qb := Lib.hid (own_more ho B.out.size)
      clear ho bw B Qa
      have B := Lib.hid B'.out
      have Qa := Lib.hid Qa'.out
      clear B' Qa'
      have LQb := Lib.hid (show nQb = (encX xb).length from (own_blen Qb.out).symm)
      by_cases oka : okCl xa
      ·
        by_cases okb : okCl xb
        ·
          rw [show errX xa = 0 from if_pos oka, show errX xb = 0 from if_pos okb]
          have ha := Qa.out
          rw [show encX xa = encCl xa from if_pos oka] at ha
          have hb := Qb.out
          rw [show encX xb = encCl xb from if_pos okb] at hb
          have LA := Lib.hid (own_blen ha)
          have LB := Lib.hid (own_blen hb)
          obtain ⟨Za, hZa⟩ : ∃ Z : ByteArray, Z = ⟨(encCl xa).toArray⟩ := ⟨_, rfl⟩
          obtain ⟨Zb, hZb⟩ : ∃ Z : ByteArray, Z = ⟨(encCl xb).toArray⟩ := ⟨_, rfl⟩
          have hss : (Za.toList == Zb.toList) = true := by
            rw [str_same hZa hZb, HQ.out]
            exact decide_iff ⟨fun e => encCl_inj oka okb e, fun e => by rw [e]⟩
          have HSS := Lib.hid hss
          have HZa := Lib.hid hZa
          have HZb := Lib.hid hZb
          obtain ⟨WQ, hWQ⟩ : ∃ W, W = w3 := ⟨_, rfl⟩
          have RA := Lib.hid (show Rd WQ.heap.size w3 AQa (bv (encCl xa)) from by rw [hWQ]; exact Rd.own ha)
          have RB := Lib.hid (show Rd WQ.heap.size w3 AQb (bv (encCl xb)) from by rw [hWQ]; exact Rd.own hb)
          have EQ := Lib.hid hWQ
          clear hWQ hZa hZb hss ha hb oka okb
          go_upto_region 9 with fail
          refine wp_region_held_drew (S := (fun w' => Below w0.heap.size w0 w' ∧ Rd WQ.heap.size w' AQa (bv (encCl xa)) ∧ Rd WQ.heap.size w' AQb (bv (encCl xb)))) (by kernel_rfl) ⟨B.out.drew, RA.out.drewN 1, RB.out.drewN 1⟩ (fun hh => ?_)
          have HH := Lib.hid hh
          clear hh
          refine wpAnyH_take (i := 0) (v := ?vTz0) rfl (by kernel_rfl) (by kernel_rfl) (by kernel_rfl) (fun _ _ _ h => h) (Or.inl ⟨by rfl, fun w' _ => ?yTz0⟩) HH.out ?_
          case yTz0 => (go_simp; try with_reducible rfl)
          refine wpAnyH_take (i := 1) (v := ?vTz1) rfl (by kernel_rfl) (by kernel_rfl) (by kernel_rfl) (fun _ _ _ h => h) (Or.inl ⟨by rfl, fun w' _ => ?yTz1⟩) HH.out ?_
          case yTz1 => (go_simp; try with_reducible rfl)
          try simp only [List.getElem_toArray, List.getElem_cons_succ, List.getElem_cons_zero, Act.put, List.setIfInBounds_toArray, List.set_cons_zero, List.set_cons_succ]
          refine wpAnyH_take (i := 2) (v := ?vTz2) rfl (by kernel_rfl) (by kernel_rfl) (by kernel_rfl) (fun _ _ _ h => h) (Or.inl ⟨by rfl, fun w' _ => ?yTz2⟩) HH.out ?_
          case yTz2 => (go_simp; try with_reducible rfl)
          try simp only [List.getElem_toArray, List.getElem_cons_succ, List.getElem_cons_zero, Act.put, List.setIfInBounds_toArray, List.set_cons_zero, List.set_cons_succ]
          refine wpAnyH_take (i := 3) (v := ?vTz3) rfl (by kernel_rfl) (by kernel_rfl) (by kernel_rfl) (fun _ _ _ h => h) (Or.inl ⟨by rfl, fun w' _ => ?yTz3⟩) HH.out ?_
          case yTz3 => (go_simp; try with_reducible rfl)
          try simp only [List.getElem_toArray, List.getElem_cons_succ, List.getElem_cons_zero, Act.put, List.setIfInBounds_toArray, List.set_cons_zero, List.set_cons_succ]
          refine wpAnyH_take (i := 4) (v := ?vTz4) rfl (by kernel_rfl) (by kernel_rfl) (by kernel_rfl) (fun _ _ _ h => h) (Or.inl ⟨by rfl, fun w' _ => ?yTz4⟩) HH.out ?_
          case yTz4 => (go_simp; try with_reducible rfl)
          try simp only [List.getElem_toArray, List.getElem_cons_succ, List.getElem_cons_zero, Act.put, List.setIfInBounds_toArray, List.set_cons_zero, List.set_cons_succ]
          refine wpAnyH_take (i := 5) (v := ?vTz5) rfl (by kernel_rfl) (by kernel_rfl) (by kernel_rfl) (fun _ _ _ h => h) (Or.inl ⟨by rfl, fun w' _ => ?yTz5⟩) HH.out ?_
          case yTz5 => (go_simp; try with_reducible rfl)
          refine wpAnyH_take (i := 6) (v := ?vTz6) rfl (by kernel_rfl) (by kernel_rfl) (by kernel_rfl) (fun _ _ _ h => h) (Or.inl ⟨by rfl, fun w' _ => ?yTz6⟩) HH.out ?_
          case yTz6 => (go_simp; try with_reducible rfl)
          try simp only [List.getElem_toArray, List.getElem_cons_succ, List.getElem_cons_zero, Act.put, List.setIfInBounds_toArray, List.set_cons_zero, List.set_cons_succ]
          refine wpAnyH_take (i := 7) (v := ?vTz7) rfl (by kernel_rfl) (by kernel_rfl) (by kernel_rfl) (fun _ _ _ h => h) (Or.inl ⟨by rfl, fun w' _ => ?yTz7⟩) HH.out ?_
          case yTz7 => (go_simp; try with_reducible rfl)
          try simp only [List.getElem_toArray, List.getElem_cons_succ, List.getElem_cons_zero, Act.put, List.setIfInBounds_toArray, List.set_cons_zero, List.set_cons_succ]
          try simp only [List.getElem_toArray, List.getElem_cons_succ, List.getElem_cons_zero, Act.put, List.setIfInBounds_toArray, List.set_cons_zero, List.set_cons_succ]
          refine wpAnyH_take (i := 8) (v := .string Za) rfl (by kernel_rfl) (by kernel_rfl) (by kernel_rfl) (fun _ _ _ h => h) (Or.inl ⟨by rfl, fun w' hw' => ?yTz8⟩) HH.out ?_
          case yTz8 => (have kc := conv_rd (c := cQa) Try.underlying25 Try.underlying5 Try.underlying9 hw'.2.1 LA.out; rw [← HZa.out] at kc; go_simp; try with_reducible rfl)
          try simp only [List.getElem_toArray, List.getElem_cons_succ, List.getElem_cons_zero, Act.put, List.setIfInBounds_toArray, List.set_cons_zero, List.set_cons_succ]
          refine wpAnyH_take (i := 9) (v := ?vTz9) rfl (by kernel_rfl) (by kernel_rfl) (by kernel_rfl) (fun _ _ _ h => h) (Or.inl ⟨by rfl, fun w' _ => ?yTz9⟩) HH.out ?_
          case yTz9 => (go_simp; try with_reducible rfl)
          try simp only [List.getElem_toArray, List.getElem_cons_succ, List.getElem_cons_zero, Act.put, List.setIfInBounds_toArray, List.set_cons_zero, List.set_cons_succ]
          refine wpAnyH_take (i := 10) (v := .string Zb) rfl (by kernel_rfl) (by kernel_rfl) (by kernel_rfl) (fun _ _ _ h => h) (Or.inl ⟨by rfl, fun w' hw' => ?yTz10⟩) HH.out ?_
          case yTz10 => (have kc := conv_rd (c := cQb) Try.underlying25 Try.underlying5 Try.underlying9 hw'.2.2 LB.out; rw [← HZb.out] at kc; go_simp; try with_reducible rfl)
          try simp only [List.getElem_toArray, List.getElem_cons_succ, List.getElem_cons_zero, Act.put, List.setIfInBounds_toArray, List.set_cons_zero, List.set_cons_succ]
          try simp only [List.getElem_toArray, List.getElem_cons_succ, List.getElem_cons_zero, Act.put, List.setIfInBounds_toArray, List.set_cons_zero, List.set_cons_succ]
          refine wpAnyH_take (i := 11) (v := .bool true) rfl (by kernel_rfl) (by kernel_rfl) (by kernel_rfl) (fun _ _ _ h => h) (Or.inl ⟨by rfl, fun w' hw' => ?yTz11⟩) HH.out ?_
          case yTz11 => (go_simp; simpa using HSS.out)
          try simp only [List.getElem_toArray, List.getElem_cons_succ, List.getElem_cons_zero, Act.put, List.setIfInBounds_toArray, List.set_cons_zero, List.set_cons_succ]
          refine wpAnyH_take (i := 12) (v := .agg csa) rfl (by kernel_rfl) (by kernel_rfl) (by kernel_rfl) (fun _ _ _ h => h) (Or.inl ⟨by rfl, fun w' hw' => ?yTz12⟩) HH.out ?_
          case yTz12 => exact exec_load 27 (.tmp 2) rfl rfl (Blk.below Xa.out hw'.1) Try.underlying27 rfl HIa.out
          try simp only [List.getElem_toArray, List.getElem_cons_succ, List.getElem_cons_zero, Act.put, List.setIfInBounds_toArray, List.set_cons_zero, List.set_cons_succ]
          refine wpAnyH_take (i := 13) (v := .agg csb) rfl (by kernel_rfl) (by kernel_rfl) (by kernel_rfl) (fun _ _ _ h => h) (Or.inl ⟨by rfl, fun w' hw' => ?yTz13⟩) HH.out ?_
          case yTz13 => exact exec_load 27 (.tmp 3) rfl rfl (Blk.below Xb.out hw'.1) Try.underlying27 rfl HIb.out
          try simp only [List.getElem_toArray, List.getElem_cons_succ, List.getElem_cons_zero, Act.put, List.setIfInBounds_toArray, List.set_cons_zero, List.set_cons_succ]
          refine wpAnyH_ready (rs := [14]) (by kernel_rfl) (by simp) (AllReadyH.cons rfl (fun K hK => ?_) AllReadyH.nil)
          go_simp
          refine (HS12.out _ HH.out.1).mono ?_
          rintro e wTz ⟨rfl, bw⟩
          have hb := HH.out.1.trans (bw.mono HH.out.1.size)
          have r1 := Rd.below HH.out.2.1 (bw.mono (by rw [EQ.out]; exact Nat.le_refl _))
          have r2 := Rd.below HH.out.2.2 (bw.mono (by rw [EQ.out]; exact Nat.le_refl _))
          go_simp
          refine hK.out _ _ ⟨hb, r1, r2⟩ (fun hh => ?_)
          have HH' := Lib.hid hh
          clear hh hK K HH bw
          have HH := Lib.hid HH'.out
          clear HH'
          try simp only [List.getElem_toArray, List.getElem_cons_succ, List.getElem_cons_zero, Act.put, List.setIfInBounds_toArray, List.set_cons_zero, List.set_cons_succ]
          refine wpAnyH_take (i := 15) (v := ?vTz15) rfl (by kernel_rfl) (by kernel_rfl) (by kernel_rfl) (fun _ _ _ h => h) (Or.inl ⟨by rfl, fun w' _ => ?yTz15⟩) HH.out ?_
          case yTz15 => (go_simp; try with_reducible rfl)
          refine wpAnyH_take (i := 16) (v := ?vTz16) rfl (by kernel_rfl) (by kernel_rfl) (by kernel_rfl) (fun _ _ _ h => h) (Or.inl ⟨by rfl, fun w' _ => ?yTz16⟩) HH.out ?_
          case yTz16 => (go_simp; try with_reducible rfl)
          try simp only [List.getElem_toArray, List.getElem_cons_succ, List.getElem_cons_zero, Act.put, List.setIfInBounds_toArray, List.set_cons_zero, List.set_cons_succ]
          refine wpAnyH_take (i := 17) (v := ?vTz17) rfl (by kernel_rfl) (by kernel_rfl) (by kernel_rfl) (fun _ _ _ h => h) (Or.inl ⟨by rfl, fun w' _ => ?yTz17⟩) HH.out ?_
          case yTz17 => (go_simp; try with_reducible rfl)
          try simp only [List.getElem_toArray, List.getElem_cons_succ, List.getElem_cons_zero, Act.put, List.setIfInBounds_toArray, List.set_cons_zero, List.set_cons_succ]
          refine wpAnyH_done (by kernel_rfl) ?_ _
          go_wp2_with fail
          go_ret
          exact ⟨rfl, BW.out.trans (HH.out.1.mono BW.out.size)⟩
        ·
          rw [show errX xa = 0 from if_pos oka, show errX xb = 3 from if_neg okb]
          clear oka okb
          go_upto_region 9 with fail
          refine wp_region_held_drew (S := (fun w' => Below w0.heap.size w0 w')) (by kernel_rfl) B.out.drew (fun hh => ?_)
          have HH := Lib.hid hh
          clear hh
          refine wpAnyH_take (i := 0) (v := ?vTy0) rfl (by kernel_rfl) (by kernel_rfl) (by kernel_rfl) (fun _ _ _ h => h) (Or.inl ⟨by rfl, fun w' _ => ?yTy0⟩) HH.out ?_
          case yTy0 => (go_simp; try with_reducible rfl)
          refine wpAnyH_take (i := 1) (v := ?vTy1) rfl (by kernel_rfl) (by kernel_rfl) (by kernel_rfl) (fun _ _ _ h => h) (Or.inl ⟨by rfl, fun w' _ => ?yTy1⟩) HH.out ?_
          case yTy1 => (go_simp; try with_reducible rfl)
          try simp only [List.getElem_toArray, List.getElem_cons_succ, List.getElem_cons_zero, Act.put, List.setIfInBounds_toArray, List.set_cons_zero, List.set_cons_succ]
          refine wpAnyH_take (i := 2) (v := ?vTy2) rfl (by kernel_rfl) (by kernel_rfl) (by kernel_rfl) (fun _ _ _ h => h) (Or.inl ⟨by rfl, fun w' _ => ?yTy2⟩) HH.out ?_
          case yTy2 => (go_simp; try with_reducible rfl)
          try simp only [List.getElem_toArray, List.getElem_cons_succ, List.getElem_cons_zero, Act.put, List.setIfInBounds_toArray, List.set_cons_zero, List.set_cons_succ]
          refine wpAnyH_take (i := 3) (v := ?vTy3) rfl (by kernel_rfl) (by kernel_rfl) (by kernel_rfl) (fun _ _ _ h => h) (Or.inl ⟨by rfl, fun w' _ => ?yTy3⟩) HH.out ?_
          case yTy3 => (go_simp; try with_reducible rfl)
          try simp only [List.getElem_toArray, List.getElem_cons_succ, List.getElem_cons_zero, Act.put, List.setIfInBounds_toArray, List.set_cons_zero, List.set_cons_succ]
          refine wpAnyH_take (i := 4) (v := ?vTy4) rfl (by kernel_rfl) (by kernel_rfl) (by kernel_rfl) (fun _ _ _ h => h) (Or.inl ⟨by rfl, fun w' _ => ?yTy4⟩) HH.out ?_
          case yTy4 => (go_simp; try with_reducible rfl)
          try simp only [List.getElem_toArray, List.getElem_cons_succ, List.getElem_cons_zero, Act.put, List.setIfInBounds_toArray, List.set_cons_zero, List.set_cons_succ]
          refine wpAnyH_take (i := 5) (v := ?vTy5) rfl (by kernel_rfl) (by kernel_rfl) (by kernel_rfl) (fun _ _ _ h => h) (Or.inl ⟨by rfl, fun w' _ => ?yTy5⟩) HH.out ?_
          case yTy5 => (go_simp; try with_reducible rfl)
          refine wpAnyH_take (i := 6) (v := ?vTy6) rfl (by kernel_rfl) (by kernel_rfl) (by kernel_rfl) (fun _ _ _ h => h) (Or.inl ⟨by rfl, fun w' _ => ?yTy6⟩) HH.out ?_
          case yTy6 => (go_simp; try with_reducible rfl)
          refine wpAnyH_take (i := 7) (v := undef) rfl (by kernel_rfl) (by kernel_rfl) (by kernel_rfl) (fun _ _ _ h => h) (Or.inr ⟨by rfl, rfl⟩) HH.out ?_
          try simp only [List.getElem_toArray, List.getElem_cons_succ, List.getElem_cons_zero, Act.put, List.setIfInBounds_toArray, List.set_cons_zero, List.set_cons_succ]
          refine wpAnyH_take (i := 8) (v := undef) rfl (by kernel_rfl) (by kernel_rfl) (by kernel_rfl) (fun _ _ _ h => h) (Or.inr ⟨by rfl, rfl⟩) HH.out ?_
          refine wpAnyH_take (i := 9) (v := undef) rfl (by kernel_rfl) (by kernel_rfl) (by kernel_rfl) (fun _ _ _ h => h) (Or.inr ⟨by rfl, rfl⟩) HH.out ?_
          refine wpAnyH_take (i := 10) (v := undef) rfl (by kernel_rfl) (by kernel_rfl) (by kernel_rfl) (fun _ _ _ h => h) (Or.inr ⟨by rfl, rfl⟩) HH.out ?_
          try simp only [List.getElem_toArray, List.getElem_cons_succ, List.getElem_cons_zero, Act.put, List.setIfInBounds_toArray, List.set_cons_zero, List.set_cons_succ]
          refine wpAnyH_take (i := 11) (v := undef) rfl (by kernel_rfl) (by kernel_rfl) (by kernel_rfl) (fun _ _ _ h => h) (Or.inr ⟨by rfl, rfl⟩) HH.out ?_
          refine wpAnyH_take (i := 12) (v := undef) rfl (by kernel_rfl) (by kernel_rfl) (by kernel_rfl) (fun _ _ _ h => h) (Or.inr ⟨by rfl, rfl⟩) HH.out ?_
          refine wpAnyH_take (i := 13) (v := undef) rfl (by kernel_rfl) (by kernel_rfl) (by kernel_rfl) (fun _ _ _ h => h) (Or.inr ⟨by rfl, rfl⟩) HH.out ?_
          try simp only [List.getElem_toArray, List.getElem_cons_succ, List.getElem_cons_zero, Act.put, List.setIfInBounds_toArray, List.set_cons_zero, List.set_cons_succ]
          refine wpAnyH_take (i := 14) (v := undef) rfl (by kernel_rfl) (by kernel_rfl) (by kernel_rfl) (fun _ _ _ h => h) (Or.inr ⟨by rfl, rfl⟩) HH.out ?_
          refine wpAnyH_take (i := 15) (v := undef) rfl (by kernel_rfl) (by kernel_rfl) (by kernel_rfl) (fun _ _ _ h => h) (Or.inr ⟨by rfl, rfl⟩) HH.out ?_
          refine wpAnyH_take (i := 16) (v := ?vTy16) rfl (by kernel_rfl) (by kernel_rfl) (by kernel_rfl) (fun _ _ _ h => h) (Or.inl ⟨by rfl, fun w' _ => ?yTy16⟩) HH.out ?_
          case yTy16 => (go_simp; try with_reducible rfl)
          try simp only [List.getElem_toArray, List.getElem_cons_succ, List.getElem_cons_zero, Act.put, List.setIfInBounds_toArray, List.set_cons_zero, List.set_cons_succ]
          refine wpAnyH_take (i := 17) (v := ?vTy17) rfl (by kernel_rfl) (by kernel_rfl) (by kernel_rfl) (fun _ _ _ h => h) (Or.inl ⟨by rfl, fun w' _ => ?yTy17⟩) HH.out ?_
          case yTy17 => (go_simp; try with_reducible rfl)
          try simp only [List.getElem_toArray, List.getElem_cons_succ, List.getElem_cons_zero, Act.put, List.setIfInBounds_toArray, List.set_cons_zero, List.set_cons_succ]
          refine wpAnyH_done (by kernel_rfl) ?_ _
          go_wp2_with fail
          go_ret
          exact ⟨rfl, BW.out.trans (HH.out.mono BW.out.size)⟩
      ·
        rw [show errX xa = 3 from if_neg oka]
        clear oka
        obtain ⟨eb, heb⟩ : ∃ e, e = errX xb := ⟨_, rfl⟩
        rw [← heb]
        clear heb
        go_upto_region 9 with fail
        refine wp_region_held_drew (S := (fun w' => Below w0.heap.size w0 w')) (by kernel_rfl) B.out.drew (fun hh => ?_)
        have HH := Lib.hid hh
        clear hh
        refine wpAnyH_take (i := 0) (v := ?vTx0) rfl (by kernel_rfl) (by kernel_rfl) (by kernel_rfl) (fun _ _ _ h => h) (Or.inl ⟨by rfl, fun w' _ => ?yTx0⟩) HH.out ?_
        case yTx0 => (go_simp; try with_reducible rfl)
        refine wpAnyH_take (i := 1) (v := ?vTx1) rfl (by kernel_rfl) (by kernel_rfl) (by kernel_rfl) (fun _ _ _ h => h) (Or.inl ⟨by rfl, fun w' _ => ?yTx1⟩) HH.out ?_
        case yTx1 => (go_simp; try with_reducible rfl)
        try simp only [List.getElem_toArray, List.getElem_cons_succ, List.getElem_cons_zero, Act.put, List.setIfInBounds_toArray, List.set_cons_zero, List.set_cons_succ]
        refine wpAnyH_take (i := 2) (v := ?vTx2) rfl (by kernel_rfl) (by kernel_rfl) (by kernel_rfl) (fun _ _ _ h => h) (Or.inl ⟨by rfl, fun w' _ => ?yTx2⟩) HH.out ?_
        case yTx2 => (go_simp; try with_reducible rfl)
        refine wpAnyH_take (i := 3) (v := undef) rfl (by kernel_rfl) (by kernel_rfl) (by kernel_rfl) (fun _ _ _ h => h) (Or.inr ⟨by rfl, rfl⟩) HH.out ?_
        refine wpAnyH_take (i := 4) (v := undef) rfl (by kernel_rfl) (by kernel_rfl) (by kernel_rfl) (fun _ _ _ h => h) (Or.inr ⟨by rfl, rfl⟩) HH.out ?_
        try simp only [List.getElem_toArray, List.getElem_cons_succ, List.getElem_cons_zero, Act.put, List.setIfInBounds_toArray, List.set_cons_zero, List.set_cons_succ]
        refine wpAnyH_take (i := 5) (v := ?vTx5) rfl (by kernel_rfl) (by kernel_rfl) (by kernel_rfl) (fun _ _ _ h => h) (Or.inl ⟨by rfl, fun w' _ => ?yTx5⟩) HH.out ?_
        case yTx5 => (go_simp; try with_reducible rfl)
        refine wpAnyH_take (i := 6) (v := ?vTx6) rfl (by kernel_rfl) (by kernel_rfl) (by kernel_rfl) (fun _ _ _ h => h) (Or.inl ⟨by rfl, fun w' _ => ?yTx6⟩) HH.out ?_
        case yTx6 => (go_simp; try with_reducible rfl)
        refine wpAnyH_take (i := 7) (v := undef) rfl (by kernel_rfl) (by kernel_rfl) (by kernel_rfl) (fun _ _ _ h => h) (Or.inr ⟨by rfl, rfl⟩) HH.out ?_
        try simp only [List.getElem_toArray, List.getElem_cons_succ, List.getElem_cons_zero, Act.put, List.setIfInBounds_toArray, List.set_cons_zero, List.set_cons_succ]
        refine wpAnyH_take (i := 8) (v := undef) rfl (by kernel_rfl) (by kernel_rfl) (by kernel_rfl) (fun _ _ _ h => h) (Or.inr ⟨by rfl, rfl⟩) HH.out ?_
        refine wpAnyH_take (i := 9) (v := undef) rfl (by kernel_rfl) (by kernel_rfl) (by kernel_rfl) (fun _ _ _ h => h) (Or.inr ⟨by rfl, rfl⟩) HH.out ?_
        refine wpAnyH_take (i := 10) (v := undef) rfl (by kernel_rfl) (by kernel_rfl) (by kernel_rfl) (fun _ _ _ h => h) (Or.inr ⟨by rfl, rfl⟩) HH.out ?_
        try simp only [List.getElem_toArray, List.getElem_cons_succ, List.getElem_cons_zero, Act.put, List.setIfInBounds_toArray, List.set_cons_zero, List.set_cons_succ]
        refine wpAnyH_take (i := 11) (v := undef) rfl (by kernel_rfl) (by kernel_rfl) (by kernel_rfl) (fun _ _ _ h => h) (Or.inr ⟨by rfl, rfl⟩) HH.out ?_
        refine wpAnyH_take (i := 12) (v := undef) rfl (by kernel_rfl) (by kernel_rfl) (by kernel_rfl) (fun _ _ _ h => h) (Or.inr ⟨by rfl, rfl⟩) HH.out ?_
        refine wpAnyH_take (i := 13) (v := undef) rfl (by kernel_rfl) (by kernel_rfl) (by kernel_rfl) (fun _ _ _ h => h) (Or.inr ⟨by rfl, rfl⟩) HH.out ?_
        try simp only [List.getElem_toArray, List.getElem_cons_succ, List.getElem_cons_zero, Act.put, List.setIfInBounds_toArray, List.set_cons_zero, List.set_cons_succ]
        refine wpAnyH_take (i := 14) (v := undef) rfl (by kernel_rfl) (by kernel_rfl) (by kernel_rfl) (fun _ _ _ h => h) (Or.inr ⟨by rfl, rfl⟩) HH.out ?_
        refine wpAnyH_take (i := 15) (v := undef) rfl (by kernel_rfl) (by kernel_rfl) (by kernel_rfl) (fun _ _ _ h => h) (Or.inr ⟨by rfl, rfl⟩) HH.out ?_
        refine wpAnyH_take (i := 16) (v := ?vTx16) rfl (by kernel_rfl) (by kernel_rfl) (by kernel_rfl) (fun _ _ _ h => h) (Or.inl ⟨by rfl, fun w' _ => ?yTx16⟩) HH.out ?_
        case yTx16 => (go_simp; try with_reducible rfl)
        try simp only [List.getElem_toArray, List.getElem_cons_succ, List.getElem_cons_zero, Act.put, List.setIfInBounds_toArray, List.set_cons_zero, List.set_cons_succ]
        refine wpAnyH_take (i := 17) (v := ?vTx17) rfl (by kernel_rfl) (by kernel_rfl) (by kernel_rfl) (fun _ _ _ h => h) (Or.inl ⟨by rfl, fun w' _ => ?yTx17⟩) HH.out ?_
        case yTx17 => (go_simp; try with_reducible rfl)
        try simp only [List.getElem_toArray, List.getElem_cons_succ, List.getElem_cons_zero, Act.put, List.setIfInBounds_toArray, List.set_cons_zero, List.set_cons_succ]
        refine wpAnyH_done (by kernel_rfl) ?_ _
        go_wp2_with fail
        go_ret
        exact ⟨rfl, BW.out.trans (HH.out.mono BW.out.size)⟩
theorem cellSame_own : ownKnob Try.prog.godebug = none := by kernel_rfl
theorem cellSame_laid : laidOutB Try.prog = true := by kernel_rfl

set_option maxRecDepth 100000 in
theorem cellSame_lifted (os : Os) (started : os.Started) (H : Type) (enc : TypeId × Value → H) :
    ReturnsInHanded {} Try.checked os 8 .any (Rows.cellSameSpec.pre6 enc Try.prog Try.f8 Rows.cellSameRow.domain false) (Rows.cellSameSpec.post enc Try.prog Try.f8 false true false false) := by
  refine returnsInHanded_of_change (C := Try.checked) cellSame_own started (by kernel_rfl) Try.func8
    (ChangeSpec.witness6 (enc := enc) (C := Try.checked) false ⟨#[], #[.agg #[.int .i64 0, .int .u64 0, .int .i64 0, .int .i64 0, .int .i64 0, .int .i64 0, .int .u64 0, .int .i64 0, .int .i64 0, .int .i64 0, .slice none 0 0], .agg #[.int .i64 0, .int .u64 0, .int .i64 0, .int .i64 0, .int .i64 0, .int .i64 0, .int .u64 0, .int .i64 0, .int .i64 0, .int .i64 0, .slice none 0 0]], []⟩ 8 (by kernel_rfl) (by kernel_rfl) (by kernel_rfl) (by kernel_rfl)) ?_
  intro W base args ds gs before hval0 hW _ _
  have hval : ∀ (j : Nat) t v, Try.f8.params[j]? = some t → args[j]? = some v → Value.okWide Try.prog W .any base t v := hval0
  have hW' := hW
  obtain ⟨p, q, hA0, hV, rfl, hfz, hnd⟩ := hW
  have hA : DataW.TrodAll enc Try.prog W 0 (fun _ => true) true Try.f8.params.toList args.toList ds p := hA0
  rw [Try.params8] at hA hval
  obtain ⟨v0, vs0, d0, ds0, p0, q0, hargs, rfl, rfl, h0, r0⟩ := trodAll_cons hA
  obtain ⟨v1, vs1, d1, ds1, p1, q1, rfl, rfl, rfl, h1, r1⟩ := trodAll_cons r0
  obtain ⟨rfl, rfl, rfl⟩ := trodAll_nil r1
  obtain rfl : args = #[v0, v1] := by cases args; simp_all
  obtain ⟨rfl, rfl⟩ := trodVars_none hV
  have lt0 : ∀ x ∈ p0, x.block < W.heap.size := by obtain ⟨m, hm⟩ := h0; exact DataW.trod_lt m _ _ _ hm
  obtain ⟨y0, a0, c0, rfl, hb0, hc0, hm0, hr0⟩ := Ce.open_cellA (hval 0 27 v0 rfl rfl) h0
  have lt1 : ∀ x ∈ p1, x.block < W.heap.size := by obtain ⟨m, hm⟩ := h1; exact DataW.trod_lt m _ _ _ hm
  obtain ⟨y1, a1, c1, rfl, hb1, hc1, hm1, hr1⟩ := Ce.open_cellA (hval 1 27 v1 rfl rfl) h1
  clear hA0 hval0
  refine (cellSame_any W y0 a0 c0 hb0 hc0 hm0 hr0 y1 a1 c1 hb1 hc1 hm1 hr1).mono fun e W' ⟨he, bel⟩ => ?_
  subst he
  exact ⟨_, rfl, _, _, _, [], _, [], hW', trodAll_mk1 (shut_bool Try.underlying4 _), (trodAll_cons_mk (Below.trod cellSame_laid (by kernel_rfl) (of_decide_eq_true (by kernel_rfl)) h0 bel lt0) (trodAll_cons_mk (Below.trod cellSame_laid (by kernel_rfl) (of_decide_eq_true (by kernel_rfl)) h1 bel lt1) trodAll_mk0)), rfl, bel.frame _, fun h => by cases h⟩

theorem cellSame_holds : Rows.CellSameSaid :=
  OpenClaim.holds_of_wide 8 Try.f8 rfl rfl rfl rfl rfl rfl rfl ⟨rfl, rfl, rfl, rfl, rfl⟩ rfl rfl rfl rfl rfl (by kernel_rfl) Try.func8 (by kernel_rfl)
    (of_decide_eq_true (by kernel_rfl)) (by unfold Func.isWrapper; rw [if_neg (of_decide_eq_false (by kernel_rfl))]; exact ⟨rfl, rfl⟩)
    (fun os started H enc _ => cellSame_lifted os started H enc)

#print axioms cellSame_holds

end Go.Proofs.Ytjcmmeppadhjiaa
