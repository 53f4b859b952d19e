/-
  CellBytes holds: of any bytes the law returns true, and its argument reads as it did.
-/
import Derived.Test.YtjcmmeppadhjiaaCa4
import Derived.Deep.Cut
import Derived.Deep.RegionHeld
import Derived.Test.YtjcmmeppadhjiaaRows
import Derived.ProofKit
import Derived.OpenShut
import Derived.ShutString
import Derived.ChangeOld
namespace Go.Proofs.Ytjcmmeppadhjiaa
open Go.RowKit Ce Go.ChangeShapes Go.WideShapes Go.ChangeAt
attribute [local go_sem ↓] Go.wp_at_zero Go.wp_at_succ
theorem dec_bad {l : List UInt8} {Y : Cl} {m k : Nat} (h : decCl l = (Y, m, k)) (hk : k ≠ 0) : Y = zeroCl := by
  unfold decCl at h
  split at h
  · split at h
    · injection h with h1 h2; injection h2 with h2 h3; omega
    · injection h with h1 h2; exact h1.symm
  · injection h with h1 h2; exact h1.symm
set_option maxRecDepth 100000 in
set_option maxHeartbeats 12800000 in
theorem cellBytes_any (w : World) (A : Option Addr) (n c : Nat) (l : List UInt8) (hn : l.length = n) (hc : n ≤ c) (hmax : c ≤ maxLen) (hr : Rd w.heap.size w A (bv l)) : Calls Try.prog 9 #[.slice A n c] w (RetB (.bool true) w) := by
  have hcap : n ≤ c ∧ c ≤ maxLen := ⟨hc, hmax⟩
  clear hc hmax
  obtain ⟨zc, hzc⟩ : ∃ z, z = clA zeroCl none 0 := ⟨_, rfl⟩
  have hzv : ∀ W, (zeroValue 27).run Try.prog W = .ok (.agg zc) W := fun _ => by rw [hzc]; kernel_rfl
  have HBZ := Lib.hid (show ∀ W, (Instr.build 27 #[]).run Try.prog W = .ok (.agg zc) W from fun _ => by rw [hzc]; kernel_rfl)
  obtain ⟨Y, hY⟩ : ∃ Y, Y = (decCl l).1 := ⟨_, rfl⟩
  obtain ⟨m, hm⟩ : ∃ m, m = (decCl l).2.1 := ⟨_, rfl⟩
  obtain ⟨k, hk⟩ : ∃ k, k = (decCl l).2.2 := ⟨_, rfl⟩
  obtain ⟨r, hr'⟩ : ∃ r, r = if k = 0 then l.drop m else [] := ⟨_, rfl⟩
  have HDE := Lib.hid (show n ≤ 300 → ∀ W, Below w.heap.size w W → Calls Try.prog 19 #[.slice A n c] W (RetDec Y r (k : Int) W) from fun hle W hW => by
    have h := decode_any A n c l W hn hcap (hr.below hW) hW.size (by omega)
    rw [← hY, ← hm, ← hk, ← hr'] at h; exact h)
  have HYtjcmmeppadhjiaa := Lib.hid hn
  have HCAP := Lib.hid hcap
  have HR := Lib.hid hr
  have HRR := Lib.hid hr'
  have HDD := Lib.hid (show decCl l = (Y, m, k) from by rw [hY, hm, hk])
  have HZC := Lib.hid hzc
  have B := Lib.hid (Below.refl w.heap.size w)
  clear hY hm hk hr' hzc hn hcap hr
  go_enter Try.func9, Try.ntmps9
  go_wp2_with fail
  refine (ceAwake_any _).mono ?_
  rintro e w1 ⟨rfl, bw⟩
  have B' := Lib.hid (B.out.trans (bw.mono B.out.size))
  clear bw B 
  have B := Lib.hid B'.out
  clear B' 
  by_cases hbig : 300 < n
  · have n1 : (300 : Int) < (n : Int) := by omega
    go_wp2_with fail
    go_ret
    exact ⟨rfl, B.out⟩
  have n1 : ¬ (300 : Int) < (n : Int) := by omega
  have hle : n ≤ 300 := by omega
  have HD' := Lib.hid (HDE.out hle)
  have HLE := Lib.hid hle
  clear hbig hle HDE
  go_wp2_with fail
  clear n1
  refine (HD'.out _ B.out).mono ?_
  rintro e w2 ⟨A1, c1, A2, c2, rfl, ho, hq, bw, hne⟩
  have R1 := Lib.hid (Rd.own ho)
  have R2 := Lib.hid (Rd.own hq)
  clear ho hq hne HD'
  have B' := Lib.hid (B.out.trans (bw.mono B.out.size))
  clear bw B
  have B := Lib.hid B'.out
  clear B'
  obtain ⟨csa, hcsa⟩ : ∃ cs, cs = clA Y A1 c1 := ⟨_, rfl⟩
  rw [← hcsa]
  have HIa := Lib.hid (show (Try.prog.info? 27).map (·.size) = some csa.size from by rw [hcsa]; kernel_rfl)
  have HOa := Lib.hid (show csa.all (·.oneCell') = true from by rw [hcsa]; simp [clA, Value.oneCell'])
  have HZa := Lib.hid (show zc.size = csa.size from by rw [HZC.out, hcsa]; rfl)
  have HCSa := Lib.hid hcsa
  clear hcsa
  go_upto_region 6 with (show wpList _ _ _ ({ dst := none, op := .store 27 (.tmp 3) (.tmp 16), type := _, pos := _, after := _, guard := _ } :: _) _ _; apply Classical.byContradiction; intro hneg)
  refine hneg ?_
  clear hneg
  refine wpList_store_row rfl 27 (.tmp 3) (.tmp 16) rfl w2.heap.size csa rfl rfl 27 zc (heap_alloc_new _ _) HIa.out HZa.out HOa.out ?_
  obtain ⟨w3, hw⟩ : ∃ v, v = (w2.alloc (.cells zc 27)).setRow w2.heap.size csa := ⟨_, rfl⟩
  obtain ⟨ga, hg⟩ : ∃ g, g = w2.heap.size := ⟨_, rfl⟩
  rw [← hw, ← hg]
  have bn : Below w2.heap.size w2 w3 := by rw [hw]; exact below_new (Below.refl _ _) (Nat.le_refl _)
  have Xa := Lib.hid (show Blk w3 ga csa 27 from by rw [hw, hg]; exact setRow_heap _ _ _ _ _ _ (heap_alloc_new _ _))
  have SB3 := Lib.hid bn.size
  have B' := Lib.hid (B.out.trans (bn.mono B.out.size))
  have R1' := Lib.hid (R1.out.below (bn.mono (Nat.le_refl _)))
  have R2' := Lib.hid (R2.out.below (bn.mono (Nat.le_refl _)))
  clear bn B R1 R2
  have B := Lib.hid B'.out
  clear B'
  have R1 := Lib.hid R1'.out
  clear R1'
  have R2 := Lib.hid R2'.out
  clear R2'
  clear hw hg
  have R1' := Lib.hid (R1.out.more SB3.out)
  have R2' := Lib.hid (R2.out.more SB3.out)
  clear R1 R2
  have R1 := Lib.hid R1'.out
  have R2 := Lib.hid R2'.out
  clear R1' R2'
  by_cases k0 : k = 0
  rotate_left
  ·
    have hrr := HRR.out
    rw [if_neg k0] at hrr
    subst hrr
    obtain rfl : Y = zeroCl := dec_bad HDD.out k0
    obtain ⟨kI, hkI⟩ : ∃ x : Int, x = (k : Int) := ⟨_, rfl⟩
    rw [← hkI]
    have k1 : (kI == 0) = false := by simp; omega
    have k2 : (kI != 0) = true := by simp; omega
    clear hkI k0
    simp only [List.length_nil]
    go_wp2_with (first
      | (refine wpList_load_row rfl 27 (.tmp 3) rfl ga rfl 27 csa (0, 0) _ Xa.out Try.underlying27 rfl HIa.out ?_)
      | (refine wpList_build rfl 27 #[] rfl (v := .agg zc) ?hbld ?_; case hbld => exact HBZ.out _))
    have hsame := same_any zeroCl zeroCl A1 none c1 0 w3 R1.out Rd.none (Nat.le_refl _)
    rw [← HCSa.out, ← HZC.out, decide_eq_true rfl] at hsame
    refine hsame.mono ?_
    rintro e w4 ⟨rfl, bw⟩
    clear hsame
    have B' := Lib.hid (B.out.trans (bw.mono B.out.size))
    clear bw B
    have B := Lib.hid B'.out
    clear B'
    go_wp2_with fail
    go_ret
    exact ⟨rfl, B.out⟩
  subst k0
  have hrr := HRR.out
  rw [if_pos rfl] at hrr
  obtain ⟨hok, hmn, hm0, hen⟩ := enc_dec HDD.out
  have HMN := Lib.hid (show m ≤ n from by rw [← HYtjcmmeppadhjiaa.out]; exact hmn)
  have LR := Lib.hid (show r.length = n - m from by rw [hrr, List.length_drop, HYtjcmmeppadhjiaa.out])
  have HRT := Lib.hid (show ∀ W, Calls Try.prog 15 #[.agg csa] W (RetB (.bool true) W) from fun W => by
    have h := right_any Y A1 c1 W
    rw [← HCSa.out, decide_eq_true hok] at h; exact h)
  have HEN := Lib.hid (show Calls Try.prog 18 #[.agg csa] w3 (RetRowE (bv (l.take m)) 0 w3) from by
    have h := encode_any Y A1 c1 w3 R1.out (Nat.le_refl _)
    rw [← HCSa.out, show encX Y = encCl Y from if_pos hok, show errX Y = 0 from if_pos hok, hen] at h; exact h)
  have HJ := Lib.hid (show l.take m ++ r = l from by rw [hrr, List.take_append_drop])
  have LT := Lib.hid (show (l.take m).length = m from by rw [List.length_take]; omega)
  clear hok hmn hm0 hen hrr R1
  go_wp2_with (refine wpList_load_row rfl 27 (.tmp 3) rfl ga rfl 27 csa (0, 0) _ Xa.out Try.underlying27 rfl HIa.out ?_)
  refine HEN.out.mono ?_
  rintro e w4 ⟨A3, n3, c3, rfl, ho, bw⟩
  obtain rfl : m = n3 := by have h1 := own_blen ho; have h2 := LT.out; omega
  have R3 := Lib.hid (Rd.own ho)
  have R2' := Lib.hid ((R2.out.below bw).more bw.size)
  clear R2 ho HEN
  have R2 := Lib.hid R2'.out
  clear R2'
  have B' := Lib.hid (B.out.trans (bw.mono B.out.size))
  have Xa' := Lib.hid (Blk.below Xa.out bw)
  clear bw B Xa
  have B := Lib.hid B'.out
  clear B'
  have Xa := Lib.hid Xa'.out
  clear Xa'
  go_upto_region 9 with fail
  obtain ⟨nr, hnr⟩ : ∃ x, x = r.length := ⟨_, rfl⟩
  rw [← hnr]
  have HNR := Lib.hid hnr
  clear hnr
  obtain ⟨Z, hZ⟩ : ∃ Z : ByteArray, Z = ⟨l.toArray⟩ := ⟨_, rfl⟩
  have HZ := Lib.hid hZ
  have HSS := Lib.hid (str_same hZ hZ)
  clear hZ
  have nsum : (m : Int) + (nr : Int) = (n : Int) := by have h1 := LR.out; have h2 := HNR.out; have h3 := HMN.out; omega
  have WS := Lib.hid (show IntKind.i64.wrap (n : Int) = (n : Int) from by exact IntWalk.i64_in _ (by have := HLE.out; omega))
  refine wp_region_held_drew (S := (fun w' => Below w4.heap.size w4 w')) (by kernel_rfl) (Below.refl w4.heap.size w4).drew (fun hh => ?_)
  have HH := Lib.hid hh
  clear hh
  try simp only [List.getElem_toArray, List.getElem_cons_succ, List.getElem_cons_zero, Act.put, List.setIfInBounds_toArray, List.set_cons_zero, List.set_cons_succ]
  refine wpAnyH_take (i := 0) (v := .agg csa) rfl (by kernel_rfl) (by kernel_rfl) (by kernel_rfl) (fun _ _ _ h => h) (Or.inl ⟨by rfl, fun w' hw' => ?yR0⟩) HH.out ?_
  case yR0 => exact exec_load 27 (.tmp 3) rfl rfl (Blk.below Xa.out hw') Try.underlying27 rfl HIa.out
  try simp only [List.getElem_toArray, List.getElem_cons_zero, Act.put, List.setIfInBounds_toArray, List.set_cons_zero, List.set_cons_succ]
  refine wpAnyH_ready (rs := [1]) (by kernel_rfl) (by simp) (AllReadyH.cons rfl (fun K hK => ?_) AllReadyH.nil)
  go_simp
  refine (HRT.out _).mono ?_
  rintro e w5 ⟨rfl, bw⟩
  have hb := HH.out.trans (bw.mono HH.out.size)
  go_simp
  refine hK.out _ _ hb (fun hh => ?_)
  have HH' := Lib.hid hh
  clear hh hK K HH bw
  have HH := Lib.hid HH'.out
  clear HH'
  try simp only [List.getElem_toArray, List.getElem_cons_succ, List.getElem_cons_zero, Act.put, List.setIfInBounds_toArray, List.set_cons_zero, List.set_cons_succ]
  refine wpAnyH_take (i := 2) (v := ?vR2) rfl (by kernel_rfl) (by kernel_rfl) (by kernel_rfl) (fun _ _ _ h => h) (Or.inl ⟨by rfl, fun w' _ => ?yR2⟩) HH.out ?_
  case yR2 => (go_simp; try with_reducible rfl)
  refine wpAnyH_take (i := 3) (v := ?vR3) rfl (by kernel_rfl) (by kernel_rfl) (by kernel_rfl) (fun _ _ _ h => h) (Or.inl ⟨by rfl, fun w' _ => ?yR3⟩) HH.out ?_
  case yR3 => (go_simp; try with_reducible rfl)
  refine wpAnyH_take (i := 4) (v := ?vR4) rfl (by kernel_rfl) (by kernel_rfl) (by kernel_rfl) (fun _ _ _ h => h) (Or.inl ⟨by rfl, fun w' _ => ?yR4⟩) HH.out ?_
  case yR4 => (go_simp; try with_reducible rfl)
  try simp only [List.getElem_toArray, List.getElem_cons_succ, List.getElem_cons_zero, Act.put, List.setIfInBounds_toArray, List.set_cons_zero, List.set_cons_succ]
  refine wpAnyH_take (i := 5) (v := ?vR5) rfl (by kernel_rfl) (by kernel_rfl) (by kernel_rfl) (fun _ _ _ h => h) (Or.inl ⟨by rfl, fun w' _ => ?yR5⟩) HH.out ?_
  case yR5 => (go_simp; try with_reducible rfl)
  try simp only [List.getElem_toArray, List.getElem_cons_succ, List.getElem_cons_zero, Act.put, List.setIfInBounds_toArray, List.set_cons_zero, List.set_cons_succ]
  refine wpAnyH_take (i := 6) (v := ?vR6) rfl (by kernel_rfl) (by kernel_rfl) (by kernel_rfl) (fun _ _ _ h => h) (Or.inl ⟨by rfl, fun w' _ => ?yR6⟩) HH.out ?_
  case yR6 => (go_simp; try with_reducible rfl)
  refine wpAnyH_take (i := 7) (v := ?vR7) rfl (by kernel_rfl) (by kernel_rfl) (by kernel_rfl) (fun _ _ _ h => h) (Or.inl ⟨by rfl, fun w' _ => ?yR7⟩) HH.out ?_
  case yR7 => (go_simp; try with_reducible rfl)
  try simp only [List.getElem_toArray, List.getElem_cons_succ, List.getElem_cons_zero, Act.put, List.setIfInBounds_toArray, List.set_cons_zero, List.set_cons_succ]
  refine wpAnyH_take (i := 8) (v := ?vR8) rfl (by kernel_rfl) (by kernel_rfl) (by kernel_rfl) (fun _ _ _ h => h) (Or.inl ⟨by rfl, fun w' _ => ?yR8⟩) HH.out ?_
  case yR8 => (go_simp; try with_reducible rfl)
  refine wpAnyH_take (i := 9) (v := ?vR9) rfl (by kernel_rfl) (by kernel_rfl) (by kernel_rfl) (fun _ _ _ h => h) (Or.inl ⟨by rfl, fun w' _ => ?yR9⟩) HH.out ?_
  case yR9 => (go_simp; try with_reducible rfl)
  refine wpAnyH_take (i := 10) (v := ?vR10) rfl (by kernel_rfl) (by kernel_rfl) (by kernel_rfl) (fun _ _ _ h => h) (Or.inl ⟨by rfl, fun w' _ => ?yR10⟩) HH.out ?_
  case yR10 => (go_simp; try with_reducible rfl)
  try simp only [List.getElem_toArray, List.getElem_cons_succ, List.getElem_cons_zero, Act.put, List.setIfInBounds_toArray, List.set_cons_zero, List.set_cons_succ]
  try simp only [List.getElem_toArray, List.getElem_cons_succ, List.getElem_cons_zero, Act.put, List.setIfInBounds_toArray, List.set_cons_zero, List.set_cons_succ]
  refine wpAnyH_take (i := 11) (v := .int .i64 (n : Int)) rfl (by kernel_rfl) (by kernel_rfl) (by kernel_rfl) (fun _ _ _ h => h) (Or.inl ⟨by rfl, fun w' hw' => ?yR11⟩) HH.out ?_
  case yR11 => (go_simp; exact WS.out)
  refine wpAnyH_take (i := 12) (v := ?vR12) rfl (by kernel_rfl) (by kernel_rfl) (by kernel_rfl) (fun _ _ _ h => h) (Or.inl ⟨by rfl, fun w' _ => ?yR12⟩) HH.out ?_
  case yR12 => (go_simp; try with_reducible rfl)
  refine wpAnyH_take (i := 13) (v := ?vR13) rfl (by kernel_rfl) (by kernel_rfl) (by kernel_rfl) (fun _ _ _ h => h) (Or.inl ⟨by rfl, fun w' _ => ?yR13⟩) HH.out ?_
  case yR13 => (go_simp; try with_reducible rfl)
  try simp only [List.getElem_toArray, List.getElem_cons_succ, List.getElem_cons_zero, Act.put, List.setIfInBounds_toArray, List.set_cons_zero, List.set_cons_succ]
  refine wpAnyH_take (i := 14) (v := ?vR14) rfl (by kernel_rfl) (by kernel_rfl) (by kernel_rfl) (fun _ _ _ h => h) (Or.inl ⟨by rfl, fun w' _ => ?yR14⟩) HH.out ?_
  case yR14 => (go_simp; try with_reducible rfl)
  try simp only [List.getElem_toArray, List.getElem_cons_succ, List.getElem_cons_zero, Act.put, List.setIfInBounds_toArray, List.set_cons_zero, List.set_cons_succ]
  refine wpAnyH_take (i := 15) (v := ?vR15) rfl (by kernel_rfl) (by kernel_rfl) (by kernel_rfl) (fun _ _ _ h => h) (Or.inl ⟨by rfl, fun w' _ => ?yR15⟩) HH.out ?_
  case yR15 => (go_simp; try with_reducible rfl)
  try simp only [List.getElem_toArray, List.getElem_cons_succ, List.getElem_cons_zero, Act.put, List.setIfInBounds_toArray, List.set_cons_zero, List.set_cons_succ]
  refine wpAnyH_take (i := 16) (v := ?vR16) rfl (by kernel_rfl) (by kernel_rfl) (by kernel_rfl) (fun _ _ _ h => h) (Or.inl ⟨by rfl, fun w' _ => ?yR16⟩) HH.out ?_
  case yR16 => (go_simp; try with_reducible rfl)
  try simp only [List.getElem_toArray, List.getElem_cons_succ, List.getElem_cons_zero, Act.put, List.setIfInBounds_toArray, List.set_cons_zero, List.set_cons_succ]
  refine wpAnyH_take (i := 18) (v := ?vR18) rfl (by kernel_rfl) (by kernel_rfl) (by kernel_rfl) (fun _ _ _ h => h) (Or.inl ⟨by rfl, fun w' _ => ?yR18⟩) HH.out ?_
  case yR18 => (go_simp; try with_reducible rfl)
  refine wpAnyH_take (i := 20) (v := ?vR20) rfl (by kernel_rfl) (by kernel_rfl) (by kernel_rfl) (fun _ _ _ h => h) (Or.inl ⟨by rfl, fun w' _ => ?yR20⟩) HH.out ?_
  case yR20 => (go_simp; try with_reducible rfl)
  refine wpAnyH_take (i := 23) (v := ?vR23) rfl (by kernel_rfl) (by kernel_rfl) (by kernel_rfl) (fun _ _ _ h => h) (Or.inl ⟨by rfl, fun w' _ => ?yR23⟩) HH.out ?_
  case yR23 => (go_simp; try with_reducible rfl)
  try simp only [List.getElem_toArray, List.getElem_cons_succ, List.getElem_cons_zero, Act.put, List.setIfInBounds_toArray, List.set_cons_zero, List.set_cons_succ]
  try simp only [List.getElem_toArray, List.getElem_cons_succ, List.getElem_cons_zero, Act.put, List.setIfInBounds_toArray, List.set_cons_zero, List.set_cons_succ]
  refine wpAnyH_take (i := 24) (v := .string Z) rfl (by kernel_rfl) (by kernel_rfl) (by kernel_rfl) (fun _ _ _ h => h) (Or.inl ⟨by rfl, fun w' hw' => ?yR24⟩) HH.out ?_
  case yR24 => (have kc := conv_rd (c := c) Try.underlying25 Try.underlying5 Try.underlying9 (HR.out.below (B.out.trans (hw'.mono B.out.size))) HYtjcmmeppadhjiaa.out; rw [← HZ.out] at kc; go_simp; try with_reducible rfl)
  try simp only [List.getElem_toArray, List.getElem_cons_succ, List.getElem_cons_zero, Act.put, List.setIfInBounds_toArray, List.set_cons_zero, List.set_cons_succ]
  refine wpAnyH_ready (rs := [17]) (by kernel_rfl) (by simp) (AllReadyH.cons rfl (fun K hK => ?_) AllReadyH.nil)
  go_simp
  have O1 := Lib.hid (World.ownsRow_lit (e := 5) (size := 1) (base := w4.heap.size) w5 #[] 0 HH.out.size (Nat.zero_le _) rfl)
  obtain ⟨w6, hw6⟩ : ∃ v, v = w5.alloc (.cells #[] 5) := ⟨_, rfl⟩
  rw [← hw6] at O1 ⊢
  have hb : Below w4.heap.size w4 w6 := by rw [hw6]; exact HH.out.alloc HH.out.size _
  obtain ⟨g5, hg5⟩ : ∃ g, g = w5.heap.size := ⟨_, rfl⟩
  rw [← hg5] at O1 ⊢
  refine hK.out _ _ hb (fun hh => ?_)
  have HH' := Lib.hid hh
  clear hh hK K HH
  have HH := Lib.hid HH'.out
  clear HH'
  clear hb hw6 hg5
  try simp only [List.getElem_toArray, List.getElem_cons_succ, List.getElem_cons_zero, Act.put, List.setIfInBounds_toArray, List.set_cons_zero, List.set_cons_succ]
  refine wpAnyH_ready (rs := [19]) (by kernel_rfl) (by simp) (AllReadyH.cons rfl (fun K hK => ?_) AllReadyH.nil)
  rw [if_pos (by rfl)]
  refine wp_app _ (.tmp 51) (.tmp 52) _ rfl Wi.bytesElt (base := w4.heap.size) (v := .slice (some ⟨g5, 0, none⟩) 0 0) rfl O1.out (m := m) rfl (R3.out.below HH.out) ((bv_length _).trans LT.out) (bv_one _) (by have h1 := HMN.out; have h2 := HLE.out; omega) HH.out.size ?_
  intro A7 c7 w7 ho7 hg7 _
  have hb := app_below HH.out O1.out hg7 (Nat.le_refl _) HH.out.size
  have O2 := Lib.hid (own_eq ho7 (Nat.zero_add m) rfl)
  rw [Nat.zero_add] 
  clear ho7 hg7 O1
  go_simp
  refine hK.out _ _ hb (fun hh => ?_)
  have HH' := Lib.hid hh
  clear hh hK K HH
  have HH := Lib.hid HH'.out
  clear HH'
  clear hb
  try simp only [List.getElem_toArray, List.getElem_cons_succ, List.getElem_cons_zero, Act.put, List.setIfInBounds_toArray, List.set_cons_zero, List.set_cons_succ]
  try simp only [List.getElem_toArray, List.getElem_cons_succ, List.getElem_cons_zero, Act.put, List.setIfInBounds_toArray, List.set_cons_zero, List.set_cons_succ]
  refine wpAnyH_ready (rs := [21]) (by kernel_rfl) (by simp) (AllReadyH.cons rfl (fun K hK => ?_) AllReadyH.nil)
  rw [if_pos (by rfl)]
  refine wp_app _ (.tmp 53) (.tmp 54) _ rfl Wi.bytesElt (base := w4.heap.size) (v := .slice A7 m c7) rfl O2.out (m := nr) rfl (R2.out.below HH.out) ((bv_length _).trans HNR.out.symm) (bv_one _) (by have h2 := HLE.out; have h3 := nsum; omega) HH.out.size ?_
  intro A8 c8 w8 ho8 hg8 _
  have hb := app_below HH.out O2.out hg8 (Nat.le_refl _) HH.out.size
  have O3 := Lib.hid (own_eq ho8 (show m + nr = n by omega) (show ([] ++ bv (l.take m)) ++ bv r = bv l from by rw [List.nil_append, ← bv_append, HJ.out]))
  rw [show m + nr = n by omega]
  clear ho8 hg8 O2
  have kc := conv_rd (c := c8) Try.underlying25 Try.underlying5 Try.underlying9 (Rd.own O3.out) HYtjcmmeppadhjiaa.out
  rw [← HZ.out] at kc
  go_simp
  refine hK.out _ _ hb (fun hh => ?_)
  have HH' := Lib.hid hh
  clear hh hK K HH
  have HH := Lib.hid HH'.out
  clear HH'
  clear hb
  try simp only [List.getElem_toArray, List.getElem_cons_succ, List.getElem_cons_zero, Act.put, List.setIfInBounds_toArray, List.set_cons_zero, List.set_cons_succ]
  refine wpAnyH_ready (rs := [22]) (by kernel_rfl) (by simp) (AllReadyH.cons rfl (fun K hK => ?_) AllReadyH.nil)
  go_simp
  refine hK.out _ _ HH.out (fun hh => ?_)
  have HH' := Lib.hid hh
  clear hh hK K HH kc
  have HH := Lib.hid HH'.out
  clear HH'
  have hss := HSS.out
  rw [decide_eq_true rfl] at hss
  refine wpAnyH_take (i := 25) (v := ?vR25) rfl (by kernel_rfl) (by kernel_rfl) (by kernel_rfl) (fun _ _ _ h => h) (Or.inl ⟨by rfl, fun w' _ => ?yR25⟩) HH.out ?_
  case yR25 => (go_simp; try with_reducible rfl)
  try simp only [List.getElem_toArray, List.getElem_cons_succ, List.getElem_cons_zero, Act.put, List.setIfInBounds_toArray, List.set_cons_zero, List.set_cons_succ]
  refine wpAnyH_take (i := 26) (v := ?vR26) rfl (by kernel_rfl) (by kernel_rfl) (by kernel_rfl) (fun _ _ _ h => h) (Or.inl ⟨by rfl, fun w' _ => ?yR26⟩) HH.out ?_
  case yR26 => (go_simp; try with_reducible rfl)
  refine wpAnyH_take (i := 27) (v := ?vR27) rfl (by kernel_rfl) (by kernel_rfl) (by kernel_rfl) (fun _ _ _ h => h) (Or.inl ⟨by rfl, fun w' _ => ?yR27⟩) HH.out ?_
  case yR27 => (go_simp; try with_reducible rfl)
  try simp only [List.getElem_toArray, List.getElem_cons_succ, List.getElem_cons_zero, Act.put, List.setIfInBounds_toArray, List.set_cons_zero, List.set_cons_succ]
  refine wpAnyH_done (by kernel_rfl) ?_ _
  go_wp2_with fail
  go_ret
  exact ⟨rfl, B.out.trans (HH.out.mono B.out.size)⟩
theorem cellBytes_own : ownKnob Try.prog.godebug = none := by kernel_rfl
theorem cellBytes_laid : laidOutB Try.prog = true := by kernel_rfl

set_option maxRecDepth 100000 in
theorem cellBytes_lifted (os : Os) (started : os.Started) (H : Type) (enc : TypeId × Value → H) :
    ReturnsInHanded {} Try.checked os 9 .any (Rows.cellBytesSpec.pre6 enc Try.prog Try.f9 Rows.cellBytesRow.domain false) (Rows.cellBytesSpec.post enc Try.prog Try.f9 false true false false) := by
  refine returnsInHanded_of_change (C := Try.checked) cellBytes_own started (by kernel_rfl) Try.func9
    (ChangeSpec.witness6 (enc := enc) (C := Try.checked) false ⟨#[], #[.slice none 0 0], []⟩ 8 (by kernel_rfl) (by kernel_rfl) (by kernel_rfl) (by kernel_rfl)) ?_
  intro W base args ds gs before hval0 hW _ _
  have hval : ∀ (j : Nat) t v, Try.f9.params[j]? = some t → args[j]? = some v → Value.okWide Try.prog W .any base t v := hval0
  have hW' := hW
  obtain ⟨p, q, hA0, hV, rfl, hfz, hnd⟩ := hW
  have hA : DataW.TrodAll enc Try.prog W 0 (fun _ => true) true Try.f9.params.toList args.toList ds p := hA0
  rw [Try.params9] at hA hval
  obtain ⟨v0, vs0, d0, ds0, p0, q0, hargs, rfl, rfl, h0, r0⟩ := trodAll_cons hA
  obtain ⟨rfl, rfl, rfl⟩ := trodAll_nil r0
  obtain rfl : args = #[v0] := by cases args; simp_all
  obtain ⟨rfl, rfl⟩ := trodVars_none hV
  obtain ⟨a0, n0, c0, rfl⟩ := okWide_slice Try.underlying25 (hval 0 25 v0 rfl rfl)
  have lt0 : ∀ x ∈ p0, x.block < W.heap.size := by obtain ⟨m, hm⟩ := h0; exact DataW.trod_lt m _ _ _ hm
  obtain ⟨l0, hl0, hc0, hm0, hr0⟩ := open_bytes Try.underlying25 Try.underlying5 (by kernel_rfl) h0
  clear hA0 hval0
  refine (cellBytes_any W a0 n0 c0 l0 hl0 hc0 hm0 hr0).mono fun e W' ⟨he, bel⟩ => ?_
  subst he
  exact ⟨_, rfl, _, _, _, [], _, [], hW', trodAll_mk1 (shut_bool Try.underlying4 _), (trodAll_cons_mk (Below.trod cellBytes_laid (by kernel_rfl) (of_decide_eq_true (by kernel_rfl)) h0 bel lt0) trodAll_mk0), rfl, bel.frame _, fun h => by cases h⟩

theorem cellBytes_holds : Rows.CellBytesSaid :=
  OpenClaim.holds_of_wide 9 Try.f9 rfl rfl rfl rfl rfl rfl rfl ⟨rfl, rfl, rfl, rfl, rfl⟩ rfl rfl rfl rfl rfl (by kernel_rfl) Try.func9 (by kernel_rfl)
    (of_decide_eq_true (by kernel_rfl)) (by unfold Func.isWrapper; rw [if_neg (of_decide_eq_false (by kernel_rfl))]; exact ⟨rfl, rfl⟩)
    (fun os started H enc _ => cellBytes_lifted os started H enc)

#print axioms cellBytes_holds

end Go.Proofs.Ytjcmmeppadhjiaa
