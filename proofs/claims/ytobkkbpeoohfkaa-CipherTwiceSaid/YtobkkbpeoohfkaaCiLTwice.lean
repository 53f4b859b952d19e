/-
  CipherTwice holds: of every key, number, block and bytes the law returns true, and its arguments read as they did.
-/
import Derived.Test.YtobkkbpeoohfkaaCiBuild
import Derived.Test.YtobkkbpeoohfkaaCiAwake
import Derived.Test.YtobkkbpeoohfkaaSame
import Derived.Deep.QuietTactic
import Derived.BigQuiet
import Derived.Test.YtobkkbpeoohfkaaOpen
import Derived.Test.YtobkkbpeoohfkaaOpenA
import Derived.ProofKit
import Derived.OpenShut
import Derived.ShutString
import Derived.ChangeOld
namespace Go.Proofs.Ytobkkbpeoohfkaa
open Go.RowKit Go.ChangeShapes Go.WideShapes Go.ChangeAt
attribute [local go_sem ↓] Go.wp_at_zero Go.wp_at_succ
theorem xorL_twice {a b : List UInt8} (h : a.length ≤ b.length) : Wi.xorL (Wi.xorL a b) b = a := by
  apply List.ext_getElem
  · rw [Wi.xorL_length, Wi.xorL_length]; omega
  · intro i h1 h2
    have h3 : i < (Wi.xorL a b).length := by rw [Wi.xorL_length]; omega
    rw [Wi.xorL_get h1 h3 (by omega), Wi.xorL_get h3 h2 (by omega), UInt8.xor_assoc, UInt8.xor_self, UInt8.xor_zero]
theorem xor_four (a p o : UInt8) : (a ^^^ p) ^^^ (a ^^^ (p ^^^ o)) = o := by
  rw [UInt8.xor_comm a p, UInt8.xor_assoc, ← UInt8.xor_assoc a a, UInt8.xor_self, UInt8.zero_xor, ← UInt8.xor_assoc, UInt8.xor_self, UInt8.zero_xor]
theorem padL_same (k o : List UInt8) (n : Int) : Ci.padL k n o k n = Wi.xorL (Ci.litL k n) o := if_pos ⟨rfl, rfl⟩
set_option maxRecDepth 100000 in
set_option maxHeartbeats 3200000 in
theorem cipherTwice_any (w : World) (k : List UInt8) (hk : k.length = 32) (n : Int) (_hn : 0 ≤ n ∧ n ≤ 18446744073709551615) (off : List UInt8) (ho : off.length = 32) (A : Option Addr) (m c : Nat) (l : List UInt8) (hl : l.length = m) (hc : m ≤ c) (hm : c ≤ maxLen) (hr : Rd w.heap.size w A (bv l)) :
    Calls Try.prog 6 #[.agg (bva k), .int .u64 n, .agg (bva off), .slice A m c] w (RetB (.bool true) w) := by
  obtain ⟨cz, hcz⟩ : ∃ cz, cz = Ci.litC Ci.zeros 0 Ci.zeros := ⟨_, rfl⟩
  have hlz : ∀ W, (zeroValue 46).run Try.prog W = .ok (.agg cz) W := fun _ => by rw [hcz]; kernel_rfl
  have HCZ := Lib.hid hcz
  have hZ : ∀ (A : Option Addr) (m c : Nat) (l : List UInt8) (W : World), l.length = m → m ≤ 32 → Rd W.heap.size W A (bv l) →
      Calls Try.prog 17 #[.iface 46 (.agg cz), .agg (bva k), .int .u64 n, .slice A m c] W (RetRow 5 (bv (Wi.xorL l (Ci.litL k n))) W) := fun A m c l W h1 h2 h3 => by
    rw [hcz]; exact Ci.hide_zero k n A m c l W hk h1 h2 h3
  have b1 : Blk ((w.alloc (.cells (bva k) 23)).alloc (.cells (bva off) 30)) w.heap.size (bva k) 23 := heap_alloc2_old _ _ _
  have b2 : Blk ((w.alloc (.cells (bva k) 23)).alloc (.cells (bva off) 30)) (w.heap.size + 1) (bva off) 30 := heap_alloc2_new _ _ _
  have hb : Below w.heap.size w ((w.alloc (.cells (bva k) 23)).alloc (.cells (bva off) 30)) := ((Below.refl _ _).alloc (Nat.le_refl _) _).alloc (by simp) _
  have HI : Hid ((Try.prog.info? 23).map (·.size) = some (bva k).size) := by rw [bva_size, hk]; exact Ci.info_key
  have HJ : Hid ((Try.prog.info? 30).map (·.size) = some (bva off).size) := by rw [bva_size, ho]; exact Ci.info_blk
  obtain ⟨P, hP⟩ : ∃ P, P = Ci.litL k n := ⟨_, rfl⟩
  have hP3 : P.length = 32 := by rw [hP, Ci.litL_length]
  rw [← hP] at hZ
  have HZ := Lib.hid hZ
  have HP := Lib.hid hP
  have HP3 := Lib.hid hP3
  have HK := Lib.hid hk
  have HO := Lib.hid ho
  have HL := Lib.hid hl
  have HR := Lib.hid hr
  have HC := Lib.hid hc
  have HM := Lib.hid hm
  have B1 := Lib.hid b1
  have B2 := Lib.hid b2
  have BB := Lib.hid hb
  clear hZ hcz b1 b2 hb hP hP3 hk ho hl hr hc hm
  by_cases hs : m ≤ 32
  · have hd : decide ((32 : Int) < (m : Int)) = false := by simp; omega
    go_enter Try.func6, Try.ntmps6
    go_wp2_with fail
    refine (Ci.ciAwake_any _).mono ?_
    rintro e w1 ⟨rfl, bw⟩
    have C1 := Lib.hid (B1.out.below bw)
    have C2 := Lib.hid (B2.out.below bw)
    have CB := Lib.hid (BB.out.trans (bw.mono BB.out.size))
    clear bw B1 B2 BB
    go_wp2_with fail
    refine wp_region_held_drew (S := fun w' => Blk w' w.heap.size (bva k) 23 ∧ Blk w' (w.heap.size + 1) (bva off) 30 ∧ Below w.heap.size w w') (by kernel_rfl) ⟨C1.out, C2.out, CB.out.drew⟩ (fun hh => ?_)
    have HH := Lib.hid hh
    clear hh
    refine wpAnyH_take (i := 0) (v := ?va0) rfl (by kernel_rfl) (by kernel_rfl) (by kernel_rfl) (fun _ _ _ h => h) (Or.inl ⟨by rfl, fun w' _ => ?ya0⟩) HH.out ?_
    case ya0 => (go_simp; try with_reducible rfl)
    refine wpAnyH_take (i := 1) (v := ?va1) rfl (by kernel_rfl) (by kernel_rfl) (by kernel_rfl) (fun _ _ _ h => h) (Or.inl ⟨by rfl, fun w' _ => ?ya1⟩) HH.out ?_
    case ya1 => (go_simp; try with_reducible rfl)
    try simp only [List.getElem_toArray, List.getElem_cons_succ, List.getElem_cons_zero, Act.put, List.setIfInBounds_toArray, List.set_cons_zero, List.set_cons_succ]
    refine wpAnyH_take (i := 2) (v := .agg (bva k)) rfl (by kernel_rfl) (by kernel_rfl) (by kernel_rfl) (fun _ _ _ h => h) (Or.inl ⟨by rfl, fun w' hw' => ?ya2⟩) HH.out ?_
    case ya2 => exact exec_load 23 (.tmp 4) rfl rfl hw'.1 Try.underlying23 rfl HI.out
    refine wpAnyH_take (i := 3) (v := ?va3) rfl (by kernel_rfl) (by kernel_rfl) (by kernel_rfl) (fun _ _ _ h => h) (Or.inl ⟨by rfl, fun w' _ => ?ya3⟩) HH.out ?_
    case ya3 => (go_simp; try with_reducible rfl)
    refine wpAnyH_take (i := 4) (v := ?va4) rfl (by kernel_rfl) (by kernel_rfl) (by kernel_rfl) (fun _ _ _ h => h) (Or.inl ⟨by rfl, fun w' _ => ?ya4⟩) HH.out ?_
    case ya4 => (go_simp; try with_reducible rfl)
    try simp only [List.getElem_toArray, List.getElem_cons_succ, List.getElem_cons_zero, Act.put, List.setIfInBounds_toArray, List.set_cons_zero, List.set_cons_succ]
    refine wpAnyH_take (i := 6) (v := .agg (bva k)) rfl (by kernel_rfl) (by kernel_rfl) (by kernel_rfl) (fun _ _ _ h => h) (Or.inl ⟨by rfl, fun w' hw' => ?ya6⟩) HH.out ?_
    case ya6 => exact exec_load 23 (.tmp 4) rfl rfl hw'.1 Try.underlying23 rfl HI.out
    refine wpAnyH_take (i := 7) (v := ?va7) rfl (by kernel_rfl) (by kernel_rfl) (by kernel_rfl) (fun _ _ _ h => h) (Or.inl ⟨by rfl, fun w' _ => ?ya7⟩) HH.out ?_
    case ya7 => (go_simp; try with_reducible rfl)
    refine wpAnyH_take (i := 8) (v := .agg (bva off)) rfl (by kernel_rfl) (by kernel_rfl) (by kernel_rfl) (fun _ _ _ h => h) (Or.inl ⟨by rfl, fun w' hw' => ?ya8⟩) HH.out ?_
    case ya8 => exact exec_load 30 (.tmp 6) rfl rfl hw'.2.1 Try.underlying30 rfl HJ.out
    try simp only [List.getElem_toArray, List.getElem_cons_succ, List.getElem_cons_zero, Act.put, List.setIfInBounds_toArray, List.set_cons_zero, List.set_cons_succ]
    refine wpAnyH_take (i := 9) (v := .agg (Ci.litC k n off)) rfl (by kernel_rfl) (by kernel_rfl) (by kernel_rfl) (fun _ _ _ h => h) (Or.inl ⟨by rfl, fun w' _ => ?yb9⟩) HH.out ?_
    case yb9 => exact Ci.exec_build 46 #[(0, .tmp 31), (1, .tmp 32), (2, .tmp 33)] rfl (by simp only [List.map_toArray, List.map_cons, List.map_nil]; exact Ci.build_lit k off n HK.out HO.out w')
    refine wpAnyH_take (i := 10) (v := ?va10) rfl (by kernel_rfl) (by kernel_rfl) (by kernel_rfl) (fun _ _ _ h => h) (Or.inl ⟨by rfl, fun w' _ => ?ya10⟩) HH.out ?_
    case ya10 => (go_simp; try with_reducible rfl)
    refine wpAnyH_take (i := 11) (v := .agg (bva k)) rfl (by kernel_rfl) (by kernel_rfl) (by kernel_rfl) (fun _ _ _ h => h) (Or.inl ⟨by rfl, fun w' hw' => ?ya11⟩) HH.out ?_
    case ya11 => exact exec_load 23 (.tmp 4) rfl rfl hw'.1 Try.underlying23 rfl HI.out
    try simp only [List.getElem_toArray, List.getElem_cons_succ, List.getElem_cons_zero, Act.put, List.setIfInBounds_toArray, List.set_cons_zero, List.set_cons_succ]
    refine wpAnyH_take (i := 12) (v := ?va12) rfl (by kernel_rfl) (by kernel_rfl) (by kernel_rfl) (fun _ _ _ h => h) (Or.inl ⟨by rfl, fun w' _ => ?ya12⟩) HH.out ?_
    case ya12 => (go_simp; try with_reducible rfl)
    refine wpAnyH_take (i := 13) (v := ?va13) rfl (by kernel_rfl) (by kernel_rfl) (by kernel_rfl) (fun _ _ _ h => h) (Or.inl ⟨by rfl, fun w' _ => ?ya13⟩) HH.out ?_
    case ya13 => (go_simp; try with_reducible rfl)
    try simp only [List.getElem_toArray, List.getElem_cons_succ, List.getElem_cons_zero, Act.put, List.setIfInBounds_toArray, List.set_cons_zero, List.set_cons_succ]
    refine wpAnyH_ready (rs := [5]) (by kernel_rfl) (by simp) (AllReadyH.cons rfl (fun K hK => ?_) AllReadyH.nil)
    go_simp
    refine (HZ.out A m c l _ HL.out hs ((HR.out.below HH.out.2.2).more HH.out.2.2.size)).mono ?_
    rintro e w5 ⟨A1, n1, c1, rfl, ho1, bw⟩
    have hn1 : m = n1 := by rw [← own_blen ho1]; simp only [Wi.xorL_length, HL.out, HP3.out]; omega
    obtain rfl : m = n1 := hn1
    have R1 := Lib.hid (Rd.own ho1)
    have N1 := Lib.hid (own_max ho1)
    clear ho1
    go_simp
    refine hK.out _ _ ⟨HH.out.1.below bw, HH.out.2.1.below bw, HH.out.2.2.trans (bw.mono HH.out.2.2.size)⟩ (fun hh => ?_)
    have HH' := Lib.hid hh
    clear hh hK K HH bw
    have HH := Lib.hid HH'.out
    clear HH'
    try simp only [List.getElem_toArray, List.getElem_cons_succ, List.getElem_cons_zero, Act.put, List.setIfInBounds_toArray, List.set_cons_zero, List.set_cons_succ]
    refine wpAnyH_ready (rs := [14]) (by kernel_rfl) (by simp) (AllReadyH.cons rfl (fun K hK => ?_) AllReadyH.nil)
    go_simp
    refine (Ci.hide_lit k off k n n A m c l _ HK.out HO.out HK.out HL.out hs ((HR.out.below HH.out.2.2).more HH.out.2.2.size)).mono ?_
    rintro e w6 ⟨A2, n1, c2, rfl, ho1, bw⟩
    have hn1 : m = n1 := by rw [← own_blen ho1]; simp only [Wi.xorL_length, HL.out, HP3.out, HO.out, padL_same, ← HP.out]; omega
    obtain rfl : m = n1 := hn1
    have R2 := Lib.hid (Rd.own ho1)
    have N2 := Lib.hid (own_max ho1)
    clear ho1
    rw [padL_same, ← HP.out] at R2
    have R3 := Lib.hid ((R1.out.below bw).more bw.size)
    clear R1
    go_simp
    refine hK.out _ _ ⟨HH.out.1.below bw, HH.out.2.1.below bw, HH.out.2.2.trans (bw.mono HH.out.2.2.size)⟩ (fun hh => ?_)
    have HH' := Lib.hid hh
    clear hh hK K HH bw
    have HH := Lib.hid HH'.out
    clear HH'
    refine wpAnyH_take (i := 15) (v := ?va15) rfl (by kernel_rfl) (by kernel_rfl) (by kernel_rfl) (fun _ _ _ h => h) (Or.inl ⟨by rfl, fun w' _ => ?ya15⟩) HH.out ?_
    case ya15 => (go_simp; try with_reducible rfl)
    refine wpAnyH_take (i := 16) (v := ?va16) rfl (by kernel_rfl) (by kernel_rfl) (by kernel_rfl) (fun _ _ _ h => h) (Or.inl ⟨by rfl, fun w' _ => ?ya16⟩) HH.out ?_
    case ya16 => (go_simp; try with_reducible rfl)
    try simp only [List.getElem_toArray, List.getElem_cons_succ, List.getElem_cons_zero, Act.put, List.setIfInBounds_toArray, List.set_cons_zero, List.set_cons_succ]
    refine wpAnyH_done (by kernel_rfl) ?_ _
    have G1 := Lib.hid HH.out.1
    have G2 := Lib.hid HH.out.2.1
    have GB := Lib.hid HH.out.2.2
    clear HH C1 C2 CB
    go_wp2_with (refine Ci.wpList_load_if (by rfl) 23 (.tmp 4) rfl (g := w.heap.size) (cs := bva k) (A := 23) rfl G1.out Try.underlying23 rfl HI.out ?_)
    refine (HZ.out A1 m c1 (Wi.xorL l P) _ (by rw [Wi.xorL_length, HL.out, HP3.out]; omega) hs R3.out).mono ?_
    rintro e w7 ⟨A3, n1, c3, rfl, ho1, bw⟩
    rw [xorL_twice (by rw [HL.out, HP3.out]; exact hs)] at ho1
    have hn1 : m = n1 := by rw [← own_blen ho1, HL.out]
    obtain rfl : m = n1 := hn1
    have R4 := Lib.hid (Rd.own ho1)
    have N4 := Lib.hid (own_max ho1)
    have S2 := Lib.hid ((R2.out.below bw).more bw.size)
    have S3 := Lib.hid ((R3.out.below bw).more bw.size)
    have E2 := Lib.hid (G2.out.below bw)
    have EB := Lib.hid (GB.out.trans (bw.mono GB.out.size))
    clear ho1 bw R2 R3 G1 G2 GB
    go_wp2_with fail
    refine (same_r (b := true) (by rw [decide_eq_true rfl]) HL.out HL.out R4.out ((HR.out.below EB.out).more EB.out.size) N4.out N4.out).mono ?_
    rintro e w8 ⟨rfl, bw⟩
    have U2 := Lib.hid ((S2.out.below bw).more bw.size)
    have U3 := Lib.hid ((S3.out.below bw).more bw.size)
    have F2 := Lib.hid (E2.out.below bw)
    have FB := Lib.hid (EB.out.trans (bw.mono EB.out.size))
    clear bw S2 S3 E2 EB R4
    go_wp2_with fail
    go_loopw [11] (fun i wr => ∃ j : Nat, j ≤ m ∧ i = .int .i64 j ∧ ∃ q, wr = w8.drewN q) (fun i _ => m - (intOf i).toNat)
    case atStart => exact ⟨0, by omega, rfl, 0, rfl⟩
    case round =>
      obtain ⟨j, hj, rfl, q, rfl⟩ := hrel
      by_cases hlt : j < m
      · have hl1 : j < l.length := by rw [HL.out]; exact hlt
        have hp1 : j < P.length := by rw [HP3.out]; omega
        have hf1 : j < off.length := by rw [HO.out]; omega
        have hx1 : j < (Wi.xorL l P).length := by rw [Wi.xorL_length]; omega
        have hq1 : j < (Wi.xorL P off).length := by rw [Wi.xorL_length]; omega
        have hy1 : j < (Wi.xorL l (Wi.xorL P off)).length := by rw [Wi.xorL_length]; omega
        obtain ⟨ad, hA, _, hca⟩ := U3.out.at_ hx1
        obtain ⟨bd, hA', _, hcb⟩ := U2.out.at_ hy1
        subst hA
        subst hA'
        obtain ⟨X, hX⟩ : ∃ X, X = (Wi.xorL l P)[j] := ⟨_, rfl⟩
        obtain ⟨Y, hY⟩ : ∃ Y, Y = (Wi.xorL l (Wi.xorL P off))[j] := ⟨_, rfl⟩
        obtain ⟨Z, hZ⟩ : ∃ Z, Z = off.getD j 0 := ⟨_, rfl⟩
        rw [← hX] at hca
        rw [← hY] at hcb
        have hcc := F2.out.cellb hf1
        rw [← hZ] at hcc
        have hbits : bits .xor .u8 (X.toNat : Int) (Y.toNat : Int) = (Z.toNat : Int) := by
          rw [Wi.bits_xor8, hX, hY, hZ, Wi.xorL_get hx1 hl1 hp1, Wi.xorL_get hy1 hl1 hq1, Wi.xorL_get hq1 hp1 hf1, xor_four, List.getD_eq_getElem?_getD, List.getElem?_eq_getElem hf1]
          rfl
        have j0 : (0 : Int) ≤ (j : Int) := by omega
        have j1 : (j : Int) < (m : Int) := by omega
        have j2 : (j : Int) < 32 := by omega
        clear hX hY hZ
        go_wp2
        go_quiet (fail)
        go_wp2
        go_roundw
        case rel => exact ⟨j + 1, by omega, by go_num, q + nq, rfl⟩
        case measure => simp [intOf]; omega
      · obtain rfl : j = m := by omega
        go_wp2
        go_ret
        exact ⟨rfl, below_drewN' FB.out q⟩
  · have hd : decide ((32 : Int) < (m : Int)) = true := by simp; omega
    go_enter Try.func6, Try.ntmps6
    go_wp2_with fail
    refine (Ci.ciAwake_any _).mono ?_
    rintro e w1 ⟨rfl, bw⟩
    have C1 := Lib.hid (B1.out.below bw)
    have CB := Lib.hid (BB.out.trans (bw.mono BB.out.size))
    clear bw B1 B2 BB
    go_wp2_with (refine wpList_load_row rfl 23 (.tmp 4) rfl w.heap.size rfl 23 (bva k) (0, 0) _ C1.out Try.underlying23 rfl HI.out ?_)
    refine (Ci.hide_long 46 (.agg cz) k n A m c _ (by omega)).mono ?_
    rintro e w5 ⟨rfl, bw⟩
    have DB := Lib.hid (CB.out.trans (bw.mono CB.out.size))
    clear bw C1 CB
    go_wp2_with fail
    go_ret
    exact ⟨rfl, DB.out⟩
theorem cipherTwice_own : ownKnob Try.prog.godebug = none := by kernel_rfl
theorem cipherTwice_laid : laidOutB Try.prog = true := by kernel_rfl

set_option maxRecDepth 100000 in
theorem cipherTwice_lifted (os : Os) (started : os.Started) (H : Type) (enc : TypeId × Value → H) :
    ReturnsInHanded {} Try.checked os 6 .any (Rows.cipherTwiceSpec.pre6 enc Try.prog Try.f6 Rows.cipherTwiceRow.domain false) (Rows.cipherTwiceSpec.post enc Try.prog Try.f6 false true false false) := by
  refine returnsInHanded_of_change (C := Try.checked) cipherTwice_own started (by kernel_rfl) Try.func6
    (ChangeSpec.witness6 (enc := enc) (C := Try.checked) false ⟨#[], #[.agg #[.int .u8 0, .int .u8 0, .int .u8 0, .int .u8 0, .int .u8 0, .int .u8 0, .int .u8 0, .int .u8 0, .int .u8 0, .int .u8 0, .int .u8 0, .int .u8 0, .int .u8 0, .int .u8 0, .int .u8 0, .int .u8 0, .int .u8 0, .int .u8 0, .int .u8 0, .int .u8 0, .int .u8 0, .int .u8 0, .int .u8 0, .int .u8 0, .int .u8 0, .int .u8 0, .int .u8 0, .int .u8 0, .int .u8 0, .int .u8 0, .int .u8 0, .int .u8 0], .int .u64 0, .agg #[.int .u8 0, .int .u8 0, .int .u8 0, .int .u8 0, .int .u8 0, .int .u8 0, .int .u8 0, .int .u8 0, .int .u8 0, .int .u8 0, .int .u8 0, .int .u8 0, .int .u8 0, .int .u8 0, .int .u8 0, .int .u8 0, .int .u8 0, .int .u8 0, .int .u8 0, .int .u8 0, .int .u8 0, .int .u8 0, .int .u8 0, .int .u8 0, .int .u8 0, .int .u8 0, .int .u8 0, .int .u8 0, .int .u8 0, .int .u8 0, .int .u8 0, .int .u8 0], .slice none 0 0], []⟩ 8 (by kernel_rfl) (by kernel_rfl) (by kernel_rfl) (by kernel_rfl)) ?_
  intro W base args ds gs before hval0 hW _ _
  have hval : ∀ (j : Nat) t v, Try.f6.params[j]? = some t → args[j]? = some v → Value.okWide Try.prog W .any base t v := hval0
  have hW' := hW
  obtain ⟨p, q, hA0, hV, rfl, hfz, hnd⟩ := hW
  have hA : DataW.TrodAll enc Try.prog W 0 (fun _ => true) true Try.f6.params.toList args.toList ds p := hA0
  rw [Try.params6] at hA hval
  obtain ⟨v0, vs0, d0, ds0, p0, q0, hargs, rfl, rfl, h0, r0⟩ := trodAll_cons hA
  obtain ⟨v1, vs1, d1, ds1, p1, q1, rfl, rfl, rfl, h1, r1⟩ := trodAll_cons r0
  obtain ⟨v2, vs2, d2, ds2, p2, q2, rfl, rfl, rfl, h2, r2⟩ := trodAll_cons r1
  obtain ⟨v3, vs3, d3, ds3, p3, q3, rfl, rfl, rfl, h3, r3⟩ := trodAll_cons r2
  obtain ⟨rfl, rfl, rfl⟩ := trodAll_nil r3
  obtain rfl : args = #[v0, v1, v2, v3] := by cases args; simp_all
  obtain ⟨rfl, rfl⟩ := trodVars_none hV
  have lt0 : ∀ x ∈ p0, x.block < W.heap.size := by obtain ⟨m, hm⟩ := h0; exact DataW.trod_lt m _ _ _ hm
  obtain ⟨l0, hl0, rfl⟩ := open_u8s Try.underlying23 Try.underlying5 (by kernel_rfl) (by kernel_rfl) (hval 0 23 v0 rfl rfl) h0
  obtain ⟨a1, rfl, rfl, rfl, w1⟩ := open_int Try.underlying24 (hval 1 24 v1 rfl rfl) h1
  have b1 := bounds_u64 w1
  have lt2 : ∀ x ∈ p2, x.block < W.heap.size := by obtain ⟨m, hm⟩ := h2; exact DataW.trod_lt m _ _ _ hm
  obtain ⟨l2, hl2, rfl⟩ := open_u8s Try.underlying30 Try.underlying5 (by kernel_rfl) (by kernel_rfl) (hval 2 30 v2 rfl rfl) h2
  obtain ⟨a3, n3, c3, rfl⟩ := okWide_slice Try.underlying33 (hval 3 33 v3 rfl rfl)
  have lt3 : ∀ x ∈ p3, x.block < W.heap.size := by obtain ⟨m, hm⟩ := h3; exact DataW.trod_lt m _ _ _ hm
  obtain ⟨l3, hl3, hc3, hm3, hr3⟩ := open_bytes Try.underlying33 Try.underlying5 (by kernel_rfl) h3
  clear hA0 hval0
  refine (cipherTwice_any W l0 hl0 a1 b1 l2 hl2 a3 n3 c3 l3 hl3 hc3 hm3 hr3).mono fun e W' ⟨he, bel⟩ => ?_
  subst he
  exact ⟨_, rfl, _, _, _, [], _, [], hW', trodAll_mk1 (shut_bool Try.underlying4 _), (trodAll_cons_mk (Below.trod cipherTwice_laid (by kernel_rfl) (of_decide_eq_true (by kernel_rfl)) h0 bel lt0) (trodAll_cons_mk (shut_int Try.underlying24 w1) (trodAll_cons_mk (Below.trod cipherTwice_laid (by kernel_rfl) (of_decide_eq_true (by kernel_rfl)) h2 bel lt2) (trodAll_cons_mk (Below.trod cipherTwice_laid (by kernel_rfl) (of_decide_eq_true (by kernel_rfl)) h3 bel lt3) trodAll_mk0)))), rfl, bel.frame _, fun h => by cases h⟩

theorem cipherTwice_holds : Rows.CipherTwiceSaid :=
  OpenClaim.holds_of_wide 6 Try.f6 rfl rfl rfl rfl rfl rfl rfl ⟨rfl, rfl, rfl, rfl, rfl⟩ rfl rfl rfl rfl rfl (by kernel_rfl) Try.func6 (by kernel_rfl)
    (of_decide_eq_true (by kernel_rfl)) (by unfold Func.isWrapper; rw [if_neg (of_decide_eq_false (by kernel_rfl))]; exact ⟨rfl, rfl⟩)
    (fun os started H enc _ => cipherTwice_lifted os started H enc)

#print axioms cipherTwice_holds

end Go.Proofs.Ytobkkbpeoohfkaa
