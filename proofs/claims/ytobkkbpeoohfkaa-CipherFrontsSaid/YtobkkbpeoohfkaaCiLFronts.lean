/-
  CipherFronts holds: of every key, number, bytes and place the law returns true, and its arguments read as they did.
-/
import Derived.Test.YtobkkbpeoohfkaaCiBuild
import Derived.Test.YtobkkbpeoohfkaaCiAwake
import Derived.Test.YtobkkbpeoohfkaaSame
import Derived.Deep.QuietTactic
import Derived.BigQuiet
import Derived.Test.YtobkkbpeoohfkaaOpen
import Derived.Test.YtobkkbpeoohfkaaOpenA
import Derived.ProofKit
import Derived.OpenShut
import Derived.ShutString
import Derived.ChangeOld
namespace Go.Proofs.Ytobkkbpeoohfkaa
open Go.RowKit Go.ChangeShapes Go.WideShapes Go.ChangeAt
attribute [local go_sem ↓] Go.wp_at_zero Go.wp_at_succ
theorem xorL_front (l p : List UInt8) (i : Nat) : Wi.xorL (l.take i) p = (Wi.xorL l p).take i := by
  apply List.ext_getElem
  · simp only [Wi.xorL_length, List.length_take]; omega
  · intro j h1 h2
    have h3 := h1
    rw [Wi.xorL_length, List.length_take] at h3
    rw [Wi.xorL_get h1 (by rw [List.length_take]; omega) (by omega), List.getElem_take, List.getElem_take, Wi.xorL_get (by rw [Wi.xorL_length]; omega) (by omega) (by omega)]
theorem xor_five (a p : UInt8) : (a ^^^ p) ^^^ ((a ^^^ 5) ^^^ p) = 5 := by
  rw [UInt8.xor_comm (a ^^^ 5) p, ← UInt8.xor_assoc, UInt8.xor_assoc a p p, UInt8.xor_self, UInt8.xor_zero, ← UInt8.xor_assoc, UInt8.xor_self, UInt8.zero_xor]
theorem bv_set' (l : List UInt8) (k : Nat) (x : UInt8) : bv (l.set k x) = (bv l).set k (.int .u8 (x.toNat : Int)) := by simp [bv, List.map_set]
set_option maxRecDepth 100000 in
set_option maxHeartbeats 3200000 in
theorem cipherFronts_any (w : World) (k : List UInt8) (hk : k.length = 32) (n : Int) (_hn : 0 ≤ n ∧ n ≤ 18446744073709551615) (A : Option Addr) (m c : Nat) (l : List UInt8) (hl : l.length = m) (hc : m ≤ c) (hm : c ≤ maxLen) (hr : Rd w.heap.size w A (bv l)) (a : Int) (ha : 0 ≤ a ∧ a ≤ 255) :
    Calls Try.prog 9 #[.agg (bva k), .int .u64 n, .slice A m c, .int .u8 a] w (RetB (.bool true) w) := by
  obtain ⟨cz, hcz⟩ : ∃ cz, cz = Ci.litC Ci.zeros 0 Ci.zeros := ⟨_, rfl⟩
  have hlz : ∀ W, (zeroValue 46).run Try.prog W = .ok (.agg cz) W := fun _ => by rw [hcz]; kernel_rfl
  have hZ : ∀ (A : Option Addr) (m c : Nat) (l : List UInt8) (W : World), l.length = m → m ≤ 32 → Rd W.heap.size W A (bv l) →
      Calls Try.prog 17 #[.iface 46 (.agg cz), .agg (bva k), .int .u64 n, .slice A m c] W (RetRow 5 (bv (Wi.xorL l (Ci.litL k n))) W) := fun A m c l W h1 h2 h3 => by
    rw [hcz]; exact Ci.hide_zero k n A m c l W hk h1 h2 h3
  have hc1 : cz.all (·.oneCell') = true := by rw [hcz]; decide +kernel
  have hic : (Try.prog.info? 46).map (·.size) = some cz.size := by rw [hcz]; kernel_rfl
  have C1C := Lib.hid hc1
  have HIC := Lib.hid hic
  have b1 : Blk (w.alloc (.cells (bva k) 23)) w.heap.size (bva k) 23 := heap_alloc_new _ _
  have hb : Below w.heap.size w (w.alloc (.cells (bva k) 23)) := (Below.refl _ _).alloc (Nat.le_refl _) _
  have HI : Hid ((Try.prog.info? 23).map (·.size) = some (bva k).size) := by rw [bva_size, hk]; exact Ci.info_key
  obtain ⟨P, hP⟩ : ∃ P, P = Ci.litL k n := ⟨_, rfl⟩
  have hP3 : P.length = 32 := by rw [hP, Ci.litL_length]
  rw [← hP] at hZ
  have HZ := Lib.hid hZ
  have HP3 := Lib.hid hP3
  have HL := Lib.hid hl
  have HR := Lib.hid hr
  have HM := Lib.hid (Nat.le_trans hc hm)
  have B1 := Lib.hid b1
  have BB := Lib.hid hb
  clear hZ hcz b1 hb hk hP hP3 hl hr hm hc1 hic
  by_cases hs : m ≤ 32
  · have hd : decide ((32 : Int) < (m : Int)) = false := by simp; omega
    by_cases h0 : m = 0
    · subst h0
      go_enter Try.func9, Try.ntmps9
      go_wp2_with fail
      refine (Ci.ciAwake_any _).mono ?_
      rintro e w1 ⟨rfl, bw⟩
      have CB := Lib.hid (BB.out.trans (bw.mono BB.out.size))
      clear bw B1 BB
      go_wp2_with fail
      go_ret
      exact ⟨rfl, CB.out⟩
    · have hm0 : ((m : Int) == 0) = false := by simp; omega
      obtain ⟨i, hi⟩ : ∃ i : Nat, i = a.toNat % m := ⟨_, rfl⟩
      have him : i < m := by rw [hi]; exact Nat.mod_lt _ (by omega)
      have hia : a % (m : Int) = (i : Int) := by
        obtain ⟨a', rfl⟩ := Int.eq_ofNat_of_zero_le ha.1
        rw [hi, Int.toNat_natCast, Int.natCast_emod]
      have hia' : a.tmod (m : Int) = (i : Int) := by rw [Int.tmod_eq_emod_of_nonneg ha.1]; exact hia
      have i0 : (0 : Int) ≤ (i : Int) := by omega
      have i1 : (i : Int) < (m : Int) := by omega
      have i2 : (i : Int) ≤ (m : Int) := by omega
      have i3 : (i : Int) ≤ (c : Int) := by omega
      have a0 := ha.1
      have a1 := ha.2
      clear hi ha
      go_enter Try.func9, Try.ntmps9
      go_wp2_with fail
      refine (Ci.ciAwake_any _).mono ?_
      rintro e w1 ⟨rfl, bw⟩
      have C1 := Lib.hid (B1.out.below bw)
      have CB := Lib.hid (BB.out.trans (bw.mono BB.out.size))
      have hgl : w.heap.size < w1.heap.size := C1.out.lt
      clear bw B1 BB
      go_wp2_with (first
        | (refine wpList_store_row rfl 46 (.tmp 9) (.tmp 26) rfl w1.heap.size cz rfl rfl 46 cz (heap_alloc_new _ _) HIC.out rfl C1C.out ?_
           generalize hw2 : World.setRow _ _ _ = w2
           have d1 : Blk w2 w.heap.size (bva k) 23 := by rw [← hw2]; exact blk_past C1.out
           have d2 : Blk w2 w1.heap.size cz 46 := by rw [← hw2]; exact blk_new _
           have db : Below w.heap.size w w2 := by rw [← hw2]; exact below_new CB.out CB.out.size
           have D1 := Lib.hid d1
           have D2 := Lib.hid d2
           have DB := Lib.hid db
           clear d1 d2 db hw2 C1 CB)
        | (refine wpList_load_row rfl 46 (.tmp 9) rfl w1.heap.size rfl 46 cz (0, 0) _ D2.out Try.underlying46 rfl HIC.out ?_)
        | (refine wpList_load_row rfl 23 (.tmp 4) rfl w.heap.size rfl 23 (bva k) (0, 0) _ D1.out Try.underlying23 rfl HI.out ?_))
      refine (HZ.out A m c l _ HL.out hs ((HR.out.below DB.out).more DB.out.size)).mono ?_
      rintro e w3 ⟨A1, n1, c1, rfl, ho1, bw⟩
      have hx : (Wi.xorL l P).length = m := by rw [Wi.xorL_length, HL.out, HP3.out]; omega
      have hn1 : m = n1 := by rw [← own_blen ho1, hx]
      obtain rfl : m = n1 := hn1
      obtain ⟨g1, hA1, _, hc1c, hc1m⟩ := own_addr ho1 (by omega)
      subst hA1
      have HX := Lib.hid hx
      have R1 := Lib.hid (Rd.own ho1)
      have N1 := Lib.hid (own_max ho1)
      have E1 := Lib.hid (D1.out.below bw)
      have E2 := Lib.hid (D2.out.below bw)
      have EB := Lib.hid (DB.out.trans (bw.mono DB.out.size))
      have i4 : (i : Int) ≤ (c1 : Int) := by omega
      clear ho1 bw D1 D2 DB hx
      go_wp2_with fail
      refine wp_region_held_drew (S := fun w' => Blk w' w.heap.size (bva k) 23 ∧ Blk w' w1.heap.size cz 46 ∧ Below w.heap.size w w') (by kernel_rfl) ⟨E1.out, E2.out, EB.out.drew⟩ (fun hh => ?_)
      have HH := Lib.hid hh
      clear hh
      refine wpAnyH_take (i := 0) (v := .agg cz) rfl (by kernel_rfl) (by kernel_rfl) (by kernel_rfl) (fun _ _ _ h => h) (Or.inl ⟨by rfl, fun w' hw' => ?ya0⟩) HH.out ?_
      case ya0 => exact exec_load 46 (.tmp 9) rfl rfl hw'.2.1 Try.underlying46 rfl HIC.out
      refine wpAnyH_take (i := 1) (v := ?va1) rfl (by kernel_rfl) (by kernel_rfl) (by kernel_rfl) (fun _ _ _ h => h) (Or.inl ⟨by rfl, fun w' _ => ?ya1⟩) HH.out ?_
      case ya1 => (go_simp; try with_reducible rfl)
      try simp only [List.getElem_toArray, List.getElem_cons_succ, List.getElem_cons_zero, Act.put, List.setIfInBounds_toArray, List.set_cons_zero, List.set_cons_succ]
      refine wpAnyH_take (i := 2) (v := .agg (bva k)) rfl (by kernel_rfl) (by kernel_rfl) (by kernel_rfl) (fun _ _ _ h => h) (Or.inl ⟨by rfl, fun w' hw' => ?ya2⟩) HH.out ?_
      case ya2 => exact exec_load 23 (.tmp 4) rfl rfl hw'.1 Try.underlying23 rfl HI.out
      refine wpAnyH_take (i := 3) (v := ?va3) rfl (by kernel_rfl) (by kernel_rfl) (by kernel_rfl) (fun _ _ _ h => h) (Or.inl ⟨by rfl, fun w' _ => ?ya3⟩) HH.out ?_
      case ya3 => (go_simp; try with_reducible rfl)
      refine wpAnyH_take (i := 4) (v := ?va4) rfl (by kernel_rfl) (by kernel_rfl) (by kernel_rfl) (fun _ _ _ h => h) (Or.inl ⟨by rfl, fun w' _ => ?ya4⟩) HH.out ?_
      case ya4 => (go_simp; try with_reducible rfl)
      try simp only [List.getElem_toArray, List.getElem_cons_succ, List.getElem_cons_zero, Act.put, List.setIfInBounds_toArray, List.set_cons_zero, List.set_cons_succ]
      refine wpAnyH_take (i := 5) (v := ?va5) rfl (by kernel_rfl) (by kernel_rfl) (by kernel_rfl) (fun _ _ _ h => h) (Or.inl ⟨by rfl, fun w' _ => ?ya5⟩) HH.out ?_
      case ya5 => (go_simp; try with_reducible rfl)
      refine wpAnyH_take (i := 6) (v := ?va6) rfl (by kernel_rfl) (by kernel_rfl) (by kernel_rfl) (fun _ _ _ h => h) (Or.inl ⟨by rfl, fun w' _ => ?ya6⟩) HH.out ?_
      case ya6 => (go_simp; try with_reducible rfl)
      try simp only [List.getElem_toArray, List.getElem_cons_succ, List.getElem_cons_zero, Act.put, List.setIfInBounds_toArray, List.set_cons_zero, List.set_cons_succ]
      refine wpAnyH_ready (rs := [7]) (by kernel_rfl) (by simp) (AllReadyH.cons rfl (fun K hK => ?_) AllReadyH.nil)
      go_simp
      refine (HZ.out A i c (l.take i) _ (by rw [List.length_take, HL.out]; omega) (by omega) (((HR.out.take i).below HH.out.2.2).more HH.out.2.2.size)).mono ?_
      rintro e w4 ⟨A2, n2, c2, rfl, ho2, bw⟩
      rw [xorL_front] at ho2
      have hn2 : i = n2 := by rw [← own_blen ho2, List.length_take, HX.out]; omega
      obtain rfl : i = n2 := hn2
      have R2 := Lib.hid (Rd.own ho2)
      have N2 := Lib.hid (own_max ho2)
      have S1 := Lib.hid (((show Rd w3.drew.heap.size w3.drew _ _ from R1.out).below bw).more bw.size)
      clear ho2 R1
      go_simp
      refine hK.out _ _ ⟨HH.out.1.below bw, HH.out.2.1.below bw, HH.out.2.2.trans (bw.mono HH.out.2.2.size)⟩ (fun hh => ?_)
      have HH' := Lib.hid hh
      clear hh hK K HH bw
      have HH := Lib.hid HH'.out
      clear HH'
      try simp only [List.getElem_toArray, List.getElem_cons_succ, List.getElem_cons_zero, Act.put, List.setIfInBounds_toArray, List.set_cons_zero, List.set_cons_succ]
      refine wpAnyH_take (i := 8) (v := ?va8) rfl (by kernel_rfl) (by kernel_rfl) (by kernel_rfl) (fun _ _ _ h => h) (Or.inl ⟨by rfl, fun w' _ => ?ya8⟩) HH.out ?_
      case ya8 => (go_simp; try with_reducible rfl)
      try simp only [List.getElem_toArray, List.getElem_cons_succ, List.getElem_cons_zero, Act.put, List.setIfInBounds_toArray, List.set_cons_zero, List.set_cons_succ]
      refine wpAnyH_done (by kernel_rfl) ?_ _
      have G1 := Lib.hid HH.out.1
      have G2 := Lib.hid HH.out.2.1
      have GB := Lib.hid HH.out.2.2
      clear HH E1 E2 EB
      have t0 : Blk (w4.alloc (.cells (bva []) 5)) w4.heap.size (bva []) 5 := heap_alloc_new _ _
      have t1 : Blk (w4.alloc (.cells (bva []) 5)) w.heap.size (bva k) 23 := (heap_alloc_old _ _ G1.out.lt).trans G1.out
      have t2 : Blk (w4.alloc (.cells (bva []) 5)) w1.heap.size cz 46 := (heap_alloc_old _ _ G2.out.lt).trans G2.out
      have tw : Below w4.heap.size w4 (w4.alloc (.cells (bva []) 5)) := (Below.refl _ _).alloc (Nat.le_refl _) _
      have hg1 : w.heap.size < w4.heap.size := G1.out.lt
      have hg2 : w1.heap.size < w4.heap.size := G2.out.lt
      have T0 := Lib.hid t0
      have T1 := Lib.hid t1
      have T2 := Lib.hid t2
      have TB := Lib.hid (GB.out.trans (tw.mono GB.out.size))
      have TW := Lib.hid tw
      have GBW := Lib.hid GB.out
      obtain ⟨b0, hb0⟩ : ∃ b0, b0 = l.getD i 0 := ⟨_, rfl⟩
      have HB0 := Lib.hid hb0
      clear t0 t1 t2 tw G1 G2 GB hb0
      go_wp2_with (first
        | (at_builtin
           refine wpList_app _ rfl (.tmp 46) (.tmp 47) 33 rfl Wi.bytesElt (base := w4.heap.size) (v := .slice (some ⟨w4.heap.size, 0, none⟩) 0 0) rfl (own_of_blk T0.out rfl (Nat.zero_le _) (Nat.le_refl _)) (m := m) rfl (HR.out.below TB.out) (by rw [bv_length]; exact HL.out) (bv_one _) ?_ ?_ ?_
           · omega
           · exact Nat.le_of_lt T0.out.lt
           intro A0 c0 w5 hown hgr _
           have hbb : Below w4.heap.size _ w5 := app_below TW.out (own_of_blk T0.out rfl (Nat.zero_le _) (Nat.le_refl _)) hgr (Nat.le_refl _) (Nat.le_of_lt T0.out.lt)
           rw [bv_nil, List.nil_append] at hown
           have ho := own_eq hown (Nat.zero_add m) rfl
           obtain ⟨gd, hA0, hgd, hm0c, hc0m⟩ := own_addr ho (by omega)
           subst hA0
           have hcd := ho.cellAt i (by omega)
           have hfd := ho.frozenAt i
           rw [bv_get (by rw [HL.out]; exact him)] at hcd
           have e0 : l[i]'(by rw [HL.out]; exact him) = b0 := by rw [HB0.out, List.getD_eq_getElem?_getD, List.getElem?_eq_getElem (by rw [HL.out]; exact him)]; rfl
           rw [e0] at hcd
           have j1 : Blk (w5.setCell ⟨gd, i, none⟩ (.int .u8 (bits .xor .u8 (b0.toNat : Int) 5))) w.heap.size (bva k) 23 := Blk.other ((hbb.block _ (by omega)).trans ((heap_alloc_old _ _ hg1).symm.trans T1.out)) (by omega) _ _
           have j2 : Blk (w5.setCell ⟨gd, i, none⟩ (.int .u8 (bits .xor .u8 (b0.toNat : Int) 5))) w1.heap.size cz 46 := Blk.other ((hbb.block _ (by omega)).trans ((heap_alloc_old _ _ hg2).symm.trans T2.out)) (by omega) _ _
           have jb : Below w4.heap.size w4 (w5.setCell ⟨gd, i, none⟩ (.int .u8 (bits .xor .u8 (b0.toNat : Int) 5))) := hbb.setCell hgd _
           have jo := (ho.stored i (.int .u8 (bits .xor .u8 (b0.toNat : Int) 5))).1
           have J1 := Lib.hid j1
           have J2 := Lib.hid j2
           have JB := Lib.hid jb
           have JO := Lib.hid jo
           have e3 : Value.slice (some ⟨gd, 0, none⟩) (0 + m) c0 = .slice (some ⟨gd, 0, none⟩) m c0 := slice_eq (Nat.zero_add m)
           rw [e3]
           have i5 : (i : Int) < (c0 : Int) := by omega
           clear e3 hown hgr hbb ho e0 j1 j2 jb jo T0 T1 T2 TW)
        | (refine wpList_load_row rfl 46 (.tmp 9) rfl w1.heap.size rfl 46 cz (0, 0) _ J2.out Try.underlying46 rfl HIC.out ?_)
        | (refine wpList_load_row rfl 23 (.tmp 4) rfl w.heap.size rfl 23 (bva k) (0, 0) _ J1.out Try.underlying23 rfl HI.out ?_))
      obtain ⟨D, hD⟩ : ∃ D, D = l.set i (b0 ^^^ 5) := ⟨_, rfl⟩
      have eD : (bv l).set i (.int .u8 (bits .xor .u8 (b0.toNat : Int) 5)) = bv D := by
        rw [hD, bv_set']; exact congrArg (fun v => (bv l).set i (Value.int .u8 v)) (Wi.bits_xor8 b0 5)
      have hDl : D.length = m := by rw [hD, List.length_set]; exact HL.out
      have jo := JO.out
      rw [eD] at jo
      have HD := Lib.hid hD
      have HDL := Lib.hid hDl
      have RD := Lib.hid (Rd.own jo)
      clear hD hDl jo JO eD hcd hfd
      refine (HZ.out (some ⟨gd, 0, none⟩) m c0 D _ HDL.out hs RD.out).mono ?_
      rintro e w7 ⟨A3, n3, c3, rfl, ho3, bw⟩
      have hy : (Wi.xorL D P).length = m := by rw [Wi.xorL_length, HDL.out, HP3.out]; omega
      have hn3 : m = n3 := by rw [← own_blen ho3, hy]
      obtain rfl : m = n3 := hn3
      have HY := Lib.hid hy
      have R3 := Lib.hid (Rd.own ho3)
      have hj := JB.out.size
      have U1 := Lib.hid ((((S1.out.below JB.out).more hj).below bw).more bw.size)
      have U2 := Lib.hid ((((R2.out.below JB.out).more hj).below bw).more bw.size)
      have hwj : w.heap.size ≤ w4.heap.size := Nat.le_of_lt hg1
      have KB := Lib.hid ((GBW.out.trans (JB.out.mono hwj)).trans (bw.mono (Nat.le_trans hwj hj)))
      clear ho3 bw hy S1 R2 RD J1 J2 JB
      go_wp2_with fail
      refine (same_r (b := true) (xs := (Wi.xorL l P).take i) (ys := (Wi.xorL l P).take i) (by rw [decide_eq_true rfl]) (by rw [List.length_take, HX.out]; omega) (by rw [List.length_take, HX.out]; omega) U2.out (U1.out.take i) N2.out N2.out).mono ?_
      rintro e w8 ⟨rfl, bw⟩
      have V1 := Lib.hid ((U1.out.below bw).more bw.size)
      have V3 := Lib.hid ((R3.out.below bw).more bw.size)
      have FB := Lib.hid (KB.out.trans (bw.mono KB.out.size))
      clear bw U1 U2 R3 KB
      go_wp2_with fail
      go_loopw [15] (fun v wr => ∃ j : Nat, j ≤ m ∧ v = .int .i64 j ∧ ∃ q, wr = w8.drewN q) (fun v _ => m - (intOf v).toNat)
      case atStart => exact ⟨0, by omega, rfl, 0, rfl⟩
      case round =>
        obtain ⟨j, hj, rfl, q, rfl⟩ := hrel
        by_cases hlt : j < m
        · have hl1 : j < l.length := by rw [HL.out]; exact hlt
          have hd1 : j < D.length := by rw [HDL.out]; exact hlt
          have hp1 : j < P.length := by rw [HP3.out]; omega
          have hx1 : j < (Wi.xorL l P).length := by rw [HX.out]; exact hlt
          have hy1 : j < (Wi.xorL D P).length := by rw [HY.out]; exact hlt
          obtain ⟨ad, hA, _, hca⟩ := V1.out.at_ hx1
          obtain ⟨bd, hA', _, hcb⟩ := V3.out.at_ hy1
          injection hA with hA
          subst hA
          subst hA'
          rw [add_head] at hca
          have j0 : (0 : Int) ≤ (j : Int) := by omega
          have j1 : (j : Int) < (m : Int) := by omega
          by_cases hji : j = i
          · subst hji
            obtain ⟨X, hX⟩ : ∃ X, X = (Wi.xorL l P)[j] := ⟨_, rfl⟩
            obtain ⟨Y, hY⟩ : ∃ Y, Y = (Wi.xorL D P)[j] := ⟨_, rfl⟩
            rw [← hX] at hca
            rw [← hY] at hcb
            have hbits : bits .xor .u8 (X.toNat : Int) (Y.toNat : Int) = 5 := by
              have e1 : D[j] = b0 ^^^ 5 := by
                have h1 : D[j]? = some (b0 ^^^ 5) := by rw [HD.out, List.getElem?_set_self hl1]
                rw [List.getElem?_eq_getElem hd1] at h1
                injection h1
              have e2 : l[j] = b0 := by rw [HB0.out, List.getD_eq_getElem?_getD, List.getElem?_eq_getElem hl1]; rfl
              rw [Wi.bits_xor8, hX, hY, Wi.xorL_get hx1 hl1 hp1, Wi.xorL_get hy1 hd1 hp1, e1, e2, xor_five]
              rfl
            clear hX hY
            go_wp2
            go_quiet (fail)
            go_wp2
            go_roundw
            case rel => exact ⟨j + 1, by omega, by go_num, q + nq, rfl⟩
            case measure => simp [intOf]; omega
          · obtain ⟨X, hX⟩ : ∃ X, X = (Wi.xorL l P)[j] := ⟨_, rfl⟩
            have hXY : (Wi.xorL D P)[j] = X := by
              have e1 : D[j] = l[j] := by
                have h1 : D[j]? = l[j]? := by rw [HD.out, List.getElem?_set_ne (fun e => hji e.symm)]
                rw [List.getElem?_eq_getElem hd1, List.getElem?_eq_getElem hl1] at h1
                injection h1
              rw [hX, Wi.xorL_get hx1 hl1 hp1, Wi.xorL_get hy1 hd1 hp1, e1]
            rw [← hX] at hca
            rw [hXY] at hcb
            have hji1 : ((j : Int) == (i : Int)) = false := by simp; omega
            have hji2 : ((j : Int) != (i : Int)) = true := by simp; omega
            clear hX hXY
            go_wp2
            go_quiet (fail)
            go_wp2
            go_roundw
            case rel => exact ⟨j + 1, by omega, by go_num, q + nq, rfl⟩
            case measure => simp [intOf]; omega
        · obtain rfl : j = m := by omega
          go_wp2
          go_ret
          exact ⟨rfl, below_drewN' FB.out q⟩
  · have hd : decide ((32 : Int) < (m : Int)) = true := by simp; omega
    go_enter Try.func9, Try.ntmps9
    go_wp2_with fail
    refine (Ci.ciAwake_any _).mono ?_
    rintro e w1 ⟨rfl, bw⟩
    have CB := Lib.hid (BB.out.trans (bw.mono BB.out.size))
    clear bw B1 BB
    go_wp2_with fail
    go_ret
    exact ⟨rfl, CB.out⟩
theorem cipherFronts_own : ownKnob Try.prog.godebug = none := by kernel_rfl
theorem cipherFronts_laid : laidOutB Try.prog = true := by kernel_rfl

set_option maxRecDepth 100000 in
theorem cipherFronts_lifted (os : Os) (started : os.Started) (H : Type) (enc : TypeId × Value → H) :
    ReturnsInHanded {} Try.checked os 9 .any (Rows.cipherFrontsSpec.pre6 enc Try.prog Try.f9 Rows.cipherFrontsRow.domain false) (Rows.cipherFrontsSpec.post enc Try.prog Try.f9 false true false false) := by
  refine returnsInHanded_of_change (C := Try.checked) cipherFronts_own started (by kernel_rfl) Try.func9
    (ChangeSpec.witness6 (enc := enc) (C := Try.checked) false ⟨#[], #[.agg #[.int .u8 0, .int .u8 0, .int .u8 0, .int .u8 0, .int .u8 0, .int .u8 0, .int .u8 0, .int .u8 0, .int .u8 0, .int .u8 0, .int .u8 0, .int .u8 0, .int .u8 0, .int .u8 0, .int .u8 0, .int .u8 0, .int .u8 0, .int .u8 0, .int .u8 0, .int .u8 0, .int .u8 0, .int .u8 0, .int .u8 0, .int .u8 0, .int .u8 0, .int .u8 0, .int .u8 0, .int .u8 0, .int .u8 0, .int .u8 0, .int .u8 0, .int .u8 0], .int .u64 0, .slice none 0 0, .int .u8 0], []⟩ 8 (by kernel_rfl) (by kernel_rfl) (by kernel_rfl) (by kernel_rfl)) ?_
  intro W base args ds gs before hval0 hW _ _
  have hval : ∀ (j : Nat) t v, Try.f9.params[j]? = some t → args[j]? = some v → Value.okWide Try.prog W .any base t v := hval0
  have hW' := hW
  obtain ⟨p, q, hA0, hV, rfl, hfz, hnd⟩ := hW
  have hA : DataW.TrodAll enc Try.prog W 0 (fun _ => true) true Try.f9.params.toList args.toList ds p := hA0
  rw [Try.params9] at hA hval
  obtain ⟨v0, vs0, d0, ds0, p0, q0, hargs, rfl, rfl, h0, r0⟩ := trodAll_cons hA
  obtain ⟨v1, vs1, d1, ds1, p1, q1, rfl, rfl, rfl, h1, r1⟩ := trodAll_cons r0
  obtain ⟨v2, vs2, d2, ds2, p2, q2, rfl, rfl, rfl, h2, r2⟩ := trodAll_cons r1
  obtain ⟨v3, vs3, d3, ds3, p3, q3, rfl, rfl, rfl, h3, r3⟩ := trodAll_cons r2
  obtain ⟨rfl, rfl, rfl⟩ := trodAll_nil r3
  obtain rfl : args = #[v0, v1, v2, v3] := by cases args; simp_all
  obtain ⟨rfl, rfl⟩ := trodVars_none hV
  have lt0 : ∀ x ∈ p0, x.block < W.heap.size := by obtain ⟨m, hm⟩ := h0; exact DataW.trod_lt m _ _ _ hm
  obtain ⟨l0, hl0, rfl⟩ := open_u8s Try.underlying23 Try.underlying5 (by kernel_rfl) (by kernel_rfl) (hval 0 23 v0 rfl rfl) h0
  obtain ⟨a1, rfl, rfl, rfl, w1⟩ := open_int Try.underlying24 (hval 1 24 v1 rfl rfl) h1
  have b1 := bounds_u64 w1
  obtain ⟨a2, n2, c2, rfl⟩ := okWide_slice Try.underlying33 (hval 2 33 v2 rfl rfl)
  have lt2 : ∀ x ∈ p2, x.block < W.heap.size := by obtain ⟨m, hm⟩ := h2; exact DataW.trod_lt m _ _ _ hm
  obtain ⟨l2, hl2, hc2, hm2, hr2⟩ := open_bytes Try.underlying33 Try.underlying5 (by kernel_rfl) h2
  obtain ⟨a3, rfl, rfl, rfl, w3⟩ := open_int Try.underlying5 (hval 3 5 v3 rfl rfl) h3
  have b3 := bounds_u8 w3
  clear hA0 hval0
  refine (cipherFronts_any W l0 hl0 a1 b1 a2 n2 c2 l2 hl2 hc2 hm2 hr2 a3 b3).mono fun e W' ⟨he, bel⟩ => ?_
  subst he
  exact ⟨_, rfl, _, _, _, [], _, [], hW', trodAll_mk1 (shut_bool Try.underlying4 _), (trodAll_cons_mk (Below.trod cipherFronts_laid (by kernel_rfl) (of_decide_eq_true (by kernel_rfl)) h0 bel lt0) (trodAll_cons_mk (shut_int Try.underlying24 w1) (trodAll_cons_mk (Below.trod cipherFronts_laid (by kernel_rfl) (of_decide_eq_true (by kernel_rfl)) h2 bel lt2) (trodAll_cons_mk (shut_int Try.underlying5 w3) trodAll_mk0)))), rfl, bel.frame _, fun h => by cases h⟩

theorem cipherFronts_holds : Rows.CipherFrontsSaid :=
  OpenClaim.holds_of_wide 9 Try.f9 rfl rfl rfl rfl rfl rfl rfl ⟨rfl, rfl, rfl, rfl, rfl⟩ rfl rfl rfl rfl rfl (by kernel_rfl) Try.func9 (by kernel_rfl)
    (of_decide_eq_true (by kernel_rfl)) (by unfold Func.isWrapper; rw [if_neg (of_decide_eq_false (by kernel_rfl))]; exact ⟨rfl, rfl⟩)
    (fun os started H enc _ => cipherFronts_lifted os started H enc)

#print axioms cipherFronts_holds

end Go.Proofs.Ytobkkbpeoohfkaa
