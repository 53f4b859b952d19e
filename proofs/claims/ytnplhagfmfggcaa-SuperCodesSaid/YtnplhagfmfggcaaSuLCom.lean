/-
  SuperCodes: any super has the bytes that the document says, or none; one that may be is read from them as it is; cut short, or with more behind, they are none.
-/
import Derived.Test.YtnplhagfmfggcaaSx1
import Derived.Test.YtnplhagfmfggcaaRows
import Derived.ProofKit
import Derived.OpenShut
import Derived.ShutString
import Derived.ChangeOld
namespace Go.Proofs.Ytnplhagfmfggcaa
open Go.RowKit Kd Mi Sx Su Go.ChangeShapes Go.WideShapes Go.ChangeAt
attribute [local go_sem ↓] Go.wp_at_zero Go.wp_at_succ
set_option maxRecDepth 100000 in
set_option maxHeartbeats 12800000 in
theorem superCodes_any (w : World) (s : Sp) (hs : s.ok) (A : Option Addr) (N c : Nat) (l : List UInt8) (hl : l.length = N) (_ : N ≤ c) (hm : c ≤ maxLen) (hr : Rd w.heap.size w A (bv l)) (k : Int) (hk : 0 ≤ k ∧ k ≤ 255) : Calls Try.prog 6 #[spA s, .slice A N c, .int .u8 k] w (RetB (.bool true) w) := by
  have HM := Lib.hid (show N ≤ 9223372036854775807 by unfold maxLen at hm; omega)
  have HS := Lib.hid hs
  have HL := Lib.hid hl
  have hzs := zero_super
  obtain ⟨w1, hw1⟩ : ∃ W, W = w.alloc (.cells #[.int .u64 (s.v : Int), .int .i64 s.n, .int .u64 (s.t : Int)] 100) := ⟨_, rfl⟩
  have X1 := Lib.hid (show Blk w1 w.heap.size #[.int .u64 (s.v : Int), .int .i64 s.n, .int .u64 (s.t : Int)] 100 by rw [hw1]; exact heap_alloc_new _ _)
  have bw : Below w.heap.size w w1 := by rw [hw1]; exact (Below.refl _ _).alloc (Nat.le_refl _) _
  have R1 := Lib.hid (hr.below bw)
  have B1 := Lib.hid bw
  have HEN := Lib.hid (fun W => uenc_any s hs W)
  unfold spA at HEN
  unfold spA
  clear hl hr hm bw hs
  go_enter Try.func6, Try.ntmps6
  go_wp2_with fail
  rw [← hw1]
  clear hw1
  refine (awake_any w1).mono ?_
  rintro e w2 ⟨rfl, bw⟩
  have R2 := Lib.hid (R1.out.below (bw.mono B1.out.size))
  have X2 := Lib.hid (X1.out.below bw)
  have B2 := Lib.hid (B1.out.trans (bw.mono B1.out.size))
  clear bw R1 X1 B1
  by_cases hn : 20 < N
  · have n1 : (20 : Int) < (N : Int) := by omega
    go_wp2_with fail
    go_ret
    exact ⟨rfl, B2.out⟩
  have n1 : ¬ (20 : Int) < (N : Int) := by omega
  have HN := Lib.hid (show N ≤ 20 by omega)
  clear hn
  have c0 := X2.out.cell 0
  have c1 := X2.out.cell 1
  have c2 := X2.out.cell 2
  go_wp2_with fail
  refine (HEN.out w2).mono ?_
  rintro e w3 ⟨AE, nE, cE, rfl, ho, bw⟩
  have R3 := Lib.hid (R2.out.below (bw.mono B2.out.size))
  have X3 := Lib.hid (X2.out.below bw)
  have OE := Lib.hid ho
  have B3 := Lib.hid (B2.out.trans (bw.mono B2.out.size))
  clear bw R2 X2 c0 c1 c2 ho
  have c0 := X3.out.cell 0
  have c1 := X3.out.cell 1
  have c2 := X3.out.cell 2
  go_wp2_with fail
  refine (may_any s w3).mono ?_
  rintro e w4 ⟨rfl, bw⟩
  have R4 := Lib.hid (R3.out.below (bw.mono B3.out.size))
  have X4 := Lib.hid (X3.out.below bw)
  have O4 := Lib.hid (own_below OE.out bw)
  have B4 := Lib.hid (B3.out.trans (bw.mono B3.out.size))
  clear bw R3 X3 c0 c1 c2 OE B3
  by_cases hok : okP s = true
  · have HOK := Lib.hid hok
    have HBE := Lib.hid (show bytP s = encP s by rw [bytP, if_pos hok])
    rw [HBE.out] at O4
    have hE := own_blen O4.out
    rw [encP_length] at hE
    subst hE
    rw [hok]
    have HCE := Lib.hid (own_cap O4.out)
    have RE4 := Lib.hid (Rd.own O4.out)
    obtain ⟨Z, hZ⟩ : ∃ Z : ByteArray, Z = ⟨(encP s).toArray⟩ := ⟨_, rfl⟩
    have HZ := Lib.hid hZ
    have HZZ := Lib.hid (show (Z.toList == Z.toList) = true by simp)
    have HKC := Lib.hid (fun (W : World) (hR : Rd w4.heap.size W AE (bv (encP s))) => show (convert 81 9 (.slice AE 14 cE)).run Try.prog W = .ok (.string Z) W by
      rw [hZ]; exact conv_rd Try.underlying81 Try.underlying5 Try.underlying9 hR (encP_length s))
    clear hok hZ
    have hdr : Below w4.heap.size w4 w4.drew := (Below.refl _ _).drew
    have c0 := X4.out.cell 0
    have c1 := X4.out.cell 1
    have c2 := X4.out.cell 2
    go_wp2_with fail
    refine wp_region_held_drew (S := fun w' => Blk w' w.heap.size #[.int .u64 (s.v : Int), .int .i64 s.n, .int .u64 (s.t : Int)] 100 ∧ Rd w4.heap.size w' AE (bv (encP s))) (by kernel_rfl) ⟨(show Blk (World.drew _) _ _ _ from X4.out), RE4.out.below hdr⟩ (fun hh => ?_)
    have HH := Lib.hid hh
    clear hh
    have B8 := Lib.hid hdr
    clear hdr c0 c1 c2
    try simp only [List.getElem_toArray, List.getElem_cons_succ, List.getElem_cons_zero, Act.put, List.setIfInBounds_toArray, List.set_cons_zero, List.set_cons_succ]
    refine wpAnyH_take (i := 0) (v := ?v1) rfl (by kernel_rfl) (by kernel_rfl) (by kernel_rfl) (fun _ _ _ h => h) (Or.inl ⟨by rfl, fun w' hw' => ?y1⟩) HH.out ?_
    case y1 => (go_simp; try with_reducible rfl)
    try simp only [List.getElem_toArray, List.getElem_cons_zero, Act.put, List.setIfInBounds_toArray, List.set_cons_zero, List.set_cons_succ]
    refine wpAnyH_take (i := 1) (v := .string Z) rfl (by kernel_rfl) (by kernel_rfl) (by kernel_rfl) (fun _ _ _ h => h) (Or.inl ⟨by rfl, fun w' hw' => ?y2⟩) HH.out ?_
    case y2 => (have kc := HKC.out w' hw'.2; go_simp; try with_reducible rfl)
    try simp only [List.getElem_toArray, List.getElem_cons_succ, List.getElem_cons_zero, Act.put, List.setIfInBounds_toArray, List.set_cons_zero, List.set_cons_succ]
    refine wpAnyH_take (i := 2) (v := ?v3) rfl (by kernel_rfl) (by kernel_rfl) (by kernel_rfl) (fun _ _ _ h => h) (Or.inl ⟨by rfl, fun w' hw' => ?y3⟩) HH.out ?_
    case y3 => (go_simp; try with_reducible rfl)
    try simp only [List.getElem_toArray, List.getElem_cons_succ, List.getElem_cons_zero, Act.put, List.setIfInBounds_toArray, List.set_cons_zero, List.set_cons_succ]
    refine wpAnyH_take (i := 3) (v := .int .u64 (s.v : Int)) rfl (by kernel_rfl) (by kernel_rfl) (by kernel_rfl) (fun _ _ _ h => h) (Or.inl ⟨by rfl, fun w' hw' => ?y4⟩) HH.out ?_
    case y4 => (have c0 := hw'.1.cell 0; go_simp; try with_reducible rfl)
    try simp only [List.getElem_toArray, List.getElem_cons_succ, List.getElem_cons_zero, Act.put, List.setIfInBounds_toArray, List.set_cons_zero, List.set_cons_succ]
    refine wpAnyH_take (i := 4) (v := ?v5) rfl (by kernel_rfl) (by kernel_rfl) (by kernel_rfl) (fun _ _ _ h => h) (Or.inl ⟨by rfl, fun w' hw' => ?y5⟩) HH.out ?_
    case y5 => (go_simp; try with_reducible rfl)
    try simp only [List.getElem_toArray, List.getElem_cons_succ, List.getElem_cons_zero, Act.put, List.setIfInBounds_toArray, List.set_cons_zero, List.set_cons_succ]
    refine wpAnyH_take (i := 5) (v := .int .i64 s.n) rfl (by kernel_rfl) (by kernel_rfl) (by kernel_rfl) (fun _ _ _ h => h) (Or.inl ⟨by rfl, fun w' hw' => ?y6⟩) HH.out ?_
    case y6 => (have c0 := hw'.1.cell 1; go_simp; try with_reducible rfl)
    try simp only [List.getElem_toArray, List.getElem_cons_succ, List.getElem_cons_zero, Act.put, List.setIfInBounds_toArray, List.set_cons_zero, List.set_cons_succ]
    refine wpAnyH_take (i := 6) (v := ?v7) rfl (by kernel_rfl) (by kernel_rfl) (by kernel_rfl) (fun _ _ _ h => h) (Or.inl ⟨by rfl, fun w' hw' => ?y7⟩) HH.out ?_
    case y7 => (go_simp; try with_reducible rfl)
    try simp only [List.getElem_toArray, List.getElem_cons_succ, List.getElem_cons_zero, Act.put, List.setIfInBounds_toArray, List.set_cons_zero, List.set_cons_succ]
    refine wpAnyH_take (i := 7) (v := .int .u64 (s.t : Int)) rfl (by kernel_rfl) (by kernel_rfl) (by kernel_rfl) (fun _ _ _ h => h) (Or.inl ⟨by rfl, fun w' hw' => ?y8⟩) HH.out ?_
    case y8 => (have c0 := hw'.1.cell 2; go_simp; try with_reducible rfl)
    try simp only [List.getElem_toArray, List.getElem_cons_succ, List.getElem_cons_zero, Act.put, List.setIfInBounds_toArray, List.set_cons_zero, List.set_cons_succ]
    refine wpAnyH_ready (rs := [8]) (by kernel_rfl) (by simp) (AllReadyH.cons rfl (fun K hK => ?_) AllReadyH.nil)
    go_simp
    refine (venc_any s HS.out HOK.out _).mono ?_
    rintro e w9 ⟨A2, n2, c2, rfl, ho, bw⟩
    go_simp
    have kc2 := conv_rd (c := c2) Try.underlying81 Try.underlying5 Try.underlying9 (Rd.own ho) (own_blen ho)
    rw [← HZ.out] at kc2
    have KC2 := Lib.hid kc2
    have B9 := Lib.hid (B8.out.trans (bw.mono B8.out.size))
    refine hK.out _ _ ⟨HH.out.1.below bw, HH.out.2.below (bw.mono B8.out.size)⟩ (fun hh => ?_)
    have HH' := Lib.hid hh
    clear hh hK K HH bw ho kc2 B8
    have HH := Lib.hid HH'.out
    clear HH'
    try simp only [List.getElem_toArray, List.getElem_cons_succ, List.getElem_cons_zero, Act.put, List.setIfInBounds_toArray, List.set_cons_zero, List.set_cons_succ]
    refine wpAnyH_ready (rs := [9]) (by kernel_rfl) (by simp) (AllReadyH.cons rfl (fun K hK => ?_) AllReadyH.nil)
    have kc2 := KC2.out
    go_simp
    refine hK.out _ _ HH.out (fun hh => ?_)
    have HH' := Lib.hid hh
    clear hh hK K HH kc2 KC2
    have HH := Lib.hid HH'.out
    clear HH'
    try simp only [List.getElem_toArray, List.getElem_cons_succ, List.getElem_cons_zero, Act.put, List.setIfInBounds_toArray, List.set_cons_zero, List.set_cons_succ]
    refine wpAnyH_take (i := 10) (v := .bool false) rfl (by kernel_rfl) (by kernel_rfl) (by kernel_rfl) (fun _ _ _ h => h) (Or.inl ⟨by rfl, fun w' hw' => ?y9⟩) HH.out ?_
    case y9 => (have hzz := HZZ.out; go_simp; try with_reducible rfl)
    try simp only [List.getElem_toArray, List.getElem_cons_succ, List.getElem_cons_zero, Act.put, List.setIfInBounds_toArray, List.set_cons_zero, List.set_cons_succ]
    refine wpAnyH_done (by kernel_rfl) ?_ _
    have R9 := Lib.hid (R4.out.below (B9.out.mono B4.out.size))
    have BB9 := Lib.hid (B4.out.trans (B9.out.mono B4.out.size))
    have SZ := Lib.hid (show w4.heap.size ≤ w9.heap.size from B9.out.size)
    have X9 := Lib.hid HH.out.1
    have RE9 := Lib.hid HH.out.2
    have HDE := Lib.hid (fun W (hB : w4.heap.size ≤ W.heap.size) (hR : Rd w4.heap.size W AE (bv (encP s))) => show Calls Try.prog 48 #[.slice AE 14 cE] W (RetB (.tuple #[spA s, .bool true]) W) by
      have hc := udec_any (B := w4.heap.size) AE 14 cE (encP s) W (encP_length s) hB hR HCE.out.1
      rw [dec_enc HOK.out HS.out.1, is_enc HOK.out HS.out.1] at hc
      exact hc)
    obtain ⟨q, hq⟩ : ∃ q : Nat, (q : Int) = k.tmod 14 := ⟨(k.tmod 14).toNat, by rw [Int.tmod_eq_emod_of_nonneg hk.1]; omega⟩
    have q1 : k.tmod 14 = (q : Int) := hq.symm
    have hq14 : q < 14 := by rw [Int.tmod_eq_emod_of_nonneg hk.1] at hq; omega
    have HQ := Lib.hid hq14
    have HDS := Lib.hid (fun W (hB : w4.heap.size ≤ W.heap.size) (hR : Rd w4.heap.size W AE (bv (encP s))) => show Calls Try.prog 48 #[.slice AE q cE] W (RetB (.tuple #[spA zeroP, .bool false]) W) by
      have hc := udec_any (B := w4.heap.size) AE q cE ((encP s).take q) W (by rw [List.length_take, encP_length]; omega) hB (hR.take q) (by have := HCE.out.1; omega)
      have hi : isP ((encP s).take q) = false := is_len (by rw [List.length_take, encP_length]; omega)
      rw [dec_not hi, hi] at hc
      exact hc)
    unfold spA at HDE HDS
    have z1 : wrap64 k = k := by unfold wrap64; omega
    have v1 : IntKind.i64.wrap k = k := IntWalk.i64_in _ (by omega)
    have d0 : (0 : Int) ≤ (q : Int) := by omega
    have d1 : (q : Int) ≤ (cE : Int) := by have := HCE.out.1; omega
    clear hq hk hq14 HH B9
    go_wp2_with fail
    refine (HDE.out w9 SZ.out RE9.out).mono ?_
    rintro e v1 ⟨rfl, bw⟩
    obtain ⟨v2, hv2⟩ : ∃ W, W = v1.alloc (.cells #[.int .u64 (s.v : Int), .int .i64 s.n, .int .u64 (s.t : Int)] 100) := ⟨_, rfl⟩
    have bw := bw.trans ((show Below v1.heap.size v1 v2 by rw [hv2]; exact (Below.refl _ _).alloc (Nat.le_refl _) _).mono bw.size)
    have R10 := Lib.hid (R9.out.below (bw.mono BB9.out.size))
    have RE10 := Lib.hid (RE9.out.below (bw.mono SZ.out))
    have X10 := Lib.hid (X9.out.below bw)
    have D10 := Lib.hid (show Blk v2 v1.heap.size #[.int .u64 (s.v : Int), .int .i64 s.n, .int .u64 (s.t : Int)] 100 by rw [hv2]; exact heap_alloc_new _ _)
    have B10 := Lib.hid (BB9.out.trans (bw.mono BB9.out.size))
    have SZ10 := Lib.hid (Nat.le_trans SZ.out bw.size)
    clear bw R9 RE9 X9 BB9 SZ
    go_wp2_with fail
    rw [← hv2]
    obtain ⟨b8, hb8⟩ : ∃ b, b = v1.heap.size := ⟨_, rfl⟩
    rw [← hb8] at D10
    rw [← hb8]
    clear hv2 hb8
    refine (HDS.out v2 SZ10.out RE10.out).mono ?_
    rintro e v3 ⟨rfl, bw⟩
    obtain ⟨v4, hv4⟩ : ∃ W, W = v3.alloc (.cells #[.int .u64 0, .int .i64 0, .int .u64 0] 100) := ⟨_, rfl⟩
    have bw := bw.trans ((show Below v3.heap.size v3 v4 by rw [hv4]; exact (Below.refl _ _).alloc (Nat.le_refl _) _).mono bw.size)
    have R11 := Lib.hid (R10.out.below (bw.mono B10.out.size))
    have RE11 := Lib.hid (RE10.out.below (bw.mono SZ10.out))
    have X11 := Lib.hid (X10.out.below bw)
    have D11 := Lib.hid (D10.out.below bw)
    have B11 := Lib.hid (B10.out.trans (bw.mono B10.out.size))
    have SZ11 := Lib.hid (Nat.le_trans SZ10.out bw.size)
    clear bw R10 RE10 X10 B10 SZ10 D10 HDE HDS
    have hVs : (v3.alloc (.cells #[.int .u64 0, .int .i64 0, .int .u64 0] 100)).heap.size = v3.heap.size + 1 := by simp
    have HO := Lib.hid (show ((v3.alloc (.cells #[.int .u64 0, .int .i64 0, .int .u64 0] 100)).alloc (.cells #[] 5)).ownsRow (v3.alloc (.cells #[.int .u64 0, .int .i64 0, .int .u64 0] 100)).heap.size 5 1 (.slice (some ⟨(v3.alloc (.cells #[.int .u64 0, .int .i64 0, .int .u64 0] 100)).heap.size, 0, none⟩) 0 0) 0 [] from World.ownsRow_lit _ #[] 0 (Nat.le_refl _) (Nat.zero_le _) rfl)
    rw [hVs] at HO
    have hbU : Below v4.heap.size v4 ((v3.alloc (.cells #[.int .u64 0, .int .i64 0, .int .u64 0] 100)).alloc (.cells #[] 5)) := by rw [hv4]; exact (Below.refl _ _).alloc (Nat.le_refl _) _
    have HSV := Lib.hid (show v4.heap.size = v3.heap.size + 1 by rw [hv4]; exact hVs)
    have HBU := Lib.hid (show Below (v3.heap.size + 1) v4 _ from HSV.out ▸ hbU)
    have REU := Lib.hid (RE11.out.below (hbU.mono SZ11.out))
    have RU := Lib.hid (R11.out.below (hbU.mono B11.out.size))
    clear hbU hVs
    go_wp2_with first
      | (at_builtin
         refine wpList_app _ rfl (.tmp 60) (.tmp 61) 81 rfl bytesElt (base := v3.heap.size + 1) (v := .slice (some ⟨v3.heap.size + 1, 0, none⟩) 0 0) rfl HO.out (m := 14) rfl REU.out (by rw [bv_length, encP_length]) (bv_one _) (by omega) (by simp) ?_
         intro A3 c3 x3 ho3 hg3 _
         have O3 := Lib.hid (own_eq ho3 (Nat.zero_add _) (List.nil_append _))
         have BX3 := Lib.hid (show Below (v3.heap.size + 1) v4 x3 from app_below HBU.out HO.out hg3 (Nat.le_refl _) (by simp))
         have RX3 := Lib.hid (R11.out.below (BX3.out.mono (by have := B11.out.size; have := HSV.out; omega)))
         rw [Nat.zero_add]
         clear ho3 hg3 HO)
      | (at_builtin
         refine wpList_app _ rfl (.tmp 62) (.tmp 63) 81 rfl bytesElt (base := v3.heap.size + 1) (v := .slice A3 14 c3) rfl O3.out (m := N) rfl RX3.out (by rw [bv_length, HL.out]) (bv_one _) (by have := HN.out; omega) (by have := BX3.out.size; have := HSV.out; omega) ?_
         intro A4 c4 x4 ho4 hg4 _
         have O4b := Lib.hid ho4
         have BX4 := Lib.hid (show Below (v3.heap.size + 1) v4 x4 from app_below BX3.out O3.out hg4 (Nat.le_refl _) (by have := BX3.out.size; have := HSV.out; omega))
         clear ho4 hg4 O3 BX3 RX3)
    have hap : bv (encP s) ++ bv l = bv (encP s ++ l) := by simp [bv]
    rw [hap] at O4b
    have hc4 := own_cap O4b.out
    have HDL := udec_any (B := x4.heap.size) A4 (14 + N) c4 (encP s ++ l) x4 (by rw [List.length_append, encP_length, HL.out]) (Nat.le_refl _) (Rd.own O4b.out) hc4.1
    have BX := Lib.hid (B11.out.trans (BX4.out.mono (by have := B11.out.size; have := HSV.out; omega)))
    have X12 := Lib.hid (X11.out.below (HSV.out.symm ▸ BX4.out))
    have D12 := Lib.hid (D11.out.below (HSV.out.symm ▸ BX4.out))
    clear hap hc4 hv4 X11 D11 R11 RE11 B11 SZ11 REU RU HBU
    by_cases h0 : N = 0
    · subst h0
      have hl0 : l = [] := List.length_eq_zero_iff.1 HL.out
      rw [hl0, List.append_nil, dec_enc HOK.out HS.out.1, is_enc HOK.out HS.out.1] at HDL
      unfold spA at HDL
      clear hl0
      refine HDL.mono ?_
      rintro e x5 ⟨rfl, bw⟩
      clear HDL
      have X13 := Lib.hid (X12.out.below bw)
      have D13 := Lib.hid (D12.out.below bw)
      have B13 := Lib.hid (BX.out.trans (bw.mono BX.out.size))
      clear bw X12 D12 BX
      have bal := (Below.refl x5.heap.size x5).alloc (Nat.le_refl _) (.cells #[.int .u64 (s.v : Int), .int .i64 s.n, .int .u64 (s.t : Int)] 100)
      have cc0 : (x5.alloc (.cells #[.int .u64 (s.v : Int), .int .i64 s.n, .int .u64 (s.t : Int)] 100)).cell? _ = _ := (X13.out.below bal).cell 0
      have cc1 : (x5.alloc (.cells #[.int .u64 (s.v : Int), .int .i64 s.n, .int .u64 (s.t : Int)] 100)).cell? _ = _ := (X13.out.below bal).cell 1
      have cc2 : (x5.alloc (.cells #[.int .u64 (s.v : Int), .int .i64 s.n, .int .u64 (s.t : Int)] 100)).cell? _ = _ := (X13.out.below bal).cell 2
      have cc3 : (x5.alloc (.cells #[.int .u64 (s.v : Int), .int .i64 s.n, .int .u64 (s.t : Int)] 100)).cell? _ = _ := (D13.out.below bal).cell 0
      have cc4 : (x5.alloc (.cells #[.int .u64 (s.v : Int), .int .i64 s.n, .int .u64 (s.t : Int)] 100)).cell? _ = _ := (D13.out.below bal).cell 1
      have cc5 : (x5.alloc (.cells #[.int .u64 (s.v : Int), .int .i64 s.n, .int .u64 (s.t : Int)] 100)).cell? _ = _ := (D13.out.below bal).cell 2
      have hq := eq_super s
      go_wp2_with fail
      go_ret
      exact ⟨rfl, B13.out.alloc B13.out.size _⟩
    · have hi : isP (encP s ++ l) = false := is_len (by rw [List.length_append, encP_length, HL.out]; omega)
      rw [dec_not hi, hi] at HDL
      unfold spA at HDL
      have h0' : ((N : Int) == 0) = false := by simp; omega
      have h0n : ¬ (N : Int) = 0 := by omega
      clear hi h0
      refine HDL.mono ?_
      rintro e x5 ⟨rfl, bw⟩
      clear HDL
      have X13 := Lib.hid (X12.out.below bw)
      have D13 := Lib.hid (D12.out.below bw)
      have B13 := Lib.hid (BX.out.trans (bw.mono BX.out.size))
      clear bw X12 D12 BX
      have bal := (Below.refl x5.heap.size x5).alloc (Nat.le_refl _) (.cells #[.int .u64 (zeroP.v : Int), .int .i64 zeroP.n, .int .u64 (zeroP.t : Int)] 100)
      have cc0 : (x5.alloc (.cells #[.int .u64 (zeroP.v : Int), .int .i64 zeroP.n, .int .u64 (zeroP.t : Int)] 100)).cell? _ = _ := (X13.out.below bal).cell 0
      have cc1 : (x5.alloc (.cells #[.int .u64 (zeroP.v : Int), .int .i64 zeroP.n, .int .u64 (zeroP.t : Int)] 100)).cell? _ = _ := (X13.out.below bal).cell 1
      have cc2 : (x5.alloc (.cells #[.int .u64 (zeroP.v : Int), .int .i64 zeroP.n, .int .u64 (zeroP.t : Int)] 100)).cell? _ = _ := (X13.out.below bal).cell 2
      have cc3 : (x5.alloc (.cells #[.int .u64 (zeroP.v : Int), .int .i64 zeroP.n, .int .u64 (zeroP.t : Int)] 100)).cell? _ = _ := (D13.out.below bal).cell 0
      have cc4 : (x5.alloc (.cells #[.int .u64 (zeroP.v : Int), .int .i64 zeroP.n, .int .u64 (zeroP.t : Int)] 100)).cell? _ = _ := (D13.out.below bal).cell 1
      have cc5 : (x5.alloc (.cells #[.int .u64 (zeroP.v : Int), .int .i64 zeroP.n, .int .u64 (zeroP.t : Int)] 100)).cell? _ = _ := (D13.out.below bal).cell 2
      have hq := eq_super s
      go_wp2_with fail
      go_ret
      exact ⟨rfl, B13.out.alloc B13.out.size _⟩
  · have hk : okP s = false := by simpa using hok
    have hb : bytP s = [] := by rw [bytP, if_neg hok]
    have hE := own_blen O4.out
    rw [hb] at hE
    subst hE
    rw [hk]
    clear hok hk
    go_wp2_with fail
    go_ret
    exact ⟨rfl, B4.out⟩
theorem superCodes_own : ownKnob Try.prog.godebug = none := by kernel_rfl
theorem superCodes_laid : laidOutB Try.prog = true := by kernel_rfl

set_option maxRecDepth 100000 in
theorem superCodes_lifted (os : Os) (started : os.Started) (H : Type) (enc : TypeId × Value → H) :
    ReturnsInHanded {} Try.checked os 6 .any (Rows.superCodesSpec.pre6 enc Try.prog Try.f6 Rows.superCodesRow.domain false) (Rows.superCodesSpec.post enc Try.prog Try.f6 false true false false) := by
  refine returnsInHanded_of_change (C := Try.checked) superCodes_own started (by kernel_rfl) Try.func6
    (ChangeSpec.witness6 (enc := enc) (C := Try.checked) false ⟨#[], #[.agg #[.int .u64 0, .int .i64 0, .int .u64 0], .slice none 0 0, .int .u8 0], []⟩ 8 (by kernel_rfl) (by kernel_rfl) (by kernel_rfl) (by kernel_rfl)) ?_
  intro W base args ds gs before hval0 hW _ _
  have hval : ∀ (j : Nat) t v, Try.f6.params[j]? = some t → args[j]? = some v → Value.okWide Try.prog W .any base t v := hval0
  have hW' := hW
  obtain ⟨p, q, hA0, hV, rfl, hfz, hnd⟩ := hW
  have hA : DataW.TrodAll enc Try.prog W 0 (fun _ => true) true Try.f6.params.toList args.toList ds p := hA0
  rw [Try.params6] at hA hval
  obtain ⟨v0, vs0, d0, ds0, p0, q0, hargs, rfl, rfl, h0, r0⟩ := trodAll_cons hA
  obtain ⟨v1, vs1, d1, ds1, p1, q1, rfl, rfl, rfl, h1, r1⟩ := trodAll_cons r0
  obtain ⟨v2, vs2, d2, ds2, p2, q2, rfl, rfl, rfl, h2, r2⟩ := trodAll_cons r1
  obtain ⟨rfl, rfl, rfl⟩ := trodAll_nil r2
  obtain rfl : args = #[v0, v1, v2] := by cases args; simp_all
  obtain ⟨rfl, rfl⟩ := trodVars_none hV
  have lt0 : ∀ x ∈ p0, x.block < W.heap.size := by obtain ⟨m, hm⟩ := h0; exact DataW.trod_lt m _ _ _ hm
  obtain ⟨x0, rfl, ox0⟩ := Su.open_super (hval 0 100 v0 rfl rfl) h0
  obtain ⟨a1, n1, c1, rfl⟩ := okWide_slice Try.underlying81 (hval 1 81 v1 rfl rfl)
  have lt1 : ∀ x ∈ p1, x.block < W.heap.size := by obtain ⟨m, hm⟩ := h1; exact DataW.trod_lt m _ _ _ hm
  obtain ⟨l1, hl1, hc1, hm1, hr1⟩ := open_bytes Try.underlying81 Try.underlying5 (by kernel_rfl) h1
  obtain ⟨a2, rfl, rfl, rfl, w2⟩ := open_int Try.underlying5 (hval 2 5 v2 rfl rfl) h2
  have b2 := bounds_u8 w2
  clear hA0 hval0
  refine (superCodes_any W x0 ox0 a1 n1 c1 l1 hl1 hc1 hm1 hr1 a2 b2).mono fun e W' ⟨he, bel⟩ => ?_
  subst he
  exact ⟨_, rfl, _, _, _, [], _, [], hW', trodAll_mk1 (shut_bool Try.underlying4 _), (trodAll_cons_mk (Below.trod superCodes_laid (by kernel_rfl) (of_decide_eq_true (by kernel_rfl)) h0 bel lt0) (trodAll_cons_mk (Below.trod superCodes_laid (by kernel_rfl) (of_decide_eq_true (by kernel_rfl)) h1 bel lt1) (trodAll_cons_mk (shut_int Try.underlying5 w2) trodAll_mk0))), rfl, bel.frame _, fun h => by cases h⟩

theorem superCodes_holds : Rows.SuperCodesSaid :=
  OpenClaim.holds_of_wide 6 Try.f6 rfl rfl rfl rfl rfl rfl rfl ⟨rfl, rfl, rfl, rfl, rfl⟩ rfl rfl rfl rfl rfl (by kernel_rfl) Try.func6 (by kernel_rfl)
    (of_decide_eq_true (by kernel_rfl)) (by unfold Func.isWrapper; rw [if_neg (of_decide_eq_false (by kernel_rfl))]; exact ⟨rfl, rfl⟩)
    (fun os started H enc _ => superCodes_lifted os started H enc)

#print axioms superCodes_holds

end Go.Proofs.Ytnplhagfmfggcaa
