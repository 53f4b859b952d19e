/-
  Texts of this seat, one behind the other: CeEncC, CeSizeIn, SxClone, CeReadA, CeReadB, CeReadC, CeDec, ConvB, CeSame, CeCR1, CeCR2, CeCR3.
-/
import Derived.Deep.Cut
import Derived.Deep.RegionHeld
import Derived.Laws.IdiomStrings
import Derived.Lib.Strings
import Derived.Test.YthdmdlnndbjcoaaCa1
/-
  Encode, as cell tells it: the bytes of a cell that may be, of some kinds.
-/
namespace Go.Proofs.Ythdmdlnndbjcoaa.Ce
open Go.RowKit
attribute [local go_sem ↓] Go.wp_at_zero Go.wp_at_succ

set_option maxRecDepth 100000 in
set_option maxHeartbeats 12800000 in
theorem enc_dr (x : Cl) (hk : x.kind = 5) (ok : okCl x) (A : Option Addr) (c : Nat) (w : World) (hr : Rd w.heap.size w A (bv x.body)) :
    Calls Try.prog 28 #[.agg (clA x A c)] w (RetRowE (bv (encCl x)) 0 w) := by
  have HE : encCl x = Wi.putL x.kind.toNat 1 ++ Wi.putL x.num 2 ++ Wi.putL x.min.toNat 4 ++ Wi.putL x.br.toNat 1 ++ Wi.putL x.vol.toNat 1 ++ Wi.putL x.blk.toNat 2 := by
    unfold encCl
    rw [show hasP x.kind = true from decide_eq_true (by omega), show hasR x.kind = false from decide_eq_false (by omega), show hasS x.kind = false from decide_eq_false (by omega), show hasB x.kind = false from decide_eq_false (by omega)]
    simp only [if_true, if_false, Bool.false_eq_true, List.append_nil, List.append_assoc]
  have HEL := encCl_length ok
  have h46 : (encCl x).length ≤ 60 := by rw [HEL]; have := (okCl_body ok).1; unfold headN; split <;> split <;> split <;> split <;> omega
  have hq := ok.2.2
  unfold kindOk thereC elderC noS noP minC at hq
  have hm1 := ok.2.1
  unfold minC at hm1
  have hn1 := ok.1
  obtain ⟨K, hK⟩ : ∃ K : Nat, x.kind = (K : Int) := ⟨x.kind.toNat, by omega⟩
  obtain ⟨M, hM⟩ : ∃ M : Nat, x.min = (M : Int) := ⟨x.min.toNat, by omega⟩
  have HPO := Lib.hid (show ∀ W, Calls Try.prog 49 #[.int .i64 (K : Int)] W (RetS (.tuple #[.agg #[.bool true, .bool false, .bool false, .bool false], .bool true]) (W.alloc (.cells #[.bool true, .bool false, .bool false, .bool false] 102))) from fun W => by
    have h := partsOf_any x.kind W
    rw [show hasP x.kind = true from decide_eq_true (by omega), show hasR x.kind = false from decide_eq_false (by omega), show hasS x.kind = false from decide_eq_false (by omega), show hasB x.kind = false from decide_eq_false (by omega), show isKind x.kind = true from decide_eq_true (by omega), hK] at h
    exact h)
  obtain ⟨BR, hBR⟩ : ∃ n : Nat, x.br = (n : Int) := ⟨x.br.toNat, by omega⟩
  obtain ⟨VO, hVO⟩ : ∃ n : Nat, x.vol = (n : Int) := ⟨x.vol.toNat, by omega⟩
  obtain ⟨BK, hBK⟩ : ∃ n : Nat, x.blk = (n : Int) := ⟨x.blk.toNat, by omega⟩
  rw [hK, hM, hBR, hVO, hBK] at HE
  simp only [Int.toNat_natCast] at HE
  have HRT := Lib.hid (show ∀ W, Calls Try.prog 48 #[.agg (clA x A c)] W (RetB (.bool true) W) from fun W => by have h := right_any x A c W; rw [decide_eq_true ok] at h; exact h)
  have HSZ := Lib.hid (show ∀ W, Calls Try.prog 21 #[.agg (clA x A c)] W (RetB (.int .i64 ((encCl x).length : Int)) W) from fun W => by have h := size_any x A c W; rw [if_pos ok] at h; exact h)
  obtain ⟨cs, hcs⟩ : ∃ cs, cs = clA x A c := ⟨_, rfl⟩
  have HC := Lib.hid (show cs[0]? = some (.int .i64 (K : Int)) ∧ cs[1]? = some (.int .u64 (x.num : Int)) ∧ cs[2]? = some (.int .i64 (M : Int)) ∧ cs[3]? = some (.int .i64 (BR : Int)) ∧ cs[4]? = some (.int .i64 (VO : Int)) ∧ cs[5]? = some (.int .i64 (BK : Int)) ∧ cs[6]? = some (.int .u64 (x.ref : Int)) ∧ cs[10]? = some (.slice A x.body.length c) from by rw [hcs]; unfold clA; rw [hK, hM, hBR, hVO, hBK]; exact ⟨rfl, rfl, rfl, rfl, rfl, rfl, rfl, rfl⟩)
  have HI := Lib.hid (show (Try.prog.info? 44).map (·.size) = some cs.size from by rw [hcs]; kernel_rfl)
  obtain ⟨w0, hw0⟩ : ∃ w0, w0 = w.alloc (.cells cs 44) := ⟨_, rfl⟩
  have BL := Lib.hid (show Below w.heap.size w w0 from by rw [hw0]; exact bel1 _ _)
  have X := Lib.hid (show Blk w0 w.heap.size cs 44 from by rw [hw0]; exact heap_alloc_new _ _)
  rw [← hcs] at HRT HSZ ⊢
  obtain ⟨N, hN⟩ : ∃ N, N = x.num := ⟨_, rfl⟩
  obtain ⟨RF, hRF⟩ : ∃ RF, RF = x.ref := ⟨_, rfl⟩
  obtain ⟨bd, hbd⟩ : ∃ bd, bd = x.body := ⟨_, rfl⟩
  obtain ⟨LN, hLN⟩ : ∃ n, n = bd.length := ⟨_, rfl⟩
  obtain ⟨LE, hLE⟩ : ∃ n, n = (encCl x).length := ⟨_, rfl⟩
  rw [← hLE] at HSZ h46
  rw [← hN] at HE
  rw [← hN, ← hRF, ← hbd, ← hLN] at HC
  
  
  rw [← hbd] at hr
  have kN : N < 18446744073709551616 := by rw [hN]; omega
  have kK : K < 18446744073709551616 := by omega
  have kM : M < 18446744073709551616 := by omega
  
  have kLN : LN < 200 := by rw [hLN, hbd]; have := (okCl_body ok).1; omega
  have HKN := Lib.hid kN
  have HKK := Lib.hid kK
  have HKM := Lib.hid kM
  
  have HKL := Lib.hid kLN
  have wK : IntKind.u64.wrap (K : Int) = (K : Int) := IntWalk.u64_in _ (by omega)
  have wM : IntKind.u64.wrap (M : Int) = (M : Int) := IntWalk.u64_in _ (by omega)
  have wL : IntKind.u64.wrap (LN : Int) = (LN : Int) := IntWalk.u64_in _ (by omega)
  have HKBR := Lib.hid (show BR < 18446744073709551616 by omega)
  have wBR : IntKind.u64.wrap (BR : Int) = (BR : Int) := IntWalk.u64_in _ (by omega)
  have HKVO := Lib.hid (show VO < 18446744073709551616 by omega)
  have wVO : IntKind.u64.wrap (VO : Int) = (VO : Int) := IntWalk.u64_in _ (by omega)
  have HKBK := Lib.hid (show BK < 18446744073709551616 by omega)
  have wBK : IntKind.u64.wrap (BK : Int) = (BK : Int) := IntWalk.u64_in _ (by omega)
  have HEQ := Lib.hid HE
  have HRD := Lib.hid hr
  have HLN := Lib.hid hLN
  have HLE := Lib.hid h46
  have i0 := Go.info_parts Wi.info_byte
  clear hq hm1 hn1 hK hM hBR hVO hBK hcs hN hRF hbd hLE HEL ok hk kN kK kM kLN hr HE h46 hLN
  obtain ⟨i0, hi, hz0, hz1, hz2⟩ := i0
  go_enter Try.func28, Try.ntmps28
  go_upto_region 1 with fail
  rw [← hw0]
  clear hw0
  go_wp2_with (refine wpList_load_row rfl 44 (.tmp 1) rfl w.heap.size rfl 44 cs (0, 0) _ X.out Try.underlying44 rfl HI.out ?_)
  refine (HRT.out _).mono ?_
  rintro e w1 ⟨rfl, bw⟩
  have BL' := Lib.hid (BL.out.trans (bw.mono BL.out.size))
  have X' := Lib.hid (Blk.below X.out bw)
  clear BL X bw
  have BL := Lib.hid BL'.out
  have X := Lib.hid X'.out
  clear BL' X'
  go_wp2_with (refine wpList_load_row rfl 44 (.tmp 1) rfl w.heap.size rfl 44 cs (0, 0) _ X.out Try.underlying44 rfl HI.out ?_)
  refine (HSZ.out _).mono ?_
  rintro e w2 ⟨rfl, bw⟩
  have BL' := Lib.hid (BL.out.trans (bw.mono BL.out.size))
  have X' := Lib.hid (Blk.below X.out bw)
  clear BL X bw
  have BL := Lib.hid BL'.out
  have X := Lib.hid X'.out
  clear BL' X'
  go_wp2_with (first
    | (refine wpList_load_row rfl 44 (.tmp 1) rfl w.heap.size rfl 44 cs (0, 0) _ X.out Try.underlying44 rfl HI.out ?_)
    | (at_make; refine wpList_make_own _ rfl _ _ _ rfl w.heap.size 5 i0 _ 1 Try.underlying34 hi hz0 hz1 .i64 .i64 _ LE rfl rfl rfl ?_ ?_ ?_ ?_; (rw [hz2]; have := HLE.out; omega); (have := HLE.out; unfold maxLen; omega); (exact BL.out.size); intro w3 hown hg3)
    | (show wpList _ _ _ ({ dst := some 14, op := _, type := _, pos := _, after := _, guard := _ } :: _) _ _; apply Classical.byContradiction; intro hneg))
  refine hneg ?_
  clear hneg
  obtain ⟨w4, hw4⟩ : ∃ w4, w4 = w3.alloc (.cells #[.slice (some ⟨w2.heap.size, 0, none⟩) 0 LE] 34) := ⟨_, rfl⟩
  rw [← hw4]
  have B23 : Below w2.heap.size w2 w3 := (Below.refl _ _).grown hg3 (Nat.le_refl _) (fun _ h => by cases h)
  have B34 : Below w3.heap.size w3 w4 := by rw [hw4]; exact bel1 _ _
  have B24 : Below w2.heap.size w2 w4 := B23.trans (B34.mono B23.size)
  obtain ⟨b, hb⟩ : ∃ b, b = w3.heap.size := ⟨_, rfl⟩
  rw [← hb]
  have BL' := Lib.hid (BL.out.trans (B24.mono BL.out.size))
  have X' := Lib.hid (Blk.below X.out B24)
  have HG := Lib.hid (show w.heap.size ≤ b ∧ w.heap.size ≠ b from by have h1 := X.out.lt; have h2 := B23.size; have h3 := BL.out.size; rw [hb]; omega)
  have O := Lib.hid (show Out w4 w.heap.size b [] (some ⟨w2.heap.size, 0, none⟩) LE from ⟨by rw [hw4, hb]; exact heap_alloc_new _ _, own_below hown B34⟩)
  clear hown hg3 B23 B34 B24 hw4 hb BL X
  have BL := Lib.hid BL'.out
  have X := Lib.hid X'.out
  clear BL' X' 
  have c0 := (X.out.cell 0).trans HC.out.1
  go_wp2_with fail
  refine (put_any O.out BL.out.size K 1 HKK.out (by omega) (by simp)).mono ?_
  rintro e w5 ⟨rfl, ⟨A5, e5, ho⟩, hb⟩
  obtain ⟨l5, hl5⟩ : ∃ l, l = [] ++ Wi.putL K 1 := ⟨_, rfl⟩
  rw [← hl5] at ho
  have HL5 := Lib.hid (show l5.length = 1 from by rw [hl5, List.length_append, Wi.putL_length]; rfl)
  have HD5 := Lib.hid hl5
  have O5 := Lib.hid ho
  have hbb := below_rowB hb HG.out.1 BL.out.size
  have BL' := Lib.hid (BL.out.trans hbb)
  have X' := Lib.hid (blk_rowB X.out hb (by decide) HG.out.2)
  
  clear c0 ho hb hbb hl5 BL X O 
  have BL := Lib.hid BL'.out
  have X := Lib.hid X'.out
  have O := Lib.hid O5.out
  
  clear BL' X' O5 
  have c1 := (X.out.cell 1).trans HC.out.2.1
  go_wp2_with fail
  refine (put_any O.out BL.out.size N 2 HKN.out (by omega) (by rw [HL5.out]; omega)).mono ?_
  rintro e w6 ⟨rfl, ⟨A6, e6, ho⟩, hb⟩
  obtain ⟨l6, hl6⟩ : ∃ l, l = l5 ++ Wi.putL N 2 := ⟨_, rfl⟩
  rw [← hl6] at ho
  have HL6 := Lib.hid (show l6.length = 3 from by rw [hl6, List.length_append, Wi.putL_length, HL5.out])
  have HD6 := Lib.hid hl6
  have O6 := Lib.hid ho
  have hbb := below_rowB hb HG.out.1 BL.out.size
  have BL' := Lib.hid (BL.out.trans hbb)
  have X' := Lib.hid (blk_rowB X.out hb (by decide) HG.out.2)
  
  clear c1 ho hb hbb hl6 BL X O 
  have BL := Lib.hid BL'.out
  have X := Lib.hid X'.out
  have O := Lib.hid O6.out
  
  clear BL' X' O6 
  have c2 := (X.out.cell 2).trans HC.out.2.2.1
  go_wp2_with fail
  refine (put_any O.out BL.out.size M 4 HKM.out (by omega) (by rw [HL6.out]; omega)).mono ?_
  rintro e w7 ⟨rfl, ⟨A7, e7, ho⟩, hb⟩
  obtain ⟨l7, hl7⟩ : ∃ l, l = l6 ++ Wi.putL M 4 := ⟨_, rfl⟩
  rw [← hl7] at ho
  have HL7 := Lib.hid (show l7.length = 7 from by rw [hl7, List.length_append, Wi.putL_length, HL6.out])
  have HD7 := Lib.hid hl7
  have O7 := Lib.hid ho
  have hbb := below_rowB hb HG.out.1 BL.out.size
  have BL' := Lib.hid (BL.out.trans hbb)
  have X' := Lib.hid (blk_rowB X.out hb (by decide) HG.out.2)
  
  clear c2 ho hb hbb hl7 BL X O 
  have BL := Lib.hid BL'.out
  have X := Lib.hid X'.out
  have O := Lib.hid O7.out
  
  clear BL' X' O7 
  have c0 := (X.out.cell 0).trans HC.out.1
  go_wp2_with fail
  refine (HPO.out _).mono ?_
  rintro e w8 ⟨rfl, rfl⟩
  go_upto_region 9 with fail
  obtain ⟨w9, hw9⟩ : ∃ v, v = (w7.alloc (.cells #[.bool true, .bool false, .bool false, .bool false] 102)).alloc (.cells #[.bool true, .bool false, .bool false, .bool false] 102) := ⟨_, rfl⟩
  rw [← hw9]
  have bw : Below w7.heap.size w7 w9 := by rw [hw9]; exact bel2 _ _ _
  have BL' := Lib.hid (BL.out.trans (bw.mono BL.out.size))
  have X' := Lib.hid (Blk.below X.out bw)
  have O' := Lib.hid (show Out w9 w.heap.size b l7 _ _ from ⟨Blk.below O.out.blk bw, own_below O.out.own bw⟩)
  obtain ⟨pb, hpb⟩ : ∃ pb, pb = w7.heap.size + 1 := ⟨_, rfl⟩
  rw [← hpb]
  have PB := Lib.hid (show Blk w9 pb #[.bool true, .bool false, .bool false, .bool false] 102 from by rw [hw9, hpb]; exact heap_alloc2_new _ _ _)
  have HP := Lib.hid (show pb ≠ b from by have h1 := O.out.blk.lt; rw [hpb]; omega)
  clear c0 BL X O bw hw9 hpb
  have BL := Lib.hid BL'.out
  have X := Lib.hid X'.out
  have O := Lib.hid O'.out
  clear BL' X' O'
  obtain ⟨l9, hl9⟩ : ∃ l, l = l7 := ⟨_, rfl⟩
  rw [← hl9] at O
  have HL9 := Lib.hid (show l9.length = 7 from by rw [hl9]; exact HL7.out)
  have HD9 := Lib.hid hl9
  clear hl9
  have c3 := (X.out.cell 3).trans HC.out.2.2.2.1
  have p0 := PB.out.cell 0
  simp at p0
  have p1 := PB.out.cell 1
  simp at p1
  have p2 := PB.out.cell 2
  simp at p2
  have p3 := PB.out.cell 3
  simp at p3
  go_wp2_with fail
  refine (put_any O.out BL.out.size BR 1 HKBR.out (by omega) (by rw [HL9.out]; omega)).mono ?_
  rintro e w10 ⟨rfl, ⟨A10, e10, ho⟩, hb⟩
  obtain ⟨l10, hl10⟩ : ∃ l, l = l9 ++ Wi.putL BR 1 := ⟨_, rfl⟩
  rw [← hl10] at ho
  have HL10 := Lib.hid (show l10.length = 8 from by rw [hl10, List.length_append, Wi.putL_length, HL9.out])
  have HD10 := Lib.hid hl10
  have O10 := Lib.hid ho
  have hbb := below_rowB hb HG.out.1 BL.out.size
  have BL' := Lib.hid (BL.out.trans hbb)
  have X' := Lib.hid (blk_rowB X.out hb (by decide) HG.out.2)
  have P' := Lib.hid (blk_rowB PB.out hb (by decide) HP.out)
  clear c3 ho hb hbb hl10 BL X O PB p0 p1 p2 p3
  have BL := Lib.hid BL'.out
  have X := Lib.hid X'.out
  have O := Lib.hid O10.out
  have PB := Lib.hid P'.out
  clear BL' X' O10 P'
  have c4 := (X.out.cell 4).trans HC.out.2.2.2.2.1
  have p0 := PB.out.cell 0
  simp at p0
  have p1 := PB.out.cell 1
  simp at p1
  have p2 := PB.out.cell 2
  simp at p2
  have p3 := PB.out.cell 3
  simp at p3
  go_wp2_with fail
  refine (put_any O.out BL.out.size VO 1 HKVO.out (by omega) (by rw [HL10.out]; omega)).mono ?_
  rintro e w11 ⟨rfl, ⟨A11, e11, ho⟩, hb⟩
  obtain ⟨l11, hl11⟩ : ∃ l, l = l10 ++ Wi.putL VO 1 := ⟨_, rfl⟩
  rw [← hl11] at ho
  have HL11 := Lib.hid (show l11.length = 9 from by rw [hl11, List.length_append, Wi.putL_length, HL10.out])
  have HD11 := Lib.hid hl11
  have O11 := Lib.hid ho
  have hbb := below_rowB hb HG.out.1 BL.out.size
  have BL' := Lib.hid (BL.out.trans hbb)
  have X' := Lib.hid (blk_rowB X.out hb (by decide) HG.out.2)
  have P' := Lib.hid (blk_rowB PB.out hb (by decide) HP.out)
  clear c4 ho hb hbb hl11 BL X O PB p0 p1 p2 p3
  have BL := Lib.hid BL'.out
  have X := Lib.hid X'.out
  have O := Lib.hid O11.out
  have PB := Lib.hid P'.out
  clear BL' X' O11 P'
  have c5 := (X.out.cell 5).trans HC.out.2.2.2.2.2.1
  have p0 := PB.out.cell 0
  simp at p0
  have p1 := PB.out.cell 1
  simp at p1
  have p2 := PB.out.cell 2
  simp at p2
  have p3 := PB.out.cell 3
  simp at p3
  go_wp2_with fail
  refine (put_any O.out BL.out.size BK 2 HKBK.out (by omega) (by rw [HL11.out]; omega)).mono ?_
  rintro e w12 ⟨rfl, ⟨A12, e12, ho⟩, hb⟩
  obtain ⟨l12, hl12⟩ : ∃ l, l = l11 ++ Wi.putL BK 2 := ⟨_, rfl⟩
  rw [← hl12] at ho
  have HL12 := Lib.hid (show l12.length = 11 from by rw [hl12, List.length_append, Wi.putL_length, HL11.out])
  have HD12 := Lib.hid hl12
  have O12 := Lib.hid ho
  have hbb := below_rowB hb HG.out.1 BL.out.size
  have BL' := Lib.hid (BL.out.trans hbb)
  have X' := Lib.hid (blk_rowB X.out hb (by decide) HG.out.2)
  have P' := Lib.hid (blk_rowB PB.out hb (by decide) HP.out)
  clear c5 ho hb hbb hl12 BL X O PB p0 p1 p2 p3
  have BL := Lib.hid BL'.out
  have X := Lib.hid X'.out
  have O := Lib.hid O12.out
  have PB := Lib.hid P'.out
  clear BL' X' O12 P'
  have p0 := PB.out.cell 0
  simp at p0
  have p1 := PB.out.cell 1
  simp at p1
  have p2 := PB.out.cell 2
  simp at p2
  have p3 := PB.out.cell 3
  simp at p3
  have o0 := O.out.blk.cell 0
  simp at o0
  go_wp2_with fail
  go_ret2
  refine ⟨_, _, _, rfl, ?_, BL.out⟩
  have hd : l12 = Wi.putL K 1 ++ Wi.putL N 2 ++ Wi.putL M 4 ++ Wi.putL BR 1 ++ Wi.putL VO 1 ++ Wi.putL BK 2 := by rw [HD12.out, HD11.out, HD10.out, HD9.out, HD7.out, HD6.out, HD5.out, List.nil_append]
  rw [HEQ.out, ← hd]
  exact O.out.own
set_option maxRecDepth 100000 in
set_option maxHeartbeats 12800000 in
theorem enc_ho (x : Cl) (hk : x.kind = 6) (ok : okCl x) (A : Option Addr) (c : Nat) (w : World) (hr : Rd w.heap.size w A (bv x.body)) :
    Calls Try.prog 28 #[.agg (clA x A c)] w (RetRowE (bv (encCl x)) 0 w) := by
  have HE : encCl x = Wi.putL x.kind.toNat 1 ++ Wi.putL x.num 2 ++ Wi.putL x.min.toNat 4 ++ Wi.putL x.ref 2 ++ Wi.putL x.fr.toNat 4 ++ Wi.putL x.til.toNat 4 ++ Wi.putL x.un.toNat 4 := by
    unfold encCl
    rw [show hasP x.kind = false from decide_eq_false (by omega), show hasR x.kind = true from decide_eq_true (by omega), show hasS x.kind = true from decide_eq_true (by omega), show hasB x.kind = false from decide_eq_false (by omega)]
    simp only [if_true, if_false, Bool.false_eq_true, List.append_nil, List.append_assoc]
  have HEL := encCl_length ok
  have h46 : (encCl x).length ≤ 60 := by rw [HEL]; have := (okCl_body ok).1; unfold headN; split <;> split <;> split <;> split <;> omega
  have hq := ok.2.2
  unfold kindOk thereC elderC noS noP minC at hq
  have hm1 := ok.2.1
  unfold minC at hm1
  have hn1 := ok.1
  obtain ⟨K, hK⟩ : ∃ K : Nat, x.kind = (K : Int) := ⟨x.kind.toNat, by omega⟩
  obtain ⟨M, hM⟩ : ∃ M : Nat, x.min = (M : Int) := ⟨x.min.toNat, by omega⟩
  have HPO := Lib.hid (show ∀ W, Calls Try.prog 49 #[.int .i64 (K : Int)] W (RetS (.tuple #[.agg #[.bool false, .bool true, .bool true, .bool false], .bool true]) (W.alloc (.cells #[.bool false, .bool true, .bool true, .bool false] 102))) from fun W => by
    have h := partsOf_any x.kind W
    rw [show hasP x.kind = false from decide_eq_false (by omega), show hasR x.kind = true from decide_eq_true (by omega), show hasS x.kind = true from decide_eq_true (by omega), show hasB x.kind = false from decide_eq_false (by omega), show isKind x.kind = true from decide_eq_true (by omega), hK] at h
    exact h)
  obtain ⟨FR, hFR⟩ : ∃ n : Nat, x.fr = (n : Int) := ⟨x.fr.toNat, by omega⟩
  obtain ⟨TI, hTI⟩ : ∃ n : Nat, x.til = (n : Int) := ⟨x.til.toNat, by omega⟩
  obtain ⟨UN, hUN⟩ : ∃ n : Nat, x.un = (n : Int) := ⟨x.un.toNat, by omega⟩
  rw [hK, hM, hFR, hTI, hUN] at HE
  simp only [Int.toNat_natCast] at HE
  have HRT := Lib.hid (show ∀ W, Calls Try.prog 48 #[.agg (clA x A c)] W (RetB (.bool true) W) from fun W => by have h := right_any x A c W; rw [decide_eq_true ok] at h; exact h)
  have HSZ := Lib.hid (show ∀ W, Calls Try.prog 21 #[.agg (clA x A c)] W (RetB (.int .i64 ((encCl x).length : Int)) W) from fun W => by have h := size_any x A c W; rw [if_pos ok] at h; exact h)
  obtain ⟨cs, hcs⟩ : ∃ cs, cs = clA x A c := ⟨_, rfl⟩
  have HC := Lib.hid (show cs[0]? = some (.int .i64 (K : Int)) ∧ cs[1]? = some (.int .u64 (x.num : Int)) ∧ cs[2]? = some (.int .i64 (M : Int)) ∧ cs[7]? = some (.int .i64 (FR : Int)) ∧ cs[8]? = some (.int .i64 (TI : Int)) ∧ cs[9]? = some (.int .i64 (UN : Int)) ∧ cs[6]? = some (.int .u64 (x.ref : Int)) ∧ cs[10]? = some (.slice A x.body.length c) from by rw [hcs]; unfold clA; rw [hK, hM, hFR, hTI, hUN]; exact ⟨rfl, rfl, rfl, rfl, rfl, rfl, rfl, rfl⟩)
  have HI := Lib.hid (show (Try.prog.info? 44).map (·.size) = some cs.size from by rw [hcs]; kernel_rfl)
  obtain ⟨w0, hw0⟩ : ∃ w0, w0 = w.alloc (.cells cs 44) := ⟨_, rfl⟩
  have BL := Lib.hid (show Below w.heap.size w w0 from by rw [hw0]; exact bel1 _ _)
  have X := Lib.hid (show Blk w0 w.heap.size cs 44 from by rw [hw0]; exact heap_alloc_new _ _)
  rw [← hcs] at HRT HSZ ⊢
  obtain ⟨N, hN⟩ : ∃ N, N = x.num := ⟨_, rfl⟩
  obtain ⟨RF, hRF⟩ : ∃ RF, RF = x.ref := ⟨_, rfl⟩
  obtain ⟨bd, hbd⟩ : ∃ bd, bd = x.body := ⟨_, rfl⟩
  obtain ⟨LN, hLN⟩ : ∃ n, n = bd.length := ⟨_, rfl⟩
  obtain ⟨LE, hLE⟩ : ∃ n, n = (encCl x).length := ⟨_, rfl⟩
  rw [← hLE] at HSZ h46
  rw [← hN] at HE
  rw [← hN, ← hRF, ← hbd, ← hLN] at HC
  rw [← hRF] at HE
  
  rw [← hbd] at hr
  have kN : N < 18446744073709551616 := by rw [hN]; omega
  have kK : K < 18446744073709551616 := by omega
  have kM : M < 18446744073709551616 := by omega
  have kRF : RF < 18446744073709551616 := by rw [hRF]; omega
  have kLN : LN < 200 := by rw [hLN, hbd]; have := (okCl_body ok).1; omega
  have HKN := Lib.hid kN
  have HKK := Lib.hid kK
  have HKM := Lib.hid kM
  have HKR := Lib.hid kRF
  have HKL := Lib.hid kLN
  have wK : IntKind.u64.wrap (K : Int) = (K : Int) := IntWalk.u64_in _ (by omega)
  have wM : IntKind.u64.wrap (M : Int) = (M : Int) := IntWalk.u64_in _ (by omega)
  have wL : IntKind.u64.wrap (LN : Int) = (LN : Int) := IntWalk.u64_in _ (by omega)
  have HKFR := Lib.hid (show FR < 18446744073709551616 by omega)
  have wFR : IntKind.u64.wrap (FR : Int) = (FR : Int) := IntWalk.u64_in _ (by omega)
  have HKTI := Lib.hid (show TI < 18446744073709551616 by omega)
  have wTI : IntKind.u64.wrap (TI : Int) = (TI : Int) := IntWalk.u64_in _ (by omega)
  have HKUN := Lib.hid (show UN < 18446744073709551616 by omega)
  have wUN : IntKind.u64.wrap (UN : Int) = (UN : Int) := IntWalk.u64_in _ (by omega)
  have HEQ := Lib.hid HE
  have HRD := Lib.hid hr
  have HLN := Lib.hid hLN
  have HLE := Lib.hid h46
  have i0 := Go.info_parts Wi.info_byte
  clear hq hm1 hn1 hK hM hFR hTI hUN hcs hN hRF hbd hLE HEL ok hk kN kK kM kLN kRF hr HE h46 hLN
  obtain ⟨i0, hi, hz0, hz1, hz2⟩ := i0
  go_enter Try.func28, Try.ntmps28
  go_upto_region 1 with fail
  rw [← hw0]
  clear hw0
  go_wp2_with (refine wpList_load_row rfl 44 (.tmp 1) rfl w.heap.size rfl 44 cs (0, 0) _ X.out Try.underlying44 rfl HI.out ?_)
  refine (HRT.out _).mono ?_
  rintro e w1 ⟨rfl, bw⟩
  have BL' := Lib.hid (BL.out.trans (bw.mono BL.out.size))
  have X' := Lib.hid (Blk.below X.out bw)
  clear BL X bw
  have BL := Lib.hid BL'.out
  have X := Lib.hid X'.out
  clear BL' X'
  go_wp2_with (refine wpList_load_row rfl 44 (.tmp 1) rfl w.heap.size rfl 44 cs (0, 0) _ X.out Try.underlying44 rfl HI.out ?_)
  refine (HSZ.out _).mono ?_
  rintro e w2 ⟨rfl, bw⟩
  have BL' := Lib.hid (BL.out.trans (bw.mono BL.out.size))
  have X' := Lib.hid (Blk.below X.out bw)
  clear BL X bw
  have BL := Lib.hid BL'.out
  have X := Lib.hid X'.out
  clear BL' X'
  go_wp2_with (first
    | (refine wpList_load_row rfl 44 (.tmp 1) rfl w.heap.size rfl 44 cs (0, 0) _ X.out Try.underlying44 rfl HI.out ?_)
    | (at_make; refine wpList_make_own _ rfl _ _ _ rfl w.heap.size 5 i0 _ 1 Try.underlying34 hi hz0 hz1 .i64 .i64 _ LE rfl rfl rfl ?_ ?_ ?_ ?_; (rw [hz2]; have := HLE.out; omega); (have := HLE.out; unfold maxLen; omega); (exact BL.out.size); intro w3 hown hg3)
    | (show wpList _ _ _ ({ dst := some 14, op := _, type := _, pos := _, after := _, guard := _ } :: _) _ _; apply Classical.byContradiction; intro hneg))
  refine hneg ?_
  clear hneg
  obtain ⟨w4, hw4⟩ : ∃ w4, w4 = w3.alloc (.cells #[.slice (some ⟨w2.heap.size, 0, none⟩) 0 LE] 34) := ⟨_, rfl⟩
  rw [← hw4]
  have B23 : Below w2.heap.size w2 w3 := (Below.refl _ _).grown hg3 (Nat.le_refl _) (fun _ h => by cases h)
  have B34 : Below w3.heap.size w3 w4 := by rw [hw4]; exact bel1 _ _
  have B24 : Below w2.heap.size w2 w4 := B23.trans (B34.mono B23.size)
  obtain ⟨b, hb⟩ : ∃ b, b = w3.heap.size := ⟨_, rfl⟩
  rw [← hb]
  have BL' := Lib.hid (BL.out.trans (B24.mono BL.out.size))
  have X' := Lib.hid (Blk.below X.out B24)
  have HG := Lib.hid (show w.heap.size ≤ b ∧ w.heap.size ≠ b from by have h1 := X.out.lt; have h2 := B23.size; have h3 := BL.out.size; rw [hb]; omega)
  have O := Lib.hid (show Out w4 w.heap.size b [] (some ⟨w2.heap.size, 0, none⟩) LE from ⟨by rw [hw4, hb]; exact heap_alloc_new _ _, own_below hown B34⟩)
  clear hown hg3 B23 B34 B24 hw4 hb BL X
  have BL := Lib.hid BL'.out
  have X := Lib.hid X'.out
  clear BL' X' 
  have c0 := (X.out.cell 0).trans HC.out.1
  go_wp2_with fail
  refine (put_any O.out BL.out.size K 1 HKK.out (by omega) (by simp)).mono ?_
  rintro e w5 ⟨rfl, ⟨A5, e5, ho⟩, hb⟩
  obtain ⟨l5, hl5⟩ : ∃ l, l = [] ++ Wi.putL K 1 := ⟨_, rfl⟩
  rw [← hl5] at ho
  have HL5 := Lib.hid (show l5.length = 1 from by rw [hl5, List.length_append, Wi.putL_length]; rfl)
  have HD5 := Lib.hid hl5
  have O5 := Lib.hid ho
  have hbb := below_rowB hb HG.out.1 BL.out.size
  have BL' := Lib.hid (BL.out.trans hbb)
  have X' := Lib.hid (blk_rowB X.out hb (by decide) HG.out.2)
  
  clear c0 ho hb hbb hl5 BL X O 
  have BL := Lib.hid BL'.out
  have X := Lib.hid X'.out
  have O := Lib.hid O5.out
  
  clear BL' X' O5 
  have c1 := (X.out.cell 1).trans HC.out.2.1
  go_wp2_with fail
  refine (put_any O.out BL.out.size N 2 HKN.out (by omega) (by rw [HL5.out]; omega)).mono ?_
  rintro e w6 ⟨rfl, ⟨A6, e6, ho⟩, hb⟩
  obtain ⟨l6, hl6⟩ : ∃ l, l = l5 ++ Wi.putL N 2 := ⟨_, rfl⟩
  rw [← hl6] at ho
  have HL6 := Lib.hid (show l6.length = 3 from by rw [hl6, List.length_append, Wi.putL_length, HL5.out])
  have HD6 := Lib.hid hl6
  have O6 := Lib.hid ho
  have hbb := below_rowB hb HG.out.1 BL.out.size
  have BL' := Lib.hid (BL.out.trans hbb)
  have X' := Lib.hid (blk_rowB X.out hb (by decide) HG.out.2)
  
  clear c1 ho hb hbb hl6 BL X O 
  have BL := Lib.hid BL'.out
  have X := Lib.hid X'.out
  have O := Lib.hid O6.out
  
  clear BL' X' O6 
  have c2 := (X.out.cell 2).trans HC.out.2.2.1
  go_wp2_with fail
  refine (put_any O.out BL.out.size M 4 HKM.out (by omega) (by rw [HL6.out]; omega)).mono ?_
  rintro e w7 ⟨rfl, ⟨A7, e7, ho⟩, hb⟩
  obtain ⟨l7, hl7⟩ : ∃ l, l = l6 ++ Wi.putL M 4 := ⟨_, rfl⟩
  rw [← hl7] at ho
  have HL7 := Lib.hid (show l7.length = 7 from by rw [hl7, List.length_append, Wi.putL_length, HL6.out])
  have HD7 := Lib.hid hl7
  have O7 := Lib.hid ho
  have hbb := below_rowB hb HG.out.1 BL.out.size
  have BL' := Lib.hid (BL.out.trans hbb)
  have X' := Lib.hid (blk_rowB X.out hb (by decide) HG.out.2)
  
  clear c2 ho hb hbb hl7 BL X O 
  have BL := Lib.hid BL'.out
  have X := Lib.hid X'.out
  have O := Lib.hid O7.out
  
  clear BL' X' O7 
  have c0 := (X.out.cell 0).trans HC.out.1
  go_wp2_with fail
  refine (HPO.out _).mono ?_
  rintro e w8 ⟨rfl, rfl⟩
  go_upto_region 9 with fail
  obtain ⟨w9, hw9⟩ : ∃ v, v = (w7.alloc (.cells #[.bool false, .bool true, .bool true, .bool false] 102)).alloc (.cells #[.bool false, .bool true, .bool true, .bool false] 102) := ⟨_, rfl⟩
  rw [← hw9]
  have bw : Below w7.heap.size w7 w9 := by rw [hw9]; exact bel2 _ _ _
  have BL' := Lib.hid (BL.out.trans (bw.mono BL.out.size))
  have X' := Lib.hid (Blk.below X.out bw)
  have O' := Lib.hid (show Out w9 w.heap.size b l7 _ _ from ⟨Blk.below O.out.blk bw, own_below O.out.own bw⟩)
  obtain ⟨pb, hpb⟩ : ∃ pb, pb = w7.heap.size + 1 := ⟨_, rfl⟩
  rw [← hpb]
  have PB := Lib.hid (show Blk w9 pb #[.bool false, .bool true, .bool true, .bool false] 102 from by rw [hw9, hpb]; exact heap_alloc2_new _ _ _)
  have HP := Lib.hid (show pb ≠ b from by have h1 := O.out.blk.lt; rw [hpb]; omega)
  clear c0 BL X O bw hw9 hpb
  have BL := Lib.hid BL'.out
  have X := Lib.hid X'.out
  have O := Lib.hid O'.out
  clear BL' X' O'
  obtain ⟨l9, hl9⟩ : ∃ l, l = l7 := ⟨_, rfl⟩
  rw [← hl9] at O
  have HL9 := Lib.hid (show l9.length = 7 from by rw [hl9]; exact HL7.out)
  have HD9 := Lib.hid hl9
  clear hl9
  have c6 := (X.out.cell 6).trans HC.out.2.2.2.2.2.2.1
  have p0 := PB.out.cell 0
  simp at p0
  have p1 := PB.out.cell 1
  simp at p1
  have p2 := PB.out.cell 2
  simp at p2
  have p3 := PB.out.cell 3
  simp at p3
  go_wp2_with fail
  refine (put_any O.out BL.out.size RF 2 HKR.out (by omega) (by rw [HL9.out]; omega)).mono ?_
  rintro e w10 ⟨rfl, ⟨A10, e10, ho⟩, hb⟩
  obtain ⟨l10, hl10⟩ : ∃ l, l = l9 ++ Wi.putL RF 2 := ⟨_, rfl⟩
  rw [← hl10] at ho
  have HL10 := Lib.hid (show l10.length = 9 from by rw [hl10, List.length_append, Wi.putL_length, HL9.out])
  have HD10 := Lib.hid hl10
  have O10 := Lib.hid ho
  have hbb := below_rowB hb HG.out.1 BL.out.size
  have BL' := Lib.hid (BL.out.trans hbb)
  have X' := Lib.hid (blk_rowB X.out hb (by decide) HG.out.2)
  have P' := Lib.hid (blk_rowB PB.out hb (by decide) HP.out)
  clear c6 ho hb hbb hl10 BL X O PB p0 p1 p2 p3
  have BL := Lib.hid BL'.out
  have X := Lib.hid X'.out
  have O := Lib.hid O10.out
  have PB := Lib.hid P'.out
  clear BL' X' O10 P'
  have c7 := (X.out.cell 7).trans HC.out.2.2.2.1
  have p0 := PB.out.cell 0
  simp at p0
  have p1 := PB.out.cell 1
  simp at p1
  have p2 := PB.out.cell 2
  simp at p2
  have p3 := PB.out.cell 3
  simp at p3
  go_wp2_with fail
  refine (put_any O.out BL.out.size FR 4 HKFR.out (by omega) (by rw [HL10.out]; omega)).mono ?_
  rintro e w11 ⟨rfl, ⟨A11, e11, ho⟩, hb⟩
  obtain ⟨l11, hl11⟩ : ∃ l, l = l10 ++ Wi.putL FR 4 := ⟨_, rfl⟩
  rw [← hl11] at ho
  have HL11 := Lib.hid (show l11.length = 13 from by rw [hl11, List.length_append, Wi.putL_length, HL10.out])
  have HD11 := Lib.hid hl11
  have O11 := Lib.hid ho
  have hbb := below_rowB hb HG.out.1 BL.out.size
  have BL' := Lib.hid (BL.out.trans hbb)
  have X' := Lib.hid (blk_rowB X.out hb (by decide) HG.out.2)
  have P' := Lib.hid (blk_rowB PB.out hb (by decide) HP.out)
  clear c7 ho hb hbb hl11 BL X O PB p0 p1 p2 p3
  have BL := Lib.hid BL'.out
  have X := Lib.hid X'.out
  have O := Lib.hid O11.out
  have PB := Lib.hid P'.out
  clear BL' X' O11 P'
  have c8 := (X.out.cell 8).trans HC.out.2.2.2.2.1
  have p0 := PB.out.cell 0
  simp at p0
  have p1 := PB.out.cell 1
  simp at p1
  have p2 := PB.out.cell 2
  simp at p2
  have p3 := PB.out.cell 3
  simp at p3
  go_wp2_with fail
  refine (put_any O.out BL.out.size TI 4 HKTI.out (by omega) (by rw [HL11.out]; omega)).mono ?_
  rintro e w12 ⟨rfl, ⟨A12, e12, ho⟩, hb⟩
  obtain ⟨l12, hl12⟩ : ∃ l, l = l11 ++ Wi.putL TI 4 := ⟨_, rfl⟩
  rw [← hl12] at ho
  have HL12 := Lib.hid (show l12.length = 17 from by rw [hl12, List.length_append, Wi.putL_length, HL11.out])
  have HD12 := Lib.hid hl12
  have O12 := Lib.hid ho
  have hbb := below_rowB hb HG.out.1 BL.out.size
  have BL' := Lib.hid (BL.out.trans hbb)
  have X' := Lib.hid (blk_rowB X.out hb (by decide) HG.out.2)
  have P' := Lib.hid (blk_rowB PB.out hb (by decide) HP.out)
  clear c8 ho hb hbb hl12 BL X O PB p0 p1 p2 p3
  have BL := Lib.hid BL'.out
  have X := Lib.hid X'.out
  have O := Lib.hid O12.out
  have PB := Lib.hid P'.out
  clear BL' X' O12 P'
  have c9 := (X.out.cell 9).trans HC.out.2.2.2.2.2.1
  have p0 := PB.out.cell 0
  simp at p0
  have p1 := PB.out.cell 1
  simp at p1
  have p2 := PB.out.cell 2
  simp at p2
  have p3 := PB.out.cell 3
  simp at p3
  go_wp2_with fail
  refine (put_any O.out BL.out.size UN 4 HKUN.out (by omega) (by rw [HL12.out]; omega)).mono ?_
  rintro e w13 ⟨rfl, ⟨A13, e13, ho⟩, hb⟩
  obtain ⟨l13, hl13⟩ : ∃ l, l = l12 ++ Wi.putL UN 4 := ⟨_, rfl⟩
  rw [← hl13] at ho
  have HL13 := Lib.hid (show l13.length = 21 from by rw [hl13, List.length_append, Wi.putL_length, HL12.out])
  have HD13 := Lib.hid hl13
  have O13 := Lib.hid ho
  have hbb := below_rowB hb HG.out.1 BL.out.size
  have BL' := Lib.hid (BL.out.trans hbb)
  have X' := Lib.hid (blk_rowB X.out hb (by decide) HG.out.2)
  have P' := Lib.hid (blk_rowB PB.out hb (by decide) HP.out)
  clear c9 ho hb hbb hl13 BL X O PB p0 p1 p2 p3
  have BL := Lib.hid BL'.out
  have X := Lib.hid X'.out
  have O := Lib.hid O13.out
  have PB := Lib.hid P'.out
  clear BL' X' O13 P'
  have p0 := PB.out.cell 0
  simp at p0
  have p1 := PB.out.cell 1
  simp at p1
  have p2 := PB.out.cell 2
  simp at p2
  have p3 := PB.out.cell 3
  simp at p3
  have o0 := O.out.blk.cell 0
  simp at o0
  go_wp2_with fail
  go_ret2
  refine ⟨_, _, _, rfl, ?_, BL.out⟩
  have hd : l13 = Wi.putL K 1 ++ Wi.putL N 2 ++ Wi.putL M 4 ++ Wi.putL RF 2 ++ Wi.putL FR 4 ++ Wi.putL TI 4 ++ Wi.putL UN 4 := by rw [HD13.out, HD12.out, HD11.out, HD10.out, HD9.out, HD7.out, HD6.out, HD5.out, List.nil_append]
  rw [HEQ.out, ← hd]
  exact O.out.own
end Go.Proofs.Ythdmdlnndbjcoaa.Ce
/-
  How many bytes the cell has that some bytes begin with, as Decode asks it; and the closure with which it reads numbers.
-/
namespace Go.Proofs.Ythdmdlnndbjcoaa.Ce
open Go.RowKit
attribute [local go_sem ↓] Go.wp_at_zero Go.wp_at_succ
theorem headN_B (k : Int) : headN k = headB (hasP k) (hasR k) (hasS k) (hasB k) := rfl
theorem headB_le (a b c d : Bool) : 7 ≤ headB a b c d ∧ headB a b c d ≤ 26 := by cases a <;> cases b <;> cases c <;> cases d <;> decide
set_option maxRecDepth 100000 in
set_option maxHeartbeats 6400000 in
theorem sizeIn_any {B : Nat} (A : Option Addr) (n c : Nat) (l : List UInt8) (w : World) (hn : l.length = n) (ha : Rd B w A (bv l)) (hB : B ≤ w.heap.size) (hm : n ≤ 1000000) :
    Calls Try.prog 79 #[.slice A n c] w (RetB (.tuple #[.int .i64 ((sizeCl l).1 : Int), .int .i64 ((sizeCl l).2 : Int)]) w) := by
  cases l with
  | nil =>
    simp only [List.length_nil] at hn
    subst hn
    go_enter Try.func79, Try.ntmps79
    go_wp2
    go_ret2
    exact ⟨rfl, Below.refl _ _⟩
  | cons x t =>
    obtain ⟨S, hS⟩ : ∃ S, S = sizeCl (x :: t) := ⟨_, rfl⟩
    rw [← hS]
    obtain ⟨ad, rfl, had, hc0⟩ := ha.at_ (k := 0) (by simp)
    simp only [List.getElem_cons_zero] at hc0
    have hc0' : w.cell? ad = some (.int .u8 (x.toNat : Int)) := by rw [← hc0, add_zero]
    have n0 : ((n : Int) == 0) = false := by simp only [List.length_cons] at hn; simp; omega
    have n1 : (0 : Int) < (n : Int) := by simp only [List.length_cons] at hn; omega
    have HA := Lib.hid (ha.more hB)
    have HYthdmdlnndbjcoaa := Lib.hid hn
    have HM := Lib.hid hm
    obtain ⟨K, hK⟩ : ∃ K : Int, K = (x.toNat : Int) := ⟨_, rfl⟩
    have k0 : 0 ≤ K := by omega
    have k1 : K ≤ 255 := by have := UInt8.toNat_lt x; omega
    rw [← hK] at hc0 hc0'
    unfold sizeCl at hS
    simp only at hS
    rw [← hK] at hS
    have HS := Lib.hid hS
    obtain ⟨a1, e1⟩ : ∃ a, a = hasP K := ⟨_, rfl⟩
    obtain ⟨a2, e2⟩ : ∃ a, a = hasR K := ⟨_, rfl⟩
    obtain ⟨a3, e3⟩ : ∃ a, a = hasS K := ⟨_, rfl⟩
    obtain ⟨a4, e4⟩ : ∃ a, a = hasB K := ⟨_, rfl⟩
    obtain ⟨a5, e5⟩ : ∃ a, a = isKind K := ⟨_, rfl⟩
    have HPO := Lib.hid (show ∀ W, Calls Try.prog 49 #[.int .i64 K] W (RetS (.tuple #[.agg #[.bool a1, .bool a2, .bool a3, .bool a4], .bool a5]) (W.alloc (.cells #[.bool a1, .bool a2, .bool a3, .bool a4] 102))) from fun W => by rw [e1, e2, e3, e4, e5]; exact partsOf_any K W)
    obtain ⟨H, hH⟩ : ∃ H, H = headN K := ⟨_, rfl⟩
    have HH := Lib.hid (show H = headB a1 a2 a3 a4 from by rw [hH, headN_B, e1, e2, e3, e4])
    have HHB := Lib.hid (show 7 ≤ H ∧ H ≤ 26 from by rw [HH.out]; exact headB_le _ _ _ _)
    have HE4 := Lib.hid (show cntCl K (x :: t) = if a4 then ((x :: t).getD (H - 1) 0).toNat else 0 from by unfold cntCl; rw [e4, hH])
    have HE5 := Lib.hid e5
    rw [← hH] at HS
    clear hS ha hB hn hm e1 e2 e3 e4 e5 hH hK
    go_enter Try.func79, Try.ntmps79
    go_wp2_with fail
    refine (HPO.out _).mono ?_
    rintro e w1 ⟨rfl, rfl⟩
    cases a5
    · go_wp2_with fail
      go_ret2
      have hs : S = (0, 3) := by rw [HS.out, ← HE5.out]; rfl
      rw [hs]
      exact ⟨rfl, bel2 _ _ _⟩
    · have hs := HS.out
      rw [← HE5.out] at hs
      have HS2 := Lib.hid hs
      clear hs HS
      go_upto_region 6 with fail
      obtain ⟨w2, hw2⟩ : ∃ v, v = (w.alloc (.cells #[.bool a1, .bool a2, .bool a3, .bool a4] 102)).alloc (.cells #[.bool a1, .bool a2, .bool a3, .bool a4] 102) := ⟨_, rfl⟩
      rw [← hw2]
      have B2 := Lib.hid (show Below w.heap.size w w2 from by rw [hw2]; exact bel2 _ _ _)
      have P2 := Lib.hid (show Blk w2 (w.heap.size + 1) #[.bool a1, .bool a2, .bool a3, .bool a4] 102 from by rw [hw2]; exact heap_alloc2_new _ _ _)
      clear hw2
      go_wp2_with (refine wpList_load_row rfl 102 (.tmp 4) rfl (w.heap.size + 1) rfl 102 #[.bool a1, .bool a2, .bool a3, .bool a4] (0, 0) _ P2.out Try.underlying102 rfl (by kernel_rfl) ?_)
      refine (psize_any _ _ _ _ _).mono ?_
      rw [← HH.out]
      rintro e w3 ⟨rfl, hw3⟩
      have bw : Below w2.heap.size w2 w3 := by rw [hw3]; exact bel1 _ _
      have B3 := Lib.hid (B2.out.trans (bw.mono B2.out.size))
      have P3 := Lib.hid (Blk.below P2.out bw)
      clear bw hw3 B2 P2
      obtain ⟨p3, hp3⟩ : ∃ v, v = P3.out.cell 3 := ⟨_, rfl⟩
      have p3 := P3.out.cell 3
      simp at p3
      by_cases hlt : n < H
      · have d1 : decide ((n : Int) < (H : Int)) = true := decide_eq_true (by omega)
        have d2 : decide (n < H) = true := decide_eq_true hlt
        have hs : S = (0, 14) := by rw [HS2.out, if_pos trivial, if_pos (by have := HYthdmdlnndbjcoaa.out; simp only [List.length_cons] at this; omega)]
        go_wp2_with fail
        go_ret2
        rw [hs]
        exact ⟨rfl, B3.out⟩
      · have d1 : decide ((n : Int) < (H : Int)) = false := decide_eq_false (by omega)
        have d2 : decide (n < H) = false := decide_eq_false hlt
        cases a4
        · have hcn : cntCl K (x :: t) = 0 := by rw [HE4.out]; rfl
          have hs : S = (H, 0) := by rw [HS2.out, if_pos trivial, if_neg (by have := HYthdmdlnndbjcoaa.out; simp only [List.length_cons] at this; omega), hcn, if_neg (by have := HYthdmdlnndbjcoaa.out; simp only [List.length_cons] at this; omega), Nat.add_zero]
          go_wp2_with fail
          go_ret2
          rw [hs]
          exact ⟨rfl, B3.out⟩
        · have hH1 : H - 1 < (x :: t).length := by have := HYthdmdlnndbjcoaa.out; have := HHB.out; omega
          obtain ⟨ad2, h1, _, hcb⟩ := (HA.out.below B3.out).at_ hH1
          injection h1 with h1
          subst h1
          obtain ⟨y, hy⟩ : ∃ y, y = (x :: t)[H - 1] := ⟨_, rfl⟩
          rw [← hy] at hcb
          have hcn : cntCl K (x :: t) = y.toNat := by rw [HE4.out, if_pos rfl, List.getD_eq_getElem?_getD, List.getElem?_eq_getElem hH1, hy]; rfl
          have HCN := Lib.hid hcn
          obtain ⟨J, hJ⟩ : ∃ J, J = H - 1 := ⟨_, rfl⟩
          rw [← hJ] at hcb
          have wj : IntKind.i64.wrap ((H : Int) - 1) = (J : Int) := by rw [IntWalk.i64_in _ (by have := HHB.out; omega)]; have := HHB.out; omega
          have j0 : (0 : Int) ≤ (J : Int) := by omega
          have j1 : (J : Int) < (n : Int) := by have := HHB.out; omega
          obtain ⟨Y, hY⟩ : ∃ Y : Nat, Y = y.toNat := ⟨_, rfl⟩
          have HYB := Lib.hid (show Y < 256 from by rw [hY]; exact UInt8.toNat_lt y)
          rw [← hY] at hcb HCN
          have y0 : (0 : Int) ≤ (Y : Int) := by omega
          have y1 : (Y : Int) ≤ 255 := by have := HYB.out; omega
          have wy : IntKind.i64.wrap (Y : Int) = (Y : Int) := IntWalk.i64_in _ (by omega)
          have wz : IntKind.i64.wrap ((H : Int) + (Y : Int)) = ((H + Y : Nat) : Int) := by rw [IntWalk.i64_in _ (by have := HHB.out; omega)]; omega
          have HLT := Lib.hid hlt
          clear hcn hJ hY hy hlt hH1
          obtain ⟨Z, hZ⟩ : ∃ Z, Z = H + Y := ⟨_, rfl⟩
          rw [← hZ] at wz
          have HZ := Lib.hid hZ
          clear hZ
          by_cases hlz : n < Z
          · have d3 : decide ((n : Int) < (Z : Int)) = true := decide_eq_true (by omega)
            have d4 : decide (n < Z) = true := decide_eq_true hlz
            have hs : S = (0, 14) := by rw [HS2.out, if_pos trivial, if_neg (by have := HYthdmdlnndbjcoaa.out; have := HLT.out; simp only [List.length_cons] at *; omega), HCN.out, if_pos (by have := HYthdmdlnndbjcoaa.out; have := HZ.out; simp only [List.length_cons] at *; omega)]
            have HSS := Lib.hid hs
            clear hs
            go_wp2_with fail
            go_ret2
            rw [HSS.out]
            exact ⟨rfl, B3.out⟩
          · have d3 : decide ((n : Int) < (Z : Int)) = false := decide_eq_false (by omega)
            have d4 : decide (n < Z) = false := decide_eq_false hlz
            have hs : S = (Z, 0) := by rw [HS2.out, if_pos trivial, if_neg (by have := HYthdmdlnndbjcoaa.out; have := HLT.out; simp only [List.length_cons] at *; omega), HCN.out, if_neg (by have := HYthdmdlnndbjcoaa.out; have := HZ.out; simp only [List.length_cons] at *; omega), HZ.out]
            have HSS := Lib.hid hs
            clear hs
            go_wp2_with fail
            go_ret2
            rw [HSS.out]
            exact ⟨rfl, B3.out⟩
/-- What is left to be read, in block b. -/
structure Src (w : World) (B b : Nat) (l : List UInt8) (A : Option Addr) (c : Nat) : Prop where
  blk : Blk w b #[.slice A l.length c] 34
  rd : Rd B w A (bv l)
  cap : l.length ≤ c ∧ c ≤ maxLen
theorem src_below {w w' : World} {B b : Nat} {l : List UInt8} {A : Option Addr} {c : Nat} (h : Src w B b l A c) (hb : Below w.heap.size w w') (hB : B ≤ w.heap.size) : Src w' B b l A c := ⟨Blk.below h.blk hb, h.rd.below (hb.mono hB), h.cap⟩
set_option maxRecDepth 100000 in
set_option maxHeartbeats 6400000 in
theorem next_any {w : World} {B b : Nat} {l : List UInt8} {A : Option Addr} {c : Nat} (h : Src w B b l A c) (hB : B ≤ b) (s : Nat) (hs : 1 ≤ s ∧ s ≤ 8) (hl : s ≤ l.length) :
    Calls Try.prog 93 #[.int .i64 s, .pointer (some ⟨b, 0, none⟩)] w (fun e w' => e = .returned (.int .u64 (Wi.getL (l.take s) : Int)) ∧ (∃ A' c', Src w' B b (l.drop s) A' c') ∧ But (fun q => q = b) w w') := by
  obtain ⟨n, hn⟩ : ∃ n, n = l.length := ⟨_, rfl⟩
  obtain ⟨ad, rfl, had, hqq⟩ := h.rd.at_ (k := 0) (by omega)
  clear hqq had
  have hx := h.blk
  have hcp := h.cap
  rw [← hn] at hx hcp hl
  have cb := hx.cell 0
  simp at cb
  have fz := blk_frozen hx 0
  have s0 : (0 : Int) ≤ (s : Int) := by omega
  have s1 : (s : Int) ≤ (n : Int) := by omega
  have sc : (s : Int) ≤ (c : Int) := by omega
  have nc : (n : Int) ≤ (c : Int) := by omega
  have HX := Lib.hid hx
  have HR := Lib.hid h.rd
  have HCP := Lib.hid hcp
  have HN := Lib.hid hn
  have HS := Lib.hid hs
  have HL := Lib.hid hl
  clear h hx hcp hn hs hl
  go_enter Try.func93, Try.ntmps93
  go_wp2_with fail
  refine (Wi.wget_in (some ad) s c (l.take s) w (by have := HL.out; have := HN.out; rw [List.length_take]; omega) (Rd.take HR.out s) HS.out.1 HS.out.2).mono ?_
  rintro e w1 ⟨rfl, rfl⟩
  have fin : ∀ (A' : Option Addr) (c' : Nat), Rd B w A' (bv (l.drop s)) → n - s ≤ c' ∧ c' ≤ maxLen → Src (w.setCell ⟨b, 0, none⟩ (.slice A' (n - s) c')) B b (l.drop s) A' c' := fun A' c' hrd hcc => by
    have hln : (l.drop s).length = n - s := by rw [List.length_drop, HN.out]
    refine ⟨by rw [hln]; exact blk_setN8C HX.out _, hrd.below ((Below.refl B w).setCell hB _), by rw [hln]; exact hcc⟩
  have fbt : ∀ v : Value, But (fun q => q = b) w (w.setCell ⟨b, 0, none⟩ v) := fun v => (But.refl (S := fun q => q = b) w).setCell (.inl rfl) _
  have HF := Lib.hid fin
  have HT := Lib.hid fbt
  clear fin fbt
  go_wp2_with fail
  case inl =>
    go_ret
    have hns : n = s := by have := HL.out; have := HCP.out.1; omega
    have hz : l.drop s = [] := List.drop_of_length_le (by rw [← HN.out, hns]; exact Nat.le_refl _)
    exact ⟨rfl, ⟨_, _, HF.out _ _ (by rw [hz]; exact Rd.none) (by omega)⟩, HT.out _⟩
  case inr =>
    go_ret
    exact ⟨rfl, ⟨_, _, HF.out _ _ (HR.out.drop s) (by have := HCP.out; omega)⟩, HT.out _⟩
end Go.Proofs.Ythdmdlnndbjcoaa.Ce
/-
  The contract of bytes.Clone: a row of the same bytes in new memory.
-/
namespace Go.Proofs.Ythdmdlnndbjcoaa.Sx
open Go.RowKit
set_option maxHeartbeats 800000 in
theorem clone_some {B : Nat} (ad : Addr) (n c : Nat) (l : List UInt8) (w : World) (hn : l.length = n) (hB : B ≤ w.heap.size) (ha : Rd B w (some ad) (bv l)) (hs : n ≤ 140737488355328) :
    Calls Try.prog 54 #[.slice (some ad) n c] w (RetRow 5 (bv l) w) := by
  have hnil := fun W => Lib.run_eql_slice_nil (P := Try.prog) W 34 5 (some ad) n c 0 0 Try.underlying34
  simp only [Option.isNone_some] at hnil
  have HN := Lib.hid hn
  clear hn
  go_enter Try.func54, Try.ntmps54
  go_wp2_with (at_builtin; refine wpList_app _ rfl (.tmp 5) (.tmp 6) _ rfl Wi.bytesElt (base := w.heap.size) (v := .slice (some ⟨w.heap.size, 0, none⟩) 0 0) rfl (World.ownsRow_lit w #[] 0 (Nat.le_refl _) (Nat.zero_le _) rfl) (m := n) rfl ((ha.more hB).below ((Below.refl _ _).alloc (Nat.le_refl _) _)) ((bv_length l).trans HN.out) (bv_one _) ?_ ?_ ?_; omega; (simp); intro A2 c2 w2 ho2 hg2 _; have hb2 := app_below ((Below.refl w.heap.size w).alloc (Nat.le_refl _) _) (World.ownsRow_lit w #[] 0 (Nat.le_refl _) (Nat.zero_le _) rfl) hg2 (Nat.le_refl _) (by simp))
  go_ret
  exact RetRow.mk rfl (own_eq ho2 (by omega) rfl) hb2

set_option maxHeartbeats 800000 in
theorem clone_none (n c : Nat) (w : World) :
    Calls Try.prog 54 #[.slice none n c] w fun e w' => e = .returned (.slice none 0 0) ∧ w = w' := by
  have hnil := fun W => Lib.run_eql_slice_nil (P := Try.prog) W 34 5 none n c 0 0 Try.underlying34
  simp only [Option.isNone_none] at hnil
  go_enter Try.func54, Try.ntmps54
  go_wp2_with fail
  go_ret
  exact ⟨rfl, rfl⟩

theorem clone_any {B : Nat} (A : Option Addr) (n c : Nat) (l : List UInt8) (w : World) (hn : l.length = n) (hB : B ≤ w.heap.size) (ha : Rd B w A (bv l)) (hs : n ≤ 140737488355328) :
    Calls Try.prog 54 #[.slice A n c] w (RetRow 5 (bv l) w) := by
  rcases A with _ | ad
  · have hl : l = [] := by
      rcases l with _ | ⟨x, l⟩
      · rfl
      · obtain ⟨_, h, _⟩ := ha.at_ (k := 0) (by simp)
        cases h
    subst hl
    refine (clone_none n c w).mono ?_
    rintro e w' ⟨rfl, rfl⟩
    exact RetRow.mk rfl (World.ownsRow_nil _ _ _ _) (Below.refl _ _)
  · exact clone_some ad n c l w hn hB ha hs
end Go.Proofs.Ythdmdlnndbjcoaa.Sx
/-
  What Decode reads out of all of a cell's bytes.
-/
namespace Go.Proofs.Ythdmdlnndbjcoaa.Ce
open Go.RowKit
attribute [local go_sem ↓] Go.wp_at_zero Go.wp_at_succ
/-- The cells of the cell that is made. -/
def rA (kd : Int) (nm : Int) (mn br vo bk rf fr ti un : Int) (v : Value) : Array Value := #[.int .i64 kd, .int .u64 nm, .int .i64 mn, .int .i64 br, .int .i64 vo, .int .i64 bk, .int .u64 rf, .int .i64 fr, .int .i64 ti, .int .i64 un, v]
/-- It returns the cell y, its body in new memory. -/
def RetCl (y : Cl) (w : World) (e : Ending) (w' : World) : Prop := ∃ A c, e = .returned (.agg (clA y A c)) ∧ w'.ownsRow w.heap.size 5 1 (.slice A y.body.length c) y.body.length (bv y.body) ∧ Below w.heap.size w w'
theorem part_lt {l : List UInt8} (i j : Nat) : Wi.getL (part l i j) < 256 ^ j := by
  have h := Wi.getL_lt (part l i j)
  have h2 : (part l i j).length ≤ j := by unfold part; rw [List.length_take]; omega
  exact Nat.lt_of_lt_of_le h (Nat.pow_le_pow_right (by omega) h2)
theorem info_cl : (Try.prog.info? 44).map (·.size) = some 11 := by kernel_rfl
theorem src_set {w : World} {B b g : Nat} {l : List UInt8} {A : Option Addr} {c k : Nat} {v : Value} (h : Src w B b l A c) (hg : g ≠ b) (hB : B ≤ g) : Src (w.setCell ⟨g, k, none⟩ v) B b l A c :=
  ⟨h.blk.but (show But (fun q => q = g) w _ from (But.refl (S := fun q => q = g) w).setCell (.inl rfl) _) (fun e => hg e.symm), h.rd.below ((Below.refl B w).setCell hB _), h.cap⟩

set_option maxRecDepth 100000 in
set_option maxHeartbeats 12800000 in
theorem read_ma {B : Nat} (k : Int) (hk : k = 8) (A : Option Addr) (n c : Nat) (l : List UInt8) (w : World) (hn : l.length = n) (hcap : n ≤ c ∧ c ≤ maxLen) (hr : Rd B w A (bv l)) (hB : B ≤ w.heap.size) (h0 : ((l.getD 0 0).toNat : Int) = k) (hl : 7 ≤ n) (hm : n ≤ 1000000) :
    Calls Try.prog 80 #[.slice A n c] w (RetCl (readCl k l) w) := by
  obtain ⟨V0, hV0⟩ : ∃ V, V = Wi.getL (part l 0 1) := ⟨_, rfl⟩
  have bV0 : V0 < 256 := by rw [hV0]; exact part_lt 0 1
  have wV0 : IntKind.i64.wrap (V0 : Int) = (V0 : Int) := IntWalk.i64_in _ (by omega)
  obtain ⟨V1, hV1⟩ : ∃ V, V = Wi.getL (part l 1 2) := ⟨_, rfl⟩
  have bV1 : V1 < 65536 := by rw [hV1]; exact part_lt 1 2
  obtain ⟨V3, hV3⟩ : ∃ V, V = Wi.getL (part l 3 4) := ⟨_, rfl⟩
  have bV3 : V3 < 4294967296 := by rw [hV3]; exact part_lt 3 4
  have wV3 : IntKind.i64.wrap (V3 : Int) = (V3 : Int) := IntWalk.i64_in _ (by omega)
  have hV0k : (V0 : Int) = k := by
    obtain ⟨x, t, rfl, _⟩ := cons_of (n := 0) (l := l) (by omega)
    rw [hV0, ← h0]
    simp [part, Wi.getL]
  have HE : readCl k l = ⟨k, V1, V3, 0, 0, 0, 0, 0, 0, 0, []⟩ := by
    unfold readCl
    rw [show hasP k = false from decide_eq_false (by omega), show hasR k = false from decide_eq_false (by omega), show hasS k = false from decide_eq_false (by omega), show hasB k = false from decide_eq_false (by omega), hV1, hV3]
    simp
  have HPO := Lib.hid (show ∀ W, Calls Try.prog 49 #[.int .i64 (V0 : Int)] W (RetS (.tuple #[.agg #[.bool false, .bool false, .bool false, .bool false], .bool true]) (W.alloc (.cells #[.bool false, .bool false, .bool false, .bool false] 102))) from fun W => by
    have h := partsOf_any k W
    rw [show hasP k = false from decide_eq_false (by omega), show hasR k = false from decide_eq_false (by omega), show hasS k = false from decide_eq_false (by omega), show hasB k = false from decide_eq_false (by omega), show isKind k = true from decide_eq_true (by omega), ← hV0k] at h
    exact h)
  obtain ⟨y, hy⟩ : ∃ y, y = readCl k l := ⟨_, rfl⟩
  rw [← hy] at HE ⊢
  rw [← hV0k] at HE
  have HEQ := Lib.hid HE
  have HYthdmdlnndbjcoaa := Lib.hid hn
  have HM := Lib.hid hm
  have HLL := Lib.hid hl
  obtain ⟨w2, hw2⟩ : ∃ v, v = (w.alloc (.cells #[.slice A n c] 34)).alloc (.cells (rA 0 0 0 0 0 0 0 0 0 0 (.slice none 0 0)) 44) := ⟨_, rfl⟩
  have BL := Lib.hid (show Below w.heap.size w w2 from by rw [hw2]; exact bel2 _ _ _)
  have S := Lib.hid (show Src w2 w.heap.size w.heap.size l A c from ⟨by rw [hn, hw2]; exact heap_alloc2_old _ _ _, (hr.more hB).below BL.out, by rw [hn]; exact hcap⟩)
  have R := Lib.hid (show Blk w2 (w.heap.size + 1) (rA 0 0 0 0 0 0 0 0 0 0 (.slice none 0 0)) 44 from by rw [hw2]; exact heap_alloc2_new _ _ _)
  have HV0 := Lib.hid hV0
  have HV1 := Lib.hid hV1
  have HV3 := Lib.hid hV3
  clear hn hcap hr hB h0 hl hm HE hy hk hV0k hV0 hV1 hV3
  go_enter Try.func80, Try.ntmps80
  go_upto_region 2 with fail
  have e2 : w2 = (w.alloc (.cells #[.slice A n c] 34)).alloc (.cells #[.int .i64 0, .int .u64 0, .int .i64 0, .int .i64 0, .int .i64 0, .int .i64 0, .int .u64 0, .int .i64 0, .int .i64 0, .int .i64 0, .slice none 0 0] 44) := hw2
  rw [← e2]
  clear hw2 e2
  go_wp2_with fail
  refine (next_any S.out (Nat.le_refl _) 1 (by omega) (by have := HYthdmdlnndbjcoaa.out; have := HLL.out; omega)).mono ?_
  rintro e w3 ⟨rfl, ⟨A3, e3, hs⟩, hb⟩
  rw [show Wi.getL ((l).take 1) = V0 from HV0.out.symm]
  
  have R1 := Lib.hid (R.out.but hb (by omega))
  have BL1 := Lib.hid (BL.out.trans (hb.below (fun q hq h => by omega) BL.out.size))
  have hsz := hb.size
  have S1 := Lib.hid (show Src w3 w.heap.size w.heap.size (l.drop 1) A3 e3 from hs)
  
  have cc := R1.out.cell 0
  simp [rA] at cc
  have fz := blk_frozen R1.out 0
  clear R BL S hs hb 
  go_upto_region 3 with fail
  obtain ⟨w4, hw4⟩ : ∃ v, v = w3.setCell ⟨w.heap.size + 1, 0, none⟩ (.int .i64 (V0 : Int)) := ⟨_, rfl⟩
  have hbs : But (fun q => q = w.heap.size + 1) w3 w4 := by rw [hw4]; exact (But.refl (S := fun q => q = w.heap.size + 1) w3).setCell (.inl rfl) _
  have R := Lib.hid (show Blk w4 (w.heap.size + 1) (rA V0 0 0 0 0 0 0 0 0 0 (.slice none 0 0)) 44 from by rw [hw4]; exact heap_setCell_same _ _ _ _ _ _ R1.out)
  have S := Lib.hid (show Src w4 w.heap.size w.heap.size _ _ _ from by rw [hw4]; exact src_set S1.out (by omega) (by omega))
  have BL := Lib.hid (BL1.out.trans (hbs.below (fun q hq h => by omega) BL1.out.size))
  
  rw [← hw4]
  clear R1 S1 BL1 cc fz hbs hw4 hsz 
  go_wp2_with fail
  refine (next_any S.out (Nat.le_refl _) 2 (by omega) (by have := HYthdmdlnndbjcoaa.out; have := HLL.out; rw [List.length_drop]; omega)).mono ?_
  rintro e w5 ⟨rfl, ⟨A5, e5, hs⟩, hb⟩
  rw [show Wi.getL ((l.drop 1).take 2) = V1 from HV1.out.symm]
  rw [List.drop_drop] at hs
  have R1 := Lib.hid (R.out.but hb (by omega))
  have BL1 := Lib.hid (BL.out.trans (hb.below (fun q hq h => by omega) BL.out.size))
  have hsz := hb.size
  have S1 := Lib.hid (show Src w5 w.heap.size w.heap.size (l.drop 3) A5 e5 from hs)
  
  have cc := R1.out.cell 1
  simp [rA] at cc
  have fz := blk_frozen R1.out 1
  clear R BL S hs hb 
  go_upto_region 4 with fail
  obtain ⟨w6, hw6⟩ : ∃ v, v = w5.setCell ⟨w.heap.size + 1, 1, none⟩ (.int .u64 (V1 : Int)) := ⟨_, rfl⟩
  have hbs : But (fun q => q = w.heap.size + 1) w5 w6 := by rw [hw6]; exact (But.refl (S := fun q => q = w.heap.size + 1) w5).setCell (.inl rfl) _
  have R := Lib.hid (show Blk w6 (w.heap.size + 1) (rA V0 V1 0 0 0 0 0 0 0 0 (.slice none 0 0)) 44 from by rw [hw6]; exact heap_setCell_same _ _ _ _ _ _ R1.out)
  have S := Lib.hid (show Src w6 w.heap.size w.heap.size _ _ _ from by rw [hw6]; exact src_set S1.out (by omega) (by omega))
  have BL := Lib.hid (BL1.out.trans (hbs.below (fun q hq h => by omega) BL1.out.size))
  
  rw [← hw6]
  clear R1 S1 BL1 cc fz hbs hw6 hsz 
  go_wp2_with fail
  refine (next_any S.out (Nat.le_refl _) 4 (by omega) (by have := HYthdmdlnndbjcoaa.out; have := HLL.out; rw [List.length_drop]; omega)).mono ?_
  rintro e w7 ⟨rfl, ⟨A7, e7, hs⟩, hb⟩
  rw [show Wi.getL ((l.drop 3).take 4) = V3 from HV3.out.symm]
  rw [List.drop_drop] at hs
  have R1 := Lib.hid (R.out.but hb (by omega))
  have BL1 := Lib.hid (BL.out.trans (hb.below (fun q hq h => by omega) BL.out.size))
  have hsz := hb.size
  have S1 := Lib.hid (show Src w7 w.heap.size w.heap.size (l.drop 7) A7 e7 from hs)
  
  have cc := R1.out.cell 2
  simp [rA] at cc
  have fz := blk_frozen R1.out 2
  clear R BL S hs hb 
  go_upto_region 5 with fail
  obtain ⟨w8, hw8⟩ : ∃ v, v = w7.setCell ⟨w.heap.size + 1, 2, none⟩ (.int .i64 (V3 : Int)) := ⟨_, rfl⟩
  have hbs : But (fun q => q = w.heap.size + 1) w7 w8 := by rw [hw8]; exact (But.refl (S := fun q => q = w.heap.size + 1) w7).setCell (.inl rfl) _
  have R := Lib.hid (show Blk w8 (w.heap.size + 1) (rA V0 V1 V3 0 0 0 0 0 0 0 (.slice none 0 0)) 44 from by rw [hw8]; exact heap_setCell_same _ _ _ _ _ _ R1.out)
  have S := Lib.hid (show Src w8 w.heap.size w.heap.size _ _ _ from by rw [hw8]; exact src_set S1.out (by omega) (by omega))
  have BL := Lib.hid (BL1.out.trans (hbs.below (fun q hq h => by omega) BL1.out.size))
  
  rw [← hw8]
  clear R1 S1 BL1 cc fz hbs hw8 hsz 
  have c0 := R.out.cell 0
  simp [rA] at c0
  go_wp2_with fail
  refine (HPO.out _).mono ?_
  rintro e w9 ⟨rfl, rfl⟩
  go_upto_region 6 with fail
  obtain ⟨w10, hw10⟩ : ∃ v, v = (w8.alloc (.cells #[.bool false, .bool false, .bool false, .bool false] 102)).alloc (.cells #[.bool false, .bool false, .bool false, .bool false] 102) := ⟨_, rfl⟩
  rw [← hw10]
  have bw : Below w8.heap.size w8 w10 := by rw [hw10]; exact bel2 _ _ _
  have R1 := Lib.hid (Blk.below R.out bw)
  have S1 := Lib.hid (src_below S.out bw BL.out.size)
  have BL1 := Lib.hid (BL.out.trans (bw.mono BL.out.size))
  obtain ⟨pb, hpb⟩ : ∃ pb, pb = w8.heap.size + 1 := ⟨_, rfl⟩
  rw [← hpb]
  have PB := Lib.hid (show Blk w10 pb #[.bool false, .bool false, .bool false, .bool false] 102 from by rw [hw10, hpb]; exact heap_alloc2_new _ _ _)
  have HP := Lib.hid (show pb ≠ w.heap.size from by have := BL.out.size; omega)
  have HP2 := Lib.hid (show pb ≠ w.heap.size + 1 from by have := R.out.lt; omega)
  clear c0 R S BL bw hw10 hpb
  have R := Lib.hid R1.out
  have S := Lib.hid S1.out
  have BL := Lib.hid BL1.out
  clear R1 S1 BL1
  have p0 := PB.out.cell 0
  simp at p0
  have p1 := PB.out.cell 1
  simp at p1
  have p2 := PB.out.cell 2
  simp at p2
  have p3 := PB.out.cell 3
  simp at p3
  go_upto_region 18 with fail
  obtain ⟨cs, hcs⟩ : ∃ cs, cs = (rA V0 V1 V3 0 0 0 0 0 0 0 (.slice none 0 0)) := ⟨_, rfl⟩
  have HCS := Lib.hid (show Value.agg cs = Value.agg (clA y none 0) from by rw [hcs, HEQ.out]; unfold clA; simp only; rfl)
  have HIC := Lib.hid (show (Try.prog.info? 44).map (·.size) = some cs.size from by rw [hcs]; kernel_rfl)
  have HON := Lib.hid (show ∀ u ∈ cs.toList, u.oneCell' = true from by rw [hcs]; simp [rA, Value.oneCell'])
  have HON2 := Lib.hid (show cs.all (·.oneCell') = true from by rw [hcs]; simp [rA, Value.oneCell'])
  have R2 := Lib.hid (show Blk _ (w.heap.size + 1) cs 44 from by rw [hcs]; exact R.out)
  clear R hcs
  go_wp2_with (first
    | (refine wpList_load_row rfl 44 (.tmp 2) rfl (w.heap.size + 1) rfl 44 cs (0, 0) _ R2.out Try.underlying44 rfl HIC.out ?_)
    | (refine wpList_store_row rfl 44 (.tmp 2) (.tmp 66) rfl (w.heap.size + 1) cs rfl rfl 44 cs R2.out HIC.out rfl HON2.out ?_))
  refine bodyPost_ret (v := .agg cs) (results_cell_row Try.results80 _ _ (w.heap.size + 1) 44 cs (0, 0) _ rfl (setRow_heap _ _ _ _ _ _ R2.out) Try.underlying44 rfl HIC.out) rfl ?_
  refine ⟨none, 0, by rw [HCS.out], ?_, below_setRow BL.out (by omega) _⟩
  have hyb : y.body = [] := by rw [HEQ.out]
  rw [hyb]
  exact World.ownsRow_nil _ _ _ _
set_option maxRecDepth 100000 in
set_option maxHeartbeats 12800000 in
theorem read_li {B : Nat} (k : Int) (hk : k = 7) (A : Option Addr) (n c : Nat) (l : List UInt8) (w : World) (hn : l.length = n) (hcap : n ≤ c ∧ c ≤ maxLen) (hr : Rd B w A (bv l)) (hB : B ≤ w.heap.size) (h0 : ((l.getD 0 0).toNat : Int) = k) (hl : 9 ≤ n) (hm : n ≤ 1000000) :
    Calls Try.prog 80 #[.slice A n c] w (RetCl (readCl k l) w) := by
  obtain ⟨V0, hV0⟩ : ∃ V, V = Wi.getL (part l 0 1) := ⟨_, rfl⟩
  have bV0 : V0 < 256 := by rw [hV0]; exact part_lt 0 1
  have wV0 : IntKind.i64.wrap (V0 : Int) = (V0 : Int) := IntWalk.i64_in _ (by omega)
  obtain ⟨V1, hV1⟩ : ∃ V, V = Wi.getL (part l 1 2) := ⟨_, rfl⟩
  have bV1 : V1 < 65536 := by rw [hV1]; exact part_lt 1 2
  obtain ⟨V3, hV3⟩ : ∃ V, V = Wi.getL (part l 3 4) := ⟨_, rfl⟩
  have bV3 : V3 < 4294967296 := by rw [hV3]; exact part_lt 3 4
  have wV3 : IntKind.i64.wrap (V3 : Int) = (V3 : Int) := IntWalk.i64_in _ (by omega)
  obtain ⟨VR, hVR⟩ : ∃ V, V = Wi.getL (part l 7 2) := ⟨_, rfl⟩
  have bVR : VR < 65536 := by rw [hVR]; exact part_lt 7 2
  have hV0k : (V0 : Int) = k := by
    obtain ⟨x, t, rfl, _⟩ := cons_of (n := 0) (l := l) (by omega)
    rw [hV0, ← h0]
    simp [part, Wi.getL]
  have HE : readCl k l = ⟨k, V1, V3, 0, 0, 0, VR, 0, 0, 0, []⟩ := by
    unfold readCl
    rw [show hasP k = false from decide_eq_false (by omega), show hasR k = true from decide_eq_true (by omega), show hasS k = false from decide_eq_false (by omega), show hasB k = false from decide_eq_false (by omega), hV1, hV3, hVR]
    simp
  have HPO := Lib.hid (show ∀ W, Calls Try.prog 49 #[.int .i64 (V0 : Int)] W (RetS (.tuple #[.agg #[.bool false, .bool true, .bool false, .bool false], .bool true]) (W.alloc (.cells #[.bool false, .bool true, .bool false, .bool false] 102))) from fun W => by
    have h := partsOf_any k W
    rw [show hasP k = false from decide_eq_false (by omega), show hasR k = true from decide_eq_true (by omega), show hasS k = false from decide_eq_false (by omega), show hasB k = false from decide_eq_false (by omega), show isKind k = true from decide_eq_true (by omega), ← hV0k] at h
    exact h)
  obtain ⟨y, hy⟩ : ∃ y, y = readCl k l := ⟨_, rfl⟩
  rw [← hy] at HE ⊢
  rw [← hV0k] at HE
  have HEQ := Lib.hid HE
  have HYthdmdlnndbjcoaa := Lib.hid hn
  have HM := Lib.hid hm
  have HLL := Lib.hid hl
  obtain ⟨w2, hw2⟩ : ∃ v, v = (w.alloc (.cells #[.slice A n c] 34)).alloc (.cells (rA 0 0 0 0 0 0 0 0 0 0 (.slice none 0 0)) 44) := ⟨_, rfl⟩
  have BL := Lib.hid (show Below w.heap.size w w2 from by rw [hw2]; exact bel2 _ _ _)
  have S := Lib.hid (show Src w2 w.heap.size w.heap.size l A c from ⟨by rw [hn, hw2]; exact heap_alloc2_old _ _ _, (hr.more hB).below BL.out, by rw [hn]; exact hcap⟩)
  have R := Lib.hid (show Blk w2 (w.heap.size + 1) (rA 0 0 0 0 0 0 0 0 0 0 (.slice none 0 0)) 44 from by rw [hw2]; exact heap_alloc2_new _ _ _)
  have HV0 := Lib.hid hV0
  have HV1 := Lib.hid hV1
  have HV3 := Lib.hid hV3
  have HVR := Lib.hid hVR
  clear hn hcap hr hB h0 hl hm HE hy hk hV0k hV0 hV1 hV3 hVR
  go_enter Try.func80, Try.ntmps80
  go_upto_region 2 with fail
  have e2 : w2 = (w.alloc (.cells #[.slice A n c] 34)).alloc (.cells #[.int .i64 0, .int .u64 0, .int .i64 0, .int .i64 0, .int .i64 0, .int .i64 0, .int .u64 0, .int .i64 0, .int .i64 0, .int .i64 0, .slice none 0 0] 44) := hw2
  rw [← e2]
  clear hw2 e2
  go_wp2_with fail
  refine (next_any S.out (Nat.le_refl _) 1 (by omega) (by have := HYthdmdlnndbjcoaa.out; have := HLL.out; omega)).mono ?_
  rintro e w3 ⟨rfl, ⟨A3, e3, hs⟩, hb⟩
  rw [show Wi.getL ((l).take 1) = V0 from HV0.out.symm]
  
  have R1 := Lib.hid (R.out.but hb (by omega))
  have BL1 := Lib.hid (BL.out.trans (hb.below (fun q hq h => by omega) BL.out.size))
  have hsz := hb.size
  have S1 := Lib.hid (show Src w3 w.heap.size w.heap.size (l.drop 1) A3 e3 from hs)
  
  have cc := R1.out.cell 0
  simp [rA] at cc
  have fz := blk_frozen R1.out 0
  clear R BL S hs hb 
  go_upto_region 3 with fail
  obtain ⟨w4, hw4⟩ : ∃ v, v = w3.setCell ⟨w.heap.size + 1, 0, none⟩ (.int .i64 (V0 : Int)) := ⟨_, rfl⟩
  have hbs : But (fun q => q = w.heap.size + 1) w3 w4 := by rw [hw4]; exact (But.refl (S := fun q => q = w.heap.size + 1) w3).setCell (.inl rfl) _
  have R := Lib.hid (show Blk w4 (w.heap.size + 1) (rA V0 0 0 0 0 0 0 0 0 0 (.slice none 0 0)) 44 from by rw [hw4]; exact heap_setCell_same _ _ _ _ _ _ R1.out)
  have S := Lib.hid (show Src w4 w.heap.size w.heap.size _ _ _ from by rw [hw4]; exact src_set S1.out (by omega) (by omega))
  have BL := Lib.hid (BL1.out.trans (hbs.below (fun q hq h => by omega) BL1.out.size))
  
  rw [← hw4]
  clear R1 S1 BL1 cc fz hbs hw4 hsz 
  go_wp2_with fail
  refine (next_any S.out (Nat.le_refl _) 2 (by omega) (by have := HYthdmdlnndbjcoaa.out; have := HLL.out; rw [List.length_drop]; omega)).mono ?_
  rintro e w5 ⟨rfl, ⟨A5, e5, hs⟩, hb⟩
  rw [show Wi.getL ((l.drop 1).take 2) = V1 from HV1.out.symm]
  rw [List.drop_drop] at hs
  have R1 := Lib.hid (R.out.but hb (by omega))
  have BL1 := Lib.hid (BL.out.trans (hb.below (fun q hq h => by omega) BL.out.size))
  have hsz := hb.size
  have S1 := Lib.hid (show Src w5 w.heap.size w.heap.size (l.drop 3) A5 e5 from hs)
  
  have cc := R1.out.cell 1
  simp [rA] at cc
  have fz := blk_frozen R1.out 1
  clear R BL S hs hb 
  go_upto_region 4 with fail
  obtain ⟨w6, hw6⟩ : ∃ v, v = w5.setCell ⟨w.heap.size + 1, 1, none⟩ (.int .u64 (V1 : Int)) := ⟨_, rfl⟩
  have hbs : But (fun q => q = w.heap.size + 1) w5 w6 := by rw [hw6]; exact (But.refl (S := fun q => q = w.heap.size + 1) w5).setCell (.inl rfl) _
  have R := Lib.hid (show Blk w6 (w.heap.size + 1) (rA V0 V1 0 0 0 0 0 0 0 0 (.slice none 0 0)) 44 from by rw [hw6]; exact heap_setCell_same _ _ _ _ _ _ R1.out)
  have S := Lib.hid (show Src w6 w.heap.size w.heap.size _ _ _ from by rw [hw6]; exact src_set S1.out (by omega) (by omega))
  have BL := Lib.hid (BL1.out.trans (hbs.below (fun q hq h => by omega) BL1.out.size))
  
  rw [← hw6]
  clear R1 S1 BL1 cc fz hbs hw6 hsz 
  go_wp2_with fail
  refine (next_any S.out (Nat.le_refl _) 4 (by omega) (by have := HYthdmdlnndbjcoaa.out; have := HLL.out; rw [List.length_drop]; omega)).mono ?_
  rintro e w7 ⟨rfl, ⟨A7, e7, hs⟩, hb⟩
  rw [show Wi.getL ((l.drop 3).take 4) = V3 from HV3.out.symm]
  rw [List.drop_drop] at hs
  have R1 := Lib.hid (R.out.but hb (by omega))
  have BL1 := Lib.hid (BL.out.trans (hb.below (fun q hq h => by omega) BL.out.size))
  have hsz := hb.size
  have S1 := Lib.hid (show Src w7 w.heap.size w.heap.size (l.drop 7) A7 e7 from hs)
  
  have cc := R1.out.cell 2
  simp [rA] at cc
  have fz := blk_frozen R1.out 2
  clear R BL S hs hb 
  go_upto_region 5 with fail
  obtain ⟨w8, hw8⟩ : ∃ v, v = w7.setCell ⟨w.heap.size + 1, 2, none⟩ (.int .i64 (V3 : Int)) := ⟨_, rfl⟩
  have hbs : But (fun q => q = w.heap.size + 1) w7 w8 := by rw [hw8]; exact (But.refl (S := fun q => q = w.heap.size + 1) w7).setCell (.inl rfl) _
  have R := Lib.hid (show Blk w8 (w.heap.size + 1) (rA V0 V1 V3 0 0 0 0 0 0 0 (.slice none 0 0)) 44 from by rw [hw8]; exact heap_setCell_same _ _ _ _ _ _ R1.out)
  have S := Lib.hid (show Src w8 w.heap.size w.heap.size _ _ _ from by rw [hw8]; exact src_set S1.out (by omega) (by omega))
  have BL := Lib.hid (BL1.out.trans (hbs.below (fun q hq h => by omega) BL1.out.size))
  
  rw [← hw8]
  clear R1 S1 BL1 cc fz hbs hw8 hsz 
  have c0 := R.out.cell 0
  simp [rA] at c0
  go_wp2_with fail
  refine (HPO.out _).mono ?_
  rintro e w9 ⟨rfl, rfl⟩
  go_upto_region 6 with fail
  obtain ⟨w10, hw10⟩ : ∃ v, v = (w8.alloc (.cells #[.bool false, .bool true, .bool false, .bool false] 102)).alloc (.cells #[.bool false, .bool true, .bool false, .bool false] 102) := ⟨_, rfl⟩
  rw [← hw10]
  have bw : Below w8.heap.size w8 w10 := by rw [hw10]; exact bel2 _ _ _
  have R1 := Lib.hid (Blk.below R.out bw)
  have S1 := Lib.hid (src_below S.out bw BL.out.size)
  have BL1 := Lib.hid (BL.out.trans (bw.mono BL.out.size))
  obtain ⟨pb, hpb⟩ : ∃ pb, pb = w8.heap.size + 1 := ⟨_, rfl⟩
  rw [← hpb]
  have PB := Lib.hid (show Blk w10 pb #[.bool false, .bool true, .bool false, .bool false] 102 from by rw [hw10, hpb]; exact heap_alloc2_new _ _ _)
  have HP := Lib.hid (show pb ≠ w.heap.size from by have := BL.out.size; omega)
  have HP2 := Lib.hid (show pb ≠ w.heap.size + 1 from by have := R.out.lt; omega)
  clear c0 R S BL bw hw10 hpb
  have R := Lib.hid R1.out
  have S := Lib.hid S1.out
  have BL := Lib.hid BL1.out
  clear R1 S1 BL1
  have p0 := PB.out.cell 0
  simp at p0
  have p1 := PB.out.cell 1
  simp at p1
  have p2 := PB.out.cell 2
  simp at p2
  have p3 := PB.out.cell 3
  simp at p3
  go_wp2_with fail
  refine (next_any S.out (Nat.le_refl _) 2 (by omega) (by have := HYthdmdlnndbjcoaa.out; have := HLL.out; rw [List.length_drop]; omega)).mono ?_
  rintro e w11 ⟨rfl, ⟨A11, e11, hs⟩, hb⟩
  rw [show Wi.getL ((l.drop 7).take 2) = VR from HVR.out.symm]
  rw [List.drop_drop] at hs
  have R1 := Lib.hid (R.out.but hb (by omega))
  have BL1 := Lib.hid (BL.out.trans (hb.below (fun q hq h => by omega) BL.out.size))
  have hsz := hb.size
  have S1 := Lib.hid (show Src w11 w.heap.size w.heap.size (l.drop 9) A11 e11 from hs)
  have P1 := Lib.hid (PB.out.but hb HP.out)
  have cc := R1.out.cell 6
  simp [rA] at cc
  have fz := blk_frozen R1.out 6
  clear R BL S hs hb PB p0 p1 p2 p3
  go_upto_region 12 with fail
  obtain ⟨w12, hw12⟩ : ∃ v, v = w11.setCell ⟨w.heap.size + 1, 6, none⟩ (.int .u64 (VR : Int)) := ⟨_, rfl⟩
  have hbs : But (fun q => q = w.heap.size + 1) w11 w12 := by rw [hw12]; exact (But.refl (S := fun q => q = w.heap.size + 1) w11).setCell (.inl rfl) _
  have R := Lib.hid (show Blk w12 (w.heap.size + 1) (rA V0 V1 V3 0 0 0 VR 0 0 0 (.slice none 0 0)) 44 from by rw [hw12]; exact heap_setCell_same _ _ _ _ _ _ R1.out)
  have S := Lib.hid (show Src w12 w.heap.size w.heap.size _ _ _ from by rw [hw12]; exact src_set S1.out (by omega) (by omega))
  have BL := Lib.hid (BL1.out.trans (hbs.below (fun q hq h => by omega) BL1.out.size))
  have PB := Lib.hid (P1.out.but hbs HP2.out)
  rw [← hw12]
  clear R1 S1 BL1 cc fz hbs hw12 hsz P1
  have p0 := PB.out.cell 0
  simp at p0
  have p1 := PB.out.cell 1
  simp at p1
  have p2 := PB.out.cell 2
  simp at p2
  have p3 := PB.out.cell 3
  simp at p3
  go_upto_region 18 with fail
  obtain ⟨cs, hcs⟩ : ∃ cs, cs = (rA V0 V1 V3 0 0 0 VR 0 0 0 (.slice none 0 0)) := ⟨_, rfl⟩
  have HCS := Lib.hid (show Value.agg cs = Value.agg (clA y none 0) from by rw [hcs, HEQ.out]; unfold clA; simp only; rfl)
  have HIC := Lib.hid (show (Try.prog.info? 44).map (·.size) = some cs.size from by rw [hcs]; kernel_rfl)
  have HON := Lib.hid (show ∀ u ∈ cs.toList, u.oneCell' = true from by rw [hcs]; simp [rA, Value.oneCell'])
  have HON2 := Lib.hid (show cs.all (·.oneCell') = true from by rw [hcs]; simp [rA, Value.oneCell'])
  have R2 := Lib.hid (show Blk _ (w.heap.size + 1) cs 44 from by rw [hcs]; exact R.out)
  clear R hcs
  go_wp2_with (first
    | (refine wpList_load_row rfl 44 (.tmp 2) rfl (w.heap.size + 1) rfl 44 cs (0, 0) _ R2.out Try.underlying44 rfl HIC.out ?_)
    | (refine wpList_store_row rfl 44 (.tmp 2) (.tmp 66) rfl (w.heap.size + 1) cs rfl rfl 44 cs R2.out HIC.out rfl HON2.out ?_))
  refine bodyPost_ret (v := .agg cs) (results_cell_row Try.results80 _ _ (w.heap.size + 1) 44 cs (0, 0) _ rfl (setRow_heap _ _ _ _ _ _ R2.out) Try.underlying44 rfl HIC.out) rfl ?_
  refine ⟨none, 0, by rw [HCS.out], ?_, below_setRow BL.out (by omega) _⟩
  have hyb : y.body = [] := by rw [HEQ.out]
  rw [hyb]
  exact World.ownsRow_nil _ _ _ _
end Go.Proofs.Ythdmdlnndbjcoaa.Ce
/-
  What Decode reads: other kinds.
-/
namespace Go.Proofs.Ythdmdlnndbjcoaa.Ce
open Go.RowKit
attribute [local go_sem ↓] Go.wp_at_zero Go.wp_at_succ
set_option maxRecDepth 100000 in
set_option maxHeartbeats 12800000 in
theorem read_wn {B : Nat} (k : Int) (hk : k = 2 ∨ k = 4) (A : Option Addr) (n c : Nat) (l : List UInt8) (w : World) (hn : l.length = n) (hcap : n ≤ c ∧ c ≤ maxLen) (hr : Rd B w A (bv l)) (hB : B ≤ w.heap.size) (h0 : ((l.getD 0 0).toNat : Int) = k) (hl : 13 ≤ n) (hm : n ≤ 1000000) :
    Calls Try.prog 80 #[.slice A n c] w (RetCl (readCl k l) w) := by
  obtain ⟨V0, hV0⟩ : ∃ V, V = Wi.getL (part l 0 1) := ⟨_, rfl⟩
  have bV0 : V0 < 256 := by rw [hV0]; exact part_lt 0 1
  have wV0 : IntKind.i64.wrap (V0 : Int) = (V0 : Int) := IntWalk.i64_in _ (by omega)
  obtain ⟨V1, hV1⟩ : ∃ V, V = Wi.getL (part l 1 2) := ⟨_, rfl⟩
  have bV1 : V1 < 65536 := by rw [hV1]; exact part_lt 1 2
  obtain ⟨V3, hV3⟩ : ∃ V, V = Wi.getL (part l 3 4) := ⟨_, rfl⟩
  have bV3 : V3 < 4294967296 := by rw [hV3]; exact part_lt 3 4
  have wV3 : IntKind.i64.wrap (V3 : Int) = (V3 : Int) := IntWalk.i64_in _ (by omega)
  obtain ⟨V7, hV7⟩ : ∃ V, V = Wi.getL (part l 7 1) := ⟨_, rfl⟩
  have bV7 : V7 < 256 := by rw [hV7]; exact part_lt 7 1
  have wV7 : IntKind.i64.wrap (V7 : Int) = (V7 : Int) := IntWalk.i64_in _ (by omega)
  obtain ⟨V8, hV8⟩ : ∃ V, V = Wi.getL (part l 8 1) := ⟨_, rfl⟩
  have bV8 : V8 < 256 := by rw [hV8]; exact part_lt 8 1
  have wV8 : IntKind.i64.wrap (V8 : Int) = (V8 : Int) := IntWalk.i64_in _ (by omega)
  obtain ⟨V9, hV9⟩ : ∃ V, V = Wi.getL (part l 9 2) := ⟨_, rfl⟩
  have bV9 : V9 < 65536 := by rw [hV9]; exact part_lt 9 2
  have wV9 : IntKind.i64.wrap (V9 : Int) = (V9 : Int) := IntWalk.i64_in _ (by omega)
  obtain ⟨VR, hVR⟩ : ∃ V, V = Wi.getL (part l 11 2) := ⟨_, rfl⟩
  have bVR : VR < 65536 := by rw [hVR]; exact part_lt 11 2
  have hV0k : (V0 : Int) = k := by
    obtain ⟨x, t, rfl, _⟩ := cons_of (n := 0) (l := l) (by omega)
    rw [hV0, ← h0]
    simp [part, Wi.getL]
  have HE : readCl k l = ⟨k, V1, V3, V7, V8, V9, VR, 0, 0, 0, []⟩ := by
    unfold readCl
    rw [show hasP k = true from decide_eq_true (by omega), show hasR k = true from decide_eq_true (by omega), show hasS k = false from decide_eq_false (by omega), show hasB k = false from decide_eq_false (by omega), hV1, hV3, hV7, hV8, hV9, hVR]
    simp
  have HPO := Lib.hid (show ∀ W, Calls Try.prog 49 #[.int .i64 (V0 : Int)] W (RetS (.tuple #[.agg #[.bool true, .bool true, .bool false, .bool false], .bool true]) (W.alloc (.cells #[.bool true, .bool true, .bool false, .bool false] 102))) from fun W => by
    have h := partsOf_any k W
    rw [show hasP k = true from decide_eq_true (by omega), show hasR k = true from decide_eq_true (by omega), show hasS k = false from decide_eq_false (by omega), show hasB k = false from decide_eq_false (by omega), show isKind k = true from decide_eq_true (by omega), ← hV0k] at h
    exact h)
  obtain ⟨y, hy⟩ : ∃ y, y = readCl k l := ⟨_, rfl⟩
  rw [← hy] at HE ⊢
  rw [← hV0k] at HE
  have HEQ := Lib.hid HE
  have HYthdmdlnndbjcoaa := Lib.hid hn
  have HM := Lib.hid hm
  have HLL := Lib.hid hl
  obtain ⟨w2, hw2⟩ : ∃ v, v = (w.alloc (.cells #[.slice A n c] 34)).alloc (.cells (rA 0 0 0 0 0 0 0 0 0 0 (.slice none 0 0)) 44) := ⟨_, rfl⟩
  have BL := Lib.hid (show Below w.heap.size w w2 from by rw [hw2]; exact bel2 _ _ _)
  have S := Lib.hid (show Src w2 w.heap.size w.heap.size l A c from ⟨by rw [hn, hw2]; exact heap_alloc2_old _ _ _, (hr.more hB).below BL.out, by rw [hn]; exact hcap⟩)
  have R := Lib.hid (show Blk w2 (w.heap.size + 1) (rA 0 0 0 0 0 0 0 0 0 0 (.slice none 0 0)) 44 from by rw [hw2]; exact heap_alloc2_new _ _ _)
  have HV0 := Lib.hid hV0
  have HV1 := Lib.hid hV1
  have HV3 := Lib.hid hV3
  have HV7 := Lib.hid hV7
  have HV8 := Lib.hid hV8
  have HV9 := Lib.hid hV9
  have HVR := Lib.hid hVR
  clear hn hcap hr hB h0 hl hm HE hy hk hV0k hV0 hV1 hV3 hV7 hV8 hV9 hVR
  go_enter Try.func80, Try.ntmps80
  go_upto_region 2 with fail
  have e2 : w2 = (w.alloc (.cells #[.slice A n c] 34)).alloc (.cells #[.int .i64 0, .int .u64 0, .int .i64 0, .int .i64 0, .int .i64 0, .int .i64 0, .int .u64 0, .int .i64 0, .int .i64 0, .int .i64 0, .slice none 0 0] 44) := hw2
  rw [← e2]
  clear hw2 e2
  go_wp2_with fail
  refine (next_any S.out (Nat.le_refl _) 1 (by omega) (by have := HYthdmdlnndbjcoaa.out; have := HLL.out; omega)).mono ?_
  rintro e w3 ⟨rfl, ⟨A3, e3, hs⟩, hb⟩
  rw [show Wi.getL ((l).take 1) = V0 from HV0.out.symm]
  
  have R1 := Lib.hid (R.out.but hb (by omega))
  have BL1 := Lib.hid (BL.out.trans (hb.below (fun q hq h => by omega) BL.out.size))
  have hsz := hb.size
  have S1 := Lib.hid (show Src w3 w.heap.size w.heap.size (l.drop 1) A3 e3 from hs)
  
  have cc := R1.out.cell 0
  simp [rA] at cc
  have fz := blk_frozen R1.out 0
  clear R BL S hs hb 
  go_upto_region 3 with fail
  obtain ⟨w4, hw4⟩ : ∃ v, v = w3.setCell ⟨w.heap.size + 1, 0, none⟩ (.int .i64 (V0 : Int)) := ⟨_, rfl⟩
  have hbs : But (fun q => q = w.heap.size + 1) w3 w4 := by rw [hw4]; exact (But.refl (S := fun q => q = w.heap.size + 1) w3).setCell (.inl rfl) _
  have R := Lib.hid (show Blk w4 (w.heap.size + 1) (rA V0 0 0 0 0 0 0 0 0 0 (.slice none 0 0)) 44 from by rw [hw4]; exact heap_setCell_same _ _ _ _ _ _ R1.out)
  have S := Lib.hid (show Src w4 w.heap.size w.heap.size _ _ _ from by rw [hw4]; exact src_set S1.out (by omega) (by omega))
  have BL := Lib.hid (BL1.out.trans (hbs.below (fun q hq h => by omega) BL1.out.size))
  
  rw [← hw4]
  clear R1 S1 BL1 cc fz hbs hw4 hsz 
  go_wp2_with fail
  refine (next_any S.out (Nat.le_refl _) 2 (by omega) (by have := HYthdmdlnndbjcoaa.out; have := HLL.out; rw [List.length_drop]; omega)).mono ?_
  rintro e w5 ⟨rfl, ⟨A5, e5, hs⟩, hb⟩
  rw [show Wi.getL ((l.drop 1).take 2) = V1 from HV1.out.symm]
  rw [List.drop_drop] at hs
  have R1 := Lib.hid (R.out.but hb (by omega))
  have BL1 := Lib.hid (BL.out.trans (hb.below (fun q hq h => by omega) BL.out.size))
  have hsz := hb.size
  have S1 := Lib.hid (show Src w5 w.heap.size w.heap.size (l.drop 3) A5 e5 from hs)
  
  have cc := R1.out.cell 1
  simp [rA] at cc
  have fz := blk_frozen R1.out 1
  clear R BL S hs hb 
  go_upto_region 4 with fail
  obtain ⟨w6, hw6⟩ : ∃ v, v = w5.setCell ⟨w.heap.size + 1, 1, none⟩ (.int .u64 (V1 : Int)) := ⟨_, rfl⟩
  have hbs : But (fun q => q = w.heap.size + 1) w5 w6 := by rw [hw6]; exact (But.refl (S := fun q => q = w.heap.size + 1) w5).setCell (.inl rfl) _
  have R := Lib.hid (show Blk w6 (w.heap.size + 1) (rA V0 V1 0 0 0 0 0 0 0 0 (.slice none 0 0)) 44 from by rw [hw6]; exact heap_setCell_same _ _ _ _ _ _ R1.out)
  have S := Lib.hid (show Src w6 w.heap.size w.heap.size _ _ _ from by rw [hw6]; exact src_set S1.out (by omega) (by omega))
  have BL := Lib.hid (BL1.out.trans (hbs.below (fun q hq h => by omega) BL1.out.size))
  
  rw [← hw6]
  clear R1 S1 BL1 cc fz hbs hw6 hsz 
  go_wp2_with fail
  refine (next_any S.out (Nat.le_refl _) 4 (by omega) (by have := HYthdmdlnndbjcoaa.out; have := HLL.out; rw [List.length_drop]; omega)).mono ?_
  rintro e w7 ⟨rfl, ⟨A7, e7, hs⟩, hb⟩
  rw [show Wi.getL ((l.drop 3).take 4) = V3 from HV3.out.symm]
  rw [List.drop_drop] at hs
  have R1 := Lib.hid (R.out.but hb (by omega))
  have BL1 := Lib.hid (BL.out.trans (hb.below (fun q hq h => by omega) BL.out.size))
  have hsz := hb.size
  have S1 := Lib.hid (show Src w7 w.heap.size w.heap.size (l.drop 7) A7 e7 from hs)
  
  have cc := R1.out.cell 2
  simp [rA] at cc
  have fz := blk_frozen R1.out 2
  clear R BL S hs hb 
  go_upto_region 5 with fail
  obtain ⟨w8, hw8⟩ : ∃ v, v = w7.setCell ⟨w.heap.size + 1, 2, none⟩ (.int .i64 (V3 : Int)) := ⟨_, rfl⟩
  have hbs : But (fun q => q = w.heap.size + 1) w7 w8 := by rw [hw8]; exact (But.refl (S := fun q => q = w.heap.size + 1) w7).setCell (.inl rfl) _
  have R := Lib.hid (show Blk w8 (w.heap.size + 1) (rA V0 V1 V3 0 0 0 0 0 0 0 (.slice none 0 0)) 44 from by rw [hw8]; exact heap_setCell_same _ _ _ _ _ _ R1.out)
  have S := Lib.hid (show Src w8 w.heap.size w.heap.size _ _ _ from by rw [hw8]; exact src_set S1.out (by omega) (by omega))
  have BL := Lib.hid (BL1.out.trans (hbs.below (fun q hq h => by omega) BL1.out.size))
  
  rw [← hw8]
  clear R1 S1 BL1 cc fz hbs hw8 hsz 
  have c0 := R.out.cell 0
  simp [rA] at c0
  go_wp2_with fail
  refine (HPO.out _).mono ?_
  rintro e w9 ⟨rfl, rfl⟩
  go_upto_region 6 with fail
  obtain ⟨w10, hw10⟩ : ∃ v, v = (w8.alloc (.cells #[.bool true, .bool true, .bool false, .bool false] 102)).alloc (.cells #[.bool true, .bool true, .bool false, .bool false] 102) := ⟨_, rfl⟩
  rw [← hw10]
  have bw : Below w8.heap.size w8 w10 := by rw [hw10]; exact bel2 _ _ _
  have R1 := Lib.hid (Blk.below R.out bw)
  have S1 := Lib.hid (src_below S.out bw BL.out.size)
  have BL1 := Lib.hid (BL.out.trans (bw.mono BL.out.size))
  obtain ⟨pb, hpb⟩ : ∃ pb, pb = w8.heap.size + 1 := ⟨_, rfl⟩
  rw [← hpb]
  have PB := Lib.hid (show Blk w10 pb #[.bool true, .bool true, .bool false, .bool false] 102 from by rw [hw10, hpb]; exact heap_alloc2_new _ _ _)
  have HP := Lib.hid (show pb ≠ w.heap.size from by have := BL.out.size; omega)
  have HP2 := Lib.hid (show pb ≠ w.heap.size + 1 from by have := R.out.lt; omega)
  clear c0 R S BL bw hw10 hpb
  have R := Lib.hid R1.out
  have S := Lib.hid S1.out
  have BL := Lib.hid BL1.out
  clear R1 S1 BL1
  have p0 := PB.out.cell 0
  simp at p0
  have p1 := PB.out.cell 1
  simp at p1
  have p2 := PB.out.cell 2
  simp at p2
  have p3 := PB.out.cell 3
  simp at p3
  go_wp2_with fail
  refine (next_any S.out (Nat.le_refl _) 1 (by omega) (by have := HYthdmdlnndbjcoaa.out; have := HLL.out; rw [List.length_drop]; omega)).mono ?_
  rintro e w11 ⟨rfl, ⟨A11, e11, hs⟩, hb⟩
  rw [show Wi.getL ((l.drop 7).take 1) = V7 from HV7.out.symm]
  rw [List.drop_drop] at hs
  have R1 := Lib.hid (R.out.but hb (by omega))
  have BL1 := Lib.hid (BL.out.trans (hb.below (fun q hq h => by omega) BL.out.size))
  have hsz := hb.size
  have S1 := Lib.hid (show Src w11 w.heap.size w.heap.size (l.drop 8) A11 e11 from hs)
  have P1 := Lib.hid (PB.out.but hb HP.out)
  have cc := R1.out.cell 3
  simp [rA] at cc
  have fz := blk_frozen R1.out 3
  clear R BL S hs hb PB p0 p1 p2 p3
  go_upto_region 8 with fail
  obtain ⟨w12, hw12⟩ : ∃ v, v = w11.setCell ⟨w.heap.size + 1, 3, none⟩ (.int .i64 (V7 : Int)) := ⟨_, rfl⟩
  have hbs : But (fun q => q = w.heap.size + 1) w11 w12 := by rw [hw12]; exact (But.refl (S := fun q => q = w.heap.size + 1) w11).setCell (.inl rfl) _
  have R := Lib.hid (show Blk w12 (w.heap.size + 1) (rA V0 V1 V3 V7 0 0 0 0 0 0 (.slice none 0 0)) 44 from by rw [hw12]; exact heap_setCell_same _ _ _ _ _ _ R1.out)
  have S := Lib.hid (show Src w12 w.heap.size w.heap.size _ _ _ from by rw [hw12]; exact src_set S1.out (by omega) (by omega))
  have BL := Lib.hid (BL1.out.trans (hbs.below (fun q hq h => by omega) BL1.out.size))
  have PB := Lib.hid (P1.out.but hbs HP2.out)
  rw [← hw12]
  clear R1 S1 BL1 cc fz hbs hw12 hsz P1
  have p0 := PB.out.cell 0
  simp at p0
  have p1 := PB.out.cell 1
  simp at p1
  have p2 := PB.out.cell 2
  simp at p2
  have p3 := PB.out.cell 3
  simp at p3
  go_wp2_with fail
  refine (next_any S.out (Nat.le_refl _) 1 (by omega) (by have := HYthdmdlnndbjcoaa.out; have := HLL.out; rw [List.length_drop]; omega)).mono ?_
  rintro e w13 ⟨rfl, ⟨A13, e13, hs⟩, hb⟩
  rw [show Wi.getL ((l.drop 8).take 1) = V8 from HV8.out.symm]
  rw [List.drop_drop] at hs
  have R1 := Lib.hid (R.out.but hb (by omega))
  have BL1 := Lib.hid (BL.out.trans (hb.below (fun q hq h => by omega) BL.out.size))
  have hsz := hb.size
  have S1 := Lib.hid (show Src w13 w.heap.size w.heap.size (l.drop 9) A13 e13 from hs)
  have P1 := Lib.hid (PB.out.but hb HP.out)
  have cc := R1.out.cell 4
  simp [rA] at cc
  have fz := blk_frozen R1.out 4
  clear R BL S hs hb PB p0 p1 p2 p3
  go_upto_region 9 with fail
  obtain ⟨w14, hw14⟩ : ∃ v, v = w13.setCell ⟨w.heap.size + 1, 4, none⟩ (.int .i64 (V8 : Int)) := ⟨_, rfl⟩
  have hbs : But (fun q => q = w.heap.size + 1) w13 w14 := by rw [hw14]; exact (But.refl (S := fun q => q = w.heap.size + 1) w13).setCell (.inl rfl) _
  have R := Lib.hid (show Blk w14 (w.heap.size + 1) (rA V0 V1 V3 V7 V8 0 0 0 0 0 (.slice none 0 0)) 44 from by rw [hw14]; exact heap_setCell_same _ _ _ _ _ _ R1.out)
  have S := Lib.hid (show Src w14 w.heap.size w.heap.size _ _ _ from by rw [hw14]; exact src_set S1.out (by omega) (by omega))
  have BL := Lib.hid (BL1.out.trans (hbs.below (fun q hq h => by omega) BL1.out.size))
  have PB := Lib.hid (P1.out.but hbs HP2.out)
  rw [← hw14]
  clear R1 S1 BL1 cc fz hbs hw14 hsz P1
  have p0 := PB.out.cell 0
  simp at p0
  have p1 := PB.out.cell 1
  simp at p1
  have p2 := PB.out.cell 2
  simp at p2
  have p3 := PB.out.cell 3
  simp at p3
  go_wp2_with fail
  refine (next_any S.out (Nat.le_refl _) 2 (by omega) (by have := HYthdmdlnndbjcoaa.out; have := HLL.out; rw [List.length_drop]; omega)).mono ?_
  rintro e w15 ⟨rfl, ⟨A15, e15, hs⟩, hb⟩
  rw [show Wi.getL ((l.drop 9).take 2) = V9 from HV9.out.symm]
  rw [List.drop_drop] at hs
  have R1 := Lib.hid (R.out.but hb (by omega))
  have BL1 := Lib.hid (BL.out.trans (hb.below (fun q hq h => by omega) BL.out.size))
  have hsz := hb.size
  have S1 := Lib.hid (show Src w15 w.heap.size w.heap.size (l.drop 11) A15 e15 from hs)
  have P1 := Lib.hid (PB.out.but hb HP.out)
  have cc := R1.out.cell 5
  simp [rA] at cc
  have fz := blk_frozen R1.out 5
  clear R BL S hs hb PB p0 p1 p2 p3
  go_upto_region 10 with fail
  obtain ⟨w16, hw16⟩ : ∃ v, v = w15.setCell ⟨w.heap.size + 1, 5, none⟩ (.int .i64 (V9 : Int)) := ⟨_, rfl⟩
  have hbs : But (fun q => q = w.heap.size + 1) w15 w16 := by rw [hw16]; exact (But.refl (S := fun q => q = w.heap.size + 1) w15).setCell (.inl rfl) _
  have R := Lib.hid (show Blk w16 (w.heap.size + 1) (rA V0 V1 V3 V7 V8 V9 0 0 0 0 (.slice none 0 0)) 44 from by rw [hw16]; exact heap_setCell_same _ _ _ _ _ _ R1.out)
  have S := Lib.hid (show Src w16 w.heap.size w.heap.size _ _ _ from by rw [hw16]; exact src_set S1.out (by omega) (by omega))
  have BL := Lib.hid (BL1.out.trans (hbs.below (fun q hq h => by omega) BL1.out.size))
  have PB := Lib.hid (P1.out.but hbs HP2.out)
  rw [← hw16]
  clear R1 S1 BL1 cc fz hbs hw16 hsz P1
  have p0 := PB.out.cell 0
  simp at p0
  have p1 := PB.out.cell 1
  simp at p1
  have p2 := PB.out.cell 2
  simp at p2
  have p3 := PB.out.cell 3
  simp at p3
  go_wp2_with fail
  refine (next_any S.out (Nat.le_refl _) 2 (by omega) (by have := HYthdmdlnndbjcoaa.out; have := HLL.out; rw [List.length_drop]; omega)).mono ?_
  rintro e w17 ⟨rfl, ⟨A17, e17, hs⟩, hb⟩
  rw [show Wi.getL ((l.drop 11).take 2) = VR from HVR.out.symm]
  rw [List.drop_drop] at hs
  have R1 := Lib.hid (R.out.but hb (by omega))
  have BL1 := Lib.hid (BL.out.trans (hb.below (fun q hq h => by omega) BL.out.size))
  have hsz := hb.size
  have S1 := Lib.hid (show Src w17 w.heap.size w.heap.size (l.drop 13) A17 e17 from hs)
  have P1 := Lib.hid (PB.out.but hb HP.out)
  have cc := R1.out.cell 6
  simp [rA] at cc
  have fz := blk_frozen R1.out 6
  clear R BL S hs hb PB p0 p1 p2 p3
  go_upto_region 12 with fail
  obtain ⟨w18, hw18⟩ : ∃ v, v = w17.setCell ⟨w.heap.size + 1, 6, none⟩ (.int .u64 (VR : Int)) := ⟨_, rfl⟩
  have hbs : But (fun q => q = w.heap.size + 1) w17 w18 := by rw [hw18]; exact (But.refl (S := fun q => q = w.heap.size + 1) w17).setCell (.inl rfl) _
  have R := Lib.hid (show Blk w18 (w.heap.size + 1) (rA V0 V1 V3 V7 V8 V9 VR 0 0 0 (.slice none 0 0)) 44 from by rw [hw18]; exact heap_setCell_same _ _ _ _ _ _ R1.out)
  have S := Lib.hid (show Src w18 w.heap.size w.heap.size _ _ _ from by rw [hw18]; exact src_set S1.out (by omega) (by omega))
  have BL := Lib.hid (BL1.out.trans (hbs.below (fun q hq h => by omega) BL1.out.size))
  have PB := Lib.hid (P1.out.but hbs HP2.out)
  rw [← hw18]
  clear R1 S1 BL1 cc fz hbs hw18 hsz P1
  have p0 := PB.out.cell 0
  simp at p0
  have p1 := PB.out.cell 1
  simp at p1
  have p2 := PB.out.cell 2
  simp at p2
  have p3 := PB.out.cell 3
  simp at p3
  go_upto_region 18 with fail
  obtain ⟨cs, hcs⟩ : ∃ cs, cs = (rA V0 V1 V3 V7 V8 V9 VR 0 0 0 (.slice none 0 0)) := ⟨_, rfl⟩
  have HCS := Lib.hid (show Value.agg cs = Value.agg (clA y none 0) from by rw [hcs, HEQ.out]; unfold clA; simp only; rfl)
  have HIC := Lib.hid (show (Try.prog.info? 44).map (·.size) = some cs.size from by rw [hcs]; kernel_rfl)
  have HON := Lib.hid (show ∀ u ∈ cs.toList, u.oneCell' = true from by rw [hcs]; simp [rA, Value.oneCell'])
  have HON2 := Lib.hid (show cs.all (·.oneCell') = true from by rw [hcs]; simp [rA, Value.oneCell'])
  have R2 := Lib.hid (show Blk _ (w.heap.size + 1) cs 44 from by rw [hcs]; exact R.out)
  clear R hcs
  go_wp2_with (first
    | (refine wpList_load_row rfl 44 (.tmp 2) rfl (w.heap.size + 1) rfl 44 cs (0, 0) _ R2.out Try.underlying44 rfl HIC.out ?_)
    | (refine wpList_store_row rfl 44 (.tmp 2) (.tmp 66) rfl (w.heap.size + 1) cs rfl rfl 44 cs R2.out HIC.out rfl HON2.out ?_))
  refine bodyPost_ret (v := .agg cs) (results_cell_row Try.results80 _ _ (w.heap.size + 1) 44 cs (0, 0) _ rfl (setRow_heap _ _ _ _ _ _ R2.out) Try.underlying44 rfl HIC.out) rfl ?_
  refine ⟨none, 0, by rw [HCS.out], ?_, below_setRow BL.out (by omega) _⟩
  have hyb : y.body = [] := by rw [HEQ.out]
  rw [hyb]
  exact World.ownsRow_nil _ _ _ _
set_option maxRecDepth 100000 in
set_option maxHeartbeats 12800000 in
theorem read_wb {B : Nat} (k : Int) (hk : k = 1 ∨ k = 3) (A : Option Addr) (n c : Nat) (l : List UInt8) (w : World) (hn : l.length = n) (hcap : n ≤ c ∧ c ≤ maxLen) (hr : Rd B w A (bv l)) (hB : B ≤ w.heap.size) (h0 : ((l.getD 0 0).toNat : Int) = k) (hl : 14 ≤ n) (hm : n ≤ 1000000) :
    Calls Try.prog 80 #[.slice A n c] w (RetCl (readCl k l) w) := by
  obtain ⟨V0, hV0⟩ : ∃ V, V = Wi.getL (part l 0 1) := ⟨_, rfl⟩
  have bV0 : V0 < 256 := by rw [hV0]; exact part_lt 0 1
  have wV0 : IntKind.i64.wrap (V0 : Int) = (V0 : Int) := IntWalk.i64_in _ (by omega)
  obtain ⟨V1, hV1⟩ : ∃ V, V = Wi.getL (part l 1 2) := ⟨_, rfl⟩
  have bV1 : V1 < 65536 := by rw [hV1]; exact part_lt 1 2
  obtain ⟨V3, hV3⟩ : ∃ V, V = Wi.getL (part l 3 4) := ⟨_, rfl⟩
  have bV3 : V3 < 4294967296 := by rw [hV3]; exact part_lt 3 4
  have wV3 : IntKind.i64.wrap (V3 : Int) = (V3 : Int) := IntWalk.i64_in _ (by omega)
  obtain ⟨V7, hV7⟩ : ∃ V, V = Wi.getL (part l 7 1) := ⟨_, rfl⟩
  have bV7 : V7 < 256 := by rw [hV7]; exact part_lt 7 1
  have wV7 : IntKind.i64.wrap (V7 : Int) = (V7 : Int) := IntWalk.i64_in _ (by omega)
  obtain ⟨V8, hV8⟩ : ∃ V, V = Wi.getL (part l 8 1) := ⟨_, rfl⟩
  have bV8 : V8 < 256 := by rw [hV8]; exact part_lt 8 1
  have wV8 : IntKind.i64.wrap (V8 : Int) = (V8 : Int) := IntWalk.i64_in _ (by omega)
  obtain ⟨V9, hV9⟩ : ∃ V, V = Wi.getL (part l 9 2) := ⟨_, rfl⟩
  have bV9 : V9 < 65536 := by rw [hV9]; exact part_lt 9 2
  have wV9 : IntKind.i64.wrap (V9 : Int) = (V9 : Int) := IntWalk.i64_in _ (by omega)
  obtain ⟨VR, hVR⟩ : ∃ V, V = Wi.getL (part l 11 2) := ⟨_, rfl⟩
  have bVR : VR < 65536 := by rw [hVR]; exact part_lt 11 2
  have hV0k : (V0 : Int) = k := by
    obtain ⟨x, t, rfl, _⟩ := cons_of (n := 0) (l := l) (by omega)
    rw [hV0, ← h0]
    simp [part, Wi.getL]
  have HE : readCl k l = ⟨k, V1, V3, V7, V8, V9, VR, 0, 0, 0, l.drop 14⟩ := by
    unfold readCl
    rw [show hasP k = true from decide_eq_true (by omega), show hasR k = true from decide_eq_true (by omega), show hasS k = false from decide_eq_false (by omega), show hasB k = true from decide_eq_true (by omega), hV1, hV3, hV7, hV8, hV9, hVR]
    simp
  have HPO := Lib.hid (show ∀ W, Calls Try.prog 49 #[.int .i64 (V0 : Int)] W (RetS (.tuple #[.agg #[.bool true, .bool true, .bool false, .bool true], .bool true]) (W.alloc (.cells #[.bool true, .bool true, .bool false, .bool true] 102))) from fun W => by
    have h := partsOf_any k W
    rw [show hasP k = true from decide_eq_true (by omega), show hasR k = true from decide_eq_true (by omega), show hasS k = false from decide_eq_false (by omega), show hasB k = true from decide_eq_true (by omega), show isKind k = true from decide_eq_true (by omega), ← hV0k] at h
    exact h)
  obtain ⟨y, hy⟩ : ∃ y, y = readCl k l := ⟨_, rfl⟩
  rw [← hy] at HE ⊢
  rw [← hV0k] at HE
  have HEQ := Lib.hid HE
  have HYthdmdlnndbjcoaa := Lib.hid hn
  have HM := Lib.hid hm
  have HLL := Lib.hid hl
  obtain ⟨w2, hw2⟩ : ∃ v, v = (w.alloc (.cells #[.slice A n c] 34)).alloc (.cells (rA 0 0 0 0 0 0 0 0 0 0 (.slice none 0 0)) 44) := ⟨_, rfl⟩
  have BL := Lib.hid (show Below w.heap.size w w2 from by rw [hw2]; exact bel2 _ _ _)
  have S := Lib.hid (show Src w2 w.heap.size w.heap.size l A c from ⟨by rw [hn, hw2]; exact heap_alloc2_old _ _ _, (hr.more hB).below BL.out, by rw [hn]; exact hcap⟩)
  have R := Lib.hid (show Blk w2 (w.heap.size + 1) (rA 0 0 0 0 0 0 0 0 0 0 (.slice none 0 0)) 44 from by rw [hw2]; exact heap_alloc2_new _ _ _)
  have HV0 := Lib.hid hV0
  have HV1 := Lib.hid hV1
  have HV3 := Lib.hid hV3
  have HV7 := Lib.hid hV7
  have HV8 := Lib.hid hV8
  have HV9 := Lib.hid hV9
  have HVR := Lib.hid hVR
  clear hn hcap hr hB h0 hl hm HE hy hk hV0k hV0 hV1 hV3 hV7 hV8 hV9 hVR
  go_enter Try.func80, Try.ntmps80
  go_upto_region 2 with fail
  have e2 : w2 = (w.alloc (.cells #[.slice A n c] 34)).alloc (.cells #[.int .i64 0, .int .u64 0, .int .i64 0, .int .i64 0, .int .i64 0, .int .i64 0, .int .u64 0, .int .i64 0, .int .i64 0, .int .i64 0, .slice none 0 0] 44) := hw2
  rw [← e2]
  clear hw2 e2
  go_wp2_with fail
  refine (next_any S.out (Nat.le_refl _) 1 (by omega) (by have := HYthdmdlnndbjcoaa.out; have := HLL.out; omega)).mono ?_
  rintro e w3 ⟨rfl, ⟨A3, e3, hs⟩, hb⟩
  rw [show Wi.getL ((l).take 1) = V0 from HV0.out.symm]
  
  have R1 := Lib.hid (R.out.but hb (by omega))
  have BL1 := Lib.hid (BL.out.trans (hb.below (fun q hq h => by omega) BL.out.size))
  have hsz := hb.size
  have S1 := Lib.hid (show Src w3 w.heap.size w.heap.size (l.drop 1) A3 e3 from hs)
  
  have cc := R1.out.cell 0
  simp [rA] at cc
  have fz := blk_frozen R1.out 0
  clear R BL S hs hb 
  go_upto_region 3 with fail
  obtain ⟨w4, hw4⟩ : ∃ v, v = w3.setCell ⟨w.heap.size + 1, 0, none⟩ (.int .i64 (V0 : Int)) := ⟨_, rfl⟩
  have hbs : But (fun q => q = w.heap.size + 1) w3 w4 := by rw [hw4]; exact (But.refl (S := fun q => q = w.heap.size + 1) w3).setCell (.inl rfl) _
  have R := Lib.hid (show Blk w4 (w.heap.size + 1) (rA V0 0 0 0 0 0 0 0 0 0 (.slice none 0 0)) 44 from by rw [hw4]; exact heap_setCell_same _ _ _ _ _ _ R1.out)
  have S := Lib.hid (show Src w4 w.heap.size w.heap.size _ _ _ from by rw [hw4]; exact src_set S1.out (by omega) (by omega))
  have BL := Lib.hid (BL1.out.trans (hbs.below (fun q hq h => by omega) BL1.out.size))
  
  rw [← hw4]
  clear R1 S1 BL1 cc fz hbs hw4 hsz 
  go_wp2_with fail
  refine (next_any S.out (Nat.le_refl _) 2 (by omega) (by have := HYthdmdlnndbjcoaa.out; have := HLL.out; rw [List.length_drop]; omega)).mono ?_
  rintro e w5 ⟨rfl, ⟨A5, e5, hs⟩, hb⟩
  rw [show Wi.getL ((l.drop 1).take 2) = V1 from HV1.out.symm]
  rw [List.drop_drop] at hs
  have R1 := Lib.hid (R.out.but hb (by omega))
  have BL1 := Lib.hid (BL.out.trans (hb.below (fun q hq h => by omega) BL.out.size))
  have hsz := hb.size
  have S1 := Lib.hid (show Src w5 w.heap.size w.heap.size (l.drop 3) A5 e5 from hs)
  
  have cc := R1.out.cell 1
  simp [rA] at cc
  have fz := blk_frozen R1.out 1
  clear R BL S hs hb 
  go_upto_region 4 with fail
  obtain ⟨w6, hw6⟩ : ∃ v, v = w5.setCell ⟨w.heap.size + 1, 1, none⟩ (.int .u64 (V1 : Int)) := ⟨_, rfl⟩
  have hbs : But (fun q => q = w.heap.size + 1) w5 w6 := by rw [hw6]; exact (But.refl (S := fun q => q = w.heap.size + 1) w5).setCell (.inl rfl) _
  have R := Lib.hid (show Blk w6 (w.heap.size + 1) (rA V0 V1 0 0 0 0 0 0 0 0 (.slice none 0 0)) 44 from by rw [hw6]; exact heap_setCell_same _ _ _ _ _ _ R1.out)
  have S := Lib.hid (show Src w6 w.heap.size w.heap.size _ _ _ from by rw [hw6]; exact src_set S1.out (by omega) (by omega))
  have BL := Lib.hid (BL1.out.trans (hbs.below (fun q hq h => by omega) BL1.out.size))
  
  rw [← hw6]
  clear R1 S1 BL1 cc fz hbs hw6 hsz 
  go_wp2_with fail
  refine (next_any S.out (Nat.le_refl _) 4 (by omega) (by have := HYthdmdlnndbjcoaa.out; have := HLL.out; rw [List.length_drop]; omega)).mono ?_
  rintro e w7 ⟨rfl, ⟨A7, e7, hs⟩, hb⟩
  rw [show Wi.getL ((l.drop 3).take 4) = V3 from HV3.out.symm]
  rw [List.drop_drop] at hs
  have R1 := Lib.hid (R.out.but hb (by omega))
  have BL1 := Lib.hid (BL.out.trans (hb.below (fun q hq h => by omega) BL.out.size))
  have hsz := hb.size
  have S1 := Lib.hid (show Src w7 w.heap.size w.heap.size (l.drop 7) A7 e7 from hs)
  
  have cc := R1.out.cell 2
  simp [rA] at cc
  have fz := blk_frozen R1.out 2
  clear R BL S hs hb 
  go_upto_region 5 with fail
  obtain ⟨w8, hw8⟩ : ∃ v, v = w7.setCell ⟨w.heap.size + 1, 2, none⟩ (.int .i64 (V3 : Int)) := ⟨_, rfl⟩
  have hbs : But (fun q => q = w.heap.size + 1) w7 w8 := by rw [hw8]; exact (But.refl (S := fun q => q = w.heap.size + 1) w7).setCell (.inl rfl) _
  have R := Lib.hid (show Blk w8 (w.heap.size + 1) (rA V0 V1 V3 0 0 0 0 0 0 0 (.slice none 0 0)) 44 from by rw [hw8]; exact heap_setCell_same _ _ _ _ _ _ R1.out)
  have S := Lib.hid (show Src w8 w.heap.size w.heap.size _ _ _ from by rw [hw8]; exact src_set S1.out (by omega) (by omega))
  have BL := Lib.hid (BL1.out.trans (hbs.below (fun q hq h => by omega) BL1.out.size))
  
  rw [← hw8]
  clear R1 S1 BL1 cc fz hbs hw8 hsz 
  have c0 := R.out.cell 0
  simp [rA] at c0
  go_wp2_with fail
  refine (HPO.out _).mono ?_
  rintro e w9 ⟨rfl, rfl⟩
  go_upto_region 6 with fail
  obtain ⟨w10, hw10⟩ : ∃ v, v = (w8.alloc (.cells #[.bool true, .bool true, .bool false, .bool true] 102)).alloc (.cells #[.bool true, .bool true, .bool false, .bool true] 102) := ⟨_, rfl⟩
  rw [← hw10]
  have bw : Below w8.heap.size w8 w10 := by rw [hw10]; exact bel2 _ _ _
  have R1 := Lib.hid (Blk.below R.out bw)
  have S1 := Lib.hid (src_below S.out bw BL.out.size)
  have BL1 := Lib.hid (BL.out.trans (bw.mono BL.out.size))
  obtain ⟨pb, hpb⟩ : ∃ pb, pb = w8.heap.size + 1 := ⟨_, rfl⟩
  rw [← hpb]
  have PB := Lib.hid (show Blk w10 pb #[.bool true, .bool true, .bool false, .bool true] 102 from by rw [hw10, hpb]; exact heap_alloc2_new _ _ _)
  have HP := Lib.hid (show pb ≠ w.heap.size from by have := BL.out.size; omega)
  have HP2 := Lib.hid (show pb ≠ w.heap.size + 1 from by have := R.out.lt; omega)
  clear c0 R S BL bw hw10 hpb
  have R := Lib.hid R1.out
  have S := Lib.hid S1.out
  have BL := Lib.hid BL1.out
  clear R1 S1 BL1
  have p0 := PB.out.cell 0
  simp at p0
  have p1 := PB.out.cell 1
  simp at p1
  have p2 := PB.out.cell 2
  simp at p2
  have p3 := PB.out.cell 3
  simp at p3
  go_wp2_with fail
  refine (next_any S.out (Nat.le_refl _) 1 (by omega) (by have := HYthdmdlnndbjcoaa.out; have := HLL.out; rw [List.length_drop]; omega)).mono ?_
  rintro e w11 ⟨rfl, ⟨A11, e11, hs⟩, hb⟩
  rw [show Wi.getL ((l.drop 7).take 1) = V7 from HV7.out.symm]
  rw [List.drop_drop] at hs
  have R1 := Lib.hid (R.out.but hb (by omega))
  have BL1 := Lib.hid (BL.out.trans (hb.below (fun q hq h => by omega) BL.out.size))
  have hsz := hb.size
  have S1 := Lib.hid (show Src w11 w.heap.size w.heap.size (l.drop 8) A11 e11 from hs)
  have P1 := Lib.hid (PB.out.but hb HP.out)
  have cc := R1.out.cell 3
  simp [rA] at cc
  have fz := blk_frozen R1.out 3
  clear R BL S hs hb PB p0 p1 p2 p3
  go_upto_region 8 with fail
  obtain ⟨w12, hw12⟩ : ∃ v, v = w11.setCell ⟨w.heap.size + 1, 3, none⟩ (.int .i64 (V7 : Int)) := ⟨_, rfl⟩
  have hbs : But (fun q => q = w.heap.size + 1) w11 w12 := by rw [hw12]; exact (But.refl (S := fun q => q = w.heap.size + 1) w11).setCell (.inl rfl) _
  have R := Lib.hid (show Blk w12 (w.heap.size + 1) (rA V0 V1 V3 V7 0 0 0 0 0 0 (.slice none 0 0)) 44 from by rw [hw12]; exact heap_setCell_same _ _ _ _ _ _ R1.out)
  have S := Lib.hid (show Src w12 w.heap.size w.heap.size _ _ _ from by rw [hw12]; exact src_set S1.out (by omega) (by omega))
  have BL := Lib.hid (BL1.out.trans (hbs.below (fun q hq h => by omega) BL1.out.size))
  have PB := Lib.hid (P1.out.but hbs HP2.out)
  rw [← hw12]
  clear R1 S1 BL1 cc fz hbs hw12 hsz P1
  have p0 := PB.out.cell 0
  simp at p0
  have p1 := PB.out.cell 1
  simp at p1
  have p2 := PB.out.cell 2
  simp at p2
  have p3 := PB.out.cell 3
  simp at p3
  go_wp2_with fail
  refine (next_any S.out (Nat.le_refl _) 1 (by omega) (by have := HYthdmdlnndbjcoaa.out; have := HLL.out; rw [List.length_drop]; omega)).mono ?_
  rintro e w13 ⟨rfl, ⟨A13, e13, hs⟩, hb⟩
  rw [show Wi.getL ((l.drop 8).take 1) = V8 from HV8.out.symm]
  rw [List.drop_drop] at hs
  have R1 := Lib.hid (R.out.but hb (by omega))
  have BL1 := Lib.hid (BL.out.trans (hb.below (fun q hq h => by omega) BL.out.size))
  have hsz := hb.size
  have S1 := Lib.hid (show Src w13 w.heap.size w.heap.size (l.drop 9) A13 e13 from hs)
  have P1 := Lib.hid (PB.out.but hb HP.out)
  have cc := R1.out.cell 4
  simp [rA] at cc
  have fz := blk_frozen R1.out 4
  clear R BL S hs hb PB p0 p1 p2 p3
  go_upto_region 9 with fail
  obtain ⟨w14, hw14⟩ : ∃ v, v = w13.setCell ⟨w.heap.size + 1, 4, none⟩ (.int .i64 (V8 : Int)) := ⟨_, rfl⟩
  have hbs : But (fun q => q = w.heap.size + 1) w13 w14 := by rw [hw14]; exact (But.refl (S := fun q => q = w.heap.size + 1) w13).setCell (.inl rfl) _
  have R := Lib.hid (show Blk w14 (w.heap.size + 1) (rA V0 V1 V3 V7 V8 0 0 0 0 0 (.slice none 0 0)) 44 from by rw [hw14]; exact heap_setCell_same _ _ _ _ _ _ R1.out)
  have S := Lib.hid (show Src w14 w.heap.size w.heap.size _ _ _ from by rw [hw14]; exact src_set S1.out (by omega) (by omega))
  have BL := Lib.hid (BL1.out.trans (hbs.below (fun q hq h => by omega) BL1.out.size))
  have PB := Lib.hid (P1.out.but hbs HP2.out)
  rw [← hw14]
  clear R1 S1 BL1 cc fz hbs hw14 hsz P1
  have p0 := PB.out.cell 0
  simp at p0
  have p1 := PB.out.cell 1
  simp at p1
  have p2 := PB.out.cell 2
  simp at p2
  have p3 := PB.out.cell 3
  simp at p3
  go_wp2_with fail
  refine (next_any S.out (Nat.le_refl _) 2 (by omega) (by have := HYthdmdlnndbjcoaa.out; have := HLL.out; rw [List.length_drop]; omega)).mono ?_
  rintro e w15 ⟨rfl, ⟨A15, e15, hs⟩, hb⟩
  rw [show Wi.getL ((l.drop 9).take 2) = V9 from HV9.out.symm]
  rw [List.drop_drop] at hs
  have R1 := Lib.hid (R.out.but hb (by omega))
  have BL1 := Lib.hid (BL.out.trans (hb.below (fun q hq h => by omega) BL.out.size))
  have hsz := hb.size
  have S1 := Lib.hid (show Src w15 w.heap.size w.heap.size (l.drop 11) A15 e15 from hs)
  have P1 := Lib.hid (PB.out.but hb HP.out)
  have cc := R1.out.cell 5
  simp [rA] at cc
  have fz := blk_frozen R1.out 5
  clear R BL S hs hb PB p0 p1 p2 p3
  go_upto_region 10 with fail
  obtain ⟨w16, hw16⟩ : ∃ v, v = w15.setCell ⟨w.heap.size + 1, 5, none⟩ (.int .i64 (V9 : Int)) := ⟨_, rfl⟩
  have hbs : But (fun q => q = w.heap.size + 1) w15 w16 := by rw [hw16]; exact (But.refl (S := fun q => q = w.heap.size + 1) w15).setCell (.inl rfl) _
  have R := Lib.hid (show Blk w16 (w.heap.size + 1) (rA V0 V1 V3 V7 V8 V9 0 0 0 0 (.slice none 0 0)) 44 from by rw [hw16]; exact heap_setCell_same _ _ _ _ _ _ R1.out)
  have S := Lib.hid (show Src w16 w.heap.size w.heap.size _ _ _ from by rw [hw16]; exact src_set S1.out (by omega) (by omega))
  have BL := Lib.hid (BL1.out.trans (hbs.below (fun q hq h => by omega) BL1.out.size))
  have PB := Lib.hid (P1.out.but hbs HP2.out)
  rw [← hw16]
  clear R1 S1 BL1 cc fz hbs hw16 hsz P1
  have p0 := PB.out.cell 0
  simp at p0
  have p1 := PB.out.cell 1
  simp at p1
  have p2 := PB.out.cell 2
  simp at p2
  have p3 := PB.out.cell 3
  simp at p3
  go_wp2_with fail
  refine (next_any S.out (Nat.le_refl _) 2 (by omega) (by have := HYthdmdlnndbjcoaa.out; have := HLL.out; rw [List.length_drop]; omega)).mono ?_
  rintro e w17 ⟨rfl, ⟨A17, e17, hs⟩, hb⟩
  rw [show Wi.getL ((l.drop 11).take 2) = VR from HVR.out.symm]
  rw [List.drop_drop] at hs
  have R1 := Lib.hid (R.out.but hb (by omega))
  have BL1 := Lib.hid (BL.out.trans (hb.below (fun q hq h => by omega) BL.out.size))
  have hsz := hb.size
  have S1 := Lib.hid (show Src w17 w.heap.size w.heap.size (l.drop 13) A17 e17 from hs)
  have P1 := Lib.hid (PB.out.but hb HP.out)
  have cc := R1.out.cell 6
  simp [rA] at cc
  have fz := blk_frozen R1.out 6
  clear R BL S hs hb PB p0 p1 p2 p3
  go_upto_region 12 with fail
  obtain ⟨w18, hw18⟩ : ∃ v, v = w17.setCell ⟨w.heap.size + 1, 6, none⟩ (.int .u64 (VR : Int)) := ⟨_, rfl⟩
  have hbs : But (fun q => q = w.heap.size + 1) w17 w18 := by rw [hw18]; exact (But.refl (S := fun q => q = w.heap.size + 1) w17).setCell (.inl rfl) _
  have R := Lib.hid (show Blk w18 (w.heap.size + 1) (rA V0 V1 V3 V7 V8 V9 VR 0 0 0 (.slice none 0 0)) 44 from by rw [hw18]; exact heap_setCell_same _ _ _ _ _ _ R1.out)
  have S := Lib.hid (show Src w18 w.heap.size w.heap.size _ _ _ from by rw [hw18]; exact src_set S1.out (by omega) (by omega))
  have BL := Lib.hid (BL1.out.trans (hbs.below (fun q hq h => by omega) BL1.out.size))
  have PB := Lib.hid (P1.out.but hbs HP2.out)
  rw [← hw18]
  clear R1 S1 BL1 cc fz hbs hw18 hsz P1
  have p0 := PB.out.cell 0
  simp at p0
  have p1 := PB.out.cell 1
  simp at p1
  have p2 := PB.out.cell 2
  simp at p2
  have p3 := PB.out.cell 3
  simp at p3
  obtain ⟨m, hm⟩ : ∃ m, m = (l.drop 13).length := ⟨_, rfl⟩
  obtain ⟨A0, c0, hS⟩ : ∃ A c, Src w18 w.heap.size w.heap.size (l.drop 13) A c := ⟨_, _, S.out⟩
  have hm1 : 1 ≤ m := by rw [hm, List.length_drop]; have := HYthdmdlnndbjcoaa.out; have := HLL.out; omega
  have hmm : m ≤ 1000000 := by rw [hm, List.length_drop]; have := HYthdmdlnndbjcoaa.out; have := HM.out; omega
  obtain ⟨ad, rfl, hadB, hqq⟩ := hS.rd.at_ (k := 0) (by rw [← hm]; exact hm1)
  clear hqq hadB
  have hx := hS.blk
  have hcp := hS.cap
  rw [← hm] at hx hcp
  have sb := hx.cell 0
  simp at sb
  have HD := Lib.hid (show (l.drop 13).drop 1 = l.drop 14 from by rw [List.drop_drop])
  have HD2 := Lib.hid (show (l.drop 14).length = m - 1 from by rw [← HD.out, List.length_drop, ← hm])
  have HRD := Lib.hid hS.rd
  have m1 : (1 : Int) ≤ (m : Int) := by omega
  have m2 : (m : Int) ≤ (c0 : Int) := by omega
  have m3 : (1 : Int) ≤ (c0 : Int) := by omega
  have HCP := Lib.hid hcp
  have HMM := Lib.hid hmm
  have HM1 := Lib.hid hm1
  clear S hS hx hm hcp hmm hm1
  go_wp2_with fail
  case inl =>
    have HRR := Lib.hid (show Rd w.heap.size w18 (some ad) (bv (l.drop 14)) from by rw [show l.drop 14 = [] from List.length_eq_zero_iff.1 (by rw [HD2.out]; have := HCP.out; omega)]; exact Rd.none)
    have BLS := Lib.hid BL.out.size
    refine (Sx.clone_any _ (m - 1) _ (l.drop 14) w18 HD2.out BL.out.size HRR.out (by have := HMM.out; omega)).mono ?_
    rintro e w19 ⟨A9, n9, c9, rfl, ho, bw⟩
    obtain rfl : m - 1 = n9 := by have h1 := own_blen ho; have h2 := HD2.out; omega
    have R1 := Lib.hid (Blk.below R.out bw)
    have P1 := Lib.hid (Blk.below PB.out bw)
    have BL1 := Lib.hid (BL.out.trans (bw.mono BL.out.size))
    have HO := Lib.hid ho
    have cc := R1.out.cell 10
    simp [rA] at cc
    have fz := blk_frozen R1.out 10
    clear ho bw R BL PB sb p0 p1 p2 p3
    go_upto_region 18 with fail
    obtain ⟨w20, hw20⟩ : ∃ v, v = w19.setCell ⟨w.heap.size + 1, 10, none⟩ (.slice A9 (m - 1) c9) := ⟨_, rfl⟩
    have hbs : But (fun q => q = w.heap.size + 1) w19 w20 := by rw [hw20]; exact (But.refl (S := fun q => q = w.heap.size + 1) w19).setCell (.inl rfl) _
    have R := Lib.hid (show Blk w20 (w.heap.size + 1) (rA V0 V1 V3 V7 V8 V9 VR 0 0 0 (.slice A9 (m - 1) c9)) 44 from by rw [hw20]; exact heap_setCell_same _ _ _ _ _ _ R1.out)
    have BL := Lib.hid (BL1.out.trans (hbs.below (fun q hq h => by omega) BL1.out.size))
    have OW := Lib.hid (show w20.ownsRow w.heap.size 5 1 (.slice A9 (m - 1) c9) (m - 1) (bv (l.drop 14)) from own_more (Own.but HO.out hbs (fun q hq e => by
      obtain ⟨_, cs', hc⟩ := row_typeC HO.out q hq
      have hx2 : w19.heap[w.heap.size + 1]? = some (.cells _ 44 (0, 0)) := R1.out
      rw [show q = w.heap.size + 1 from e, hx2] at hc
      injection hc with hc; injection hc with _ hc; exact absurd hc (by decide))) BLS.out)
    rw [← hw20]
    clear R1 BL1 P1 cc fz hw20 HO hbs
    obtain ⟨cs, hcs⟩ : ∃ cs, cs = (rA V0 V1 V3 V7 V8 V9 VR 0 0 0 (.slice A9 (m - 1) c9)) := ⟨_, rfl⟩
    have HCS := Lib.hid (show Value.agg cs = Value.agg (clA y A9 c9) from by rw [hcs, HEQ.out]; unfold clA; simp only; rw [HD2.out]; rfl)
    have HIC := Lib.hid (show (Try.prog.info? 44).map (·.size) = some cs.size from by rw [hcs]; kernel_rfl)
    have HON := Lib.hid (show ∀ u ∈ cs.toList, u.oneCell' = true from by rw [hcs]; simp [rA, Value.oneCell'])
    have HON2 := Lib.hid (show cs.all (·.oneCell') = true from by rw [hcs]; simp [rA, Value.oneCell'])
    have R2 := Lib.hid (show Blk _ (w.heap.size + 1) cs 44 from by rw [hcs]; exact R.out)
    clear R hcs
    go_wp2_with (first
      | (refine wpList_load_row rfl 44 (.tmp 2) rfl (w.heap.size + 1) rfl 44 cs (0, 0) _ R2.out Try.underlying44 rfl HIC.out ?_)
      | (refine wpList_store_row rfl 44 (.tmp 2) (.tmp 66) rfl (w.heap.size + 1) cs rfl rfl 44 cs R2.out HIC.out rfl HON2.out ?_))
    refine bodyPost_ret (v := .agg cs) (results_cell_row Try.results80 _ _ (w.heap.size + 1) 44 cs (0, 0) _ rfl (setRow_heap _ _ _ _ _ _ R2.out) Try.underlying44 rfl HIC.out) rfl ?_
    refine ⟨A9, c9, by rw [HCS.out], ?_, below_setRow BL.out (by omega) _⟩
    have hyb : y.body = l.drop 14 := by rw [HEQ.out]
    rw [hyb, HD2.out]
    exact Own.but OW.out (show But (fun q => q = w.heap.size + 1) _ _ from (But.refl (S := fun q => q = w.heap.size + 1) _).setRow (.inl rfl) _) (fun q hq e => by
      obtain ⟨_, cs', hc⟩ := row_typeC OW.out q hq
      have hx2 : w20.heap[w.heap.size + 1]? = some (.cells _ 44 (0, 0)) := R2.out
      rw [show q = w.heap.size + 1 from e, hx2] at hc
      injection hc with hc; injection hc with _ hc; exact absurd hc (by decide))
  case inr =>
    have HRR := Lib.hid (show Rd w.heap.size w18 (some (ad.add 1)) (bv (l.drop 14)) from by rw [← HD.out]; exact HRD.out.drop 1)
    have BLS := Lib.hid BL.out.size
    refine (Sx.clone_any _ (m - 1) _ (l.drop 14) w18 HD2.out BL.out.size HRR.out (by have := HMM.out; omega)).mono ?_
    rintro e w19 ⟨A9, n9, c9, rfl, ho, bw⟩
    obtain rfl : m - 1 = n9 := by have h1 := own_blen ho; have h2 := HD2.out; omega
    have R1 := Lib.hid (Blk.below R.out bw)
    have P1 := Lib.hid (Blk.below PB.out bw)
    have BL1 := Lib.hid (BL.out.trans (bw.mono BL.out.size))
    have HO := Lib.hid ho
    have cc := R1.out.cell 10
    simp [rA] at cc
    have fz := blk_frozen R1.out 10
    clear ho bw R BL PB sb p0 p1 p2 p3
    go_upto_region 18 with fail
    obtain ⟨w20, hw20⟩ : ∃ v, v = w19.setCell ⟨w.heap.size + 1, 10, none⟩ (.slice A9 (m - 1) c9) := ⟨_, rfl⟩
    have hbs : But (fun q => q = w.heap.size + 1) w19 w20 := by rw [hw20]; exact (But.refl (S := fun q => q = w.heap.size + 1) w19).setCell (.inl rfl) _
    have R := Lib.hid (show Blk w20 (w.heap.size + 1) (rA V0 V1 V3 V7 V8 V9 VR 0 0 0 (.slice A9 (m - 1) c9)) 44 from by rw [hw20]; exact heap_setCell_same _ _ _ _ _ _ R1.out)
    have BL := Lib.hid (BL1.out.trans (hbs.below (fun q hq h => by omega) BL1.out.size))
    have OW := Lib.hid (show w20.ownsRow w.heap.size 5 1 (.slice A9 (m - 1) c9) (m - 1) (bv (l.drop 14)) from own_more (Own.but HO.out hbs (fun q hq e => by
      obtain ⟨_, cs', hc⟩ := row_typeC HO.out q hq
      have hx2 : w19.heap[w.heap.size + 1]? = some (.cells _ 44 (0, 0)) := R1.out
      rw [show q = w.heap.size + 1 from e, hx2] at hc
      injection hc with hc; injection hc with _ hc; exact absurd hc (by decide))) BLS.out)
    rw [← hw20]
    clear R1 BL1 P1 cc fz hw20 HO hbs
    obtain ⟨cs, hcs⟩ : ∃ cs, cs = (rA V0 V1 V3 V7 V8 V9 VR 0 0 0 (.slice A9 (m - 1) c9)) := ⟨_, rfl⟩
    have HCS := Lib.hid (show Value.agg cs = Value.agg (clA y A9 c9) from by rw [hcs, HEQ.out]; unfold clA; simp only; rw [HD2.out]; rfl)
    have HIC := Lib.hid (show (Try.prog.info? 44).map (·.size) = some cs.size from by rw [hcs]; kernel_rfl)
    have HON := Lib.hid (show ∀ u ∈ cs.toList, u.oneCell' = true from by rw [hcs]; simp [rA, Value.oneCell'])
    have HON2 := Lib.hid (show cs.all (·.oneCell') = true from by rw [hcs]; simp [rA, Value.oneCell'])
    have R2 := Lib.hid (show Blk _ (w.heap.size + 1) cs 44 from by rw [hcs]; exact R.out)
    clear R hcs
    go_wp2_with (first
      | (refine wpList_load_row rfl 44 (.tmp 2) rfl (w.heap.size + 1) rfl 44 cs (0, 0) _ R2.out Try.underlying44 rfl HIC.out ?_)
      | (refine wpList_store_row rfl 44 (.tmp 2) (.tmp 66) rfl (w.heap.size + 1) cs rfl rfl 44 cs R2.out HIC.out rfl HON2.out ?_))
    refine bodyPost_ret (v := .agg cs) (results_cell_row Try.results80 _ _ (w.heap.size + 1) 44 cs (0, 0) _ rfl (setRow_heap _ _ _ _ _ _ R2.out) Try.underlying44 rfl HIC.out) rfl ?_
    refine ⟨A9, c9, by rw [HCS.out], ?_, below_setRow BL.out (by omega) _⟩
    have hyb : y.body = l.drop 14 := by rw [HEQ.out]
    rw [hyb, HD2.out]
    exact Own.but OW.out (show But (fun q => q = w.heap.size + 1) _ _ from (But.refl (S := fun q => q = w.heap.size + 1) _).setRow (.inl rfl) _) (fun q hq e => by
      obtain ⟨_, cs', hc⟩ := row_typeC OW.out q hq
      have hx2 : w20.heap[w.heap.size + 1]? = some (.cells _ 44 (0, 0)) := R2.out
      rw [show q = w.heap.size + 1 from e, hx2] at hc
      injection hc with hc; injection hc with _ hc; exact absurd hc (by decide))
end Go.Proofs.Ythdmdlnndbjcoaa.Ce
/-
  What Decode reads: other kinds.
-/
namespace Go.Proofs.Ythdmdlnndbjcoaa.Ce
open Go.RowKit
attribute [local go_sem ↓] Go.wp_at_zero Go.wp_at_succ
set_option maxRecDepth 100000 in
set_option maxHeartbeats 12800000 in
theorem read_dr {B : Nat} (k : Int) (hk : k = 5) (A : Option Addr) (n c : Nat) (l : List UInt8) (w : World) (hn : l.length = n) (hcap : n ≤ c ∧ c ≤ maxLen) (hr : Rd B w A (bv l)) (hB : B ≤ w.heap.size) (h0 : ((l.getD 0 0).toNat : Int) = k) (hl : 11 ≤ n) (hm : n ≤ 1000000) :
    Calls Try.prog 80 #[.slice A n c] w (RetCl (readCl k l) w) := by
  obtain ⟨V0, hV0⟩ : ∃ V, V = Wi.getL (part l 0 1) := ⟨_, rfl⟩
  have bV0 : V0 < 256 := by rw [hV0]; exact part_lt 0 1
  have wV0 : IntKind.i64.wrap (V0 : Int) = (V0 : Int) := IntWalk.i64_in _ (by omega)
  obtain ⟨V1, hV1⟩ : ∃ V, V = Wi.getL (part l 1 2) := ⟨_, rfl⟩
  have bV1 : V1 < 65536 := by rw [hV1]; exact part_lt 1 2
  obtain ⟨V3, hV3⟩ : ∃ V, V = Wi.getL (part l 3 4) := ⟨_, rfl⟩
  have bV3 : V3 < 4294967296 := by rw [hV3]; exact part_lt 3 4
  have wV3 : IntKind.i64.wrap (V3 : Int) = (V3 : Int) := IntWalk.i64_in _ (by omega)
  obtain ⟨V7, hV7⟩ : ∃ V, V = Wi.getL (part l 7 1) := ⟨_, rfl⟩
  have bV7 : V7 < 256 := by rw [hV7]; exact part_lt 7 1
  have wV7 : IntKind.i64.wrap (V7 : Int) = (V7 : Int) := IntWalk.i64_in _ (by omega)
  obtain ⟨V8, hV8⟩ : ∃ V, V = Wi.getL (part l 8 1) := ⟨_, rfl⟩
  have bV8 : V8 < 256 := by rw [hV8]; exact part_lt 8 1
  have wV8 : IntKind.i64.wrap (V8 : Int) = (V8 : Int) := IntWalk.i64_in _ (by omega)
  obtain ⟨V9, hV9⟩ : ∃ V, V = Wi.getL (part l 9 2) := ⟨_, rfl⟩
  have bV9 : V9 < 65536 := by rw [hV9]; exact part_lt 9 2
  have wV9 : IntKind.i64.wrap (V9 : Int) = (V9 : Int) := IntWalk.i64_in _ (by omega)
  have hV0k : (V0 : Int) = k := by
    obtain ⟨x, t, rfl, _⟩ := cons_of (n := 0) (l := l) (by omega)
    rw [hV0, ← h0]
    simp [part, Wi.getL]
  have HE : readCl k l = ⟨k, V1, V3, V7, V8, V9, 0, 0, 0, 0, []⟩ := by
    unfold readCl
    rw [show hasP k = true from decide_eq_true (by omega), show hasR k = false from decide_eq_false (by omega), show hasS k = false from decide_eq_false (by omega), show hasB k = false from decide_eq_false (by omega), hV1, hV3, hV7, hV8, hV9]
    simp
  have HPO := Lib.hid (show ∀ W, Calls Try.prog 49 #[.int .i64 (V0 : Int)] W (RetS (.tuple #[.agg #[.bool true, .bool false, .bool false, .bool false], .bool true]) (W.alloc (.cells #[.bool true, .bool false, .bool false, .bool false] 102))) from fun W => by
    have h := partsOf_any k W
    rw [show hasP k = true from decide_eq_true (by omega), show hasR k = false from decide_eq_false (by omega), show hasS k = false from decide_eq_false (by omega), show hasB k = false from decide_eq_false (by omega), show isKind k = true from decide_eq_true (by omega), ← hV0k] at h
    exact h)
  obtain ⟨y, hy⟩ : ∃ y, y = readCl k l := ⟨_, rfl⟩
  rw [← hy] at HE ⊢
  rw [← hV0k] at HE
  have HEQ := Lib.hid HE
  have HYthdmdlnndbjcoaa := Lib.hid hn
  have HM := Lib.hid hm
  have HLL := Lib.hid hl
  obtain ⟨w2, hw2⟩ : ∃ v, v = (w.alloc (.cells #[.slice A n c] 34)).alloc (.cells (rA 0 0 0 0 0 0 0 0 0 0 (.slice none 0 0)) 44) := ⟨_, rfl⟩
  have BL := Lib.hid (show Below w.heap.size w w2 from by rw [hw2]; exact bel2 _ _ _)
  have S := Lib.hid (show Src w2 w.heap.size w.heap.size l A c from ⟨by rw [hn, hw2]; exact heap_alloc2_old _ _ _, (hr.more hB).below BL.out, by rw [hn]; exact hcap⟩)
  have R := Lib.hid (show Blk w2 (w.heap.size + 1) (rA 0 0 0 0 0 0 0 0 0 0 (.slice none 0 0)) 44 from by rw [hw2]; exact heap_alloc2_new _ _ _)
  have HV0 := Lib.hid hV0
  have HV1 := Lib.hid hV1
  have HV3 := Lib.hid hV3
  have HV7 := Lib.hid hV7
  have HV8 := Lib.hid hV8
  have HV9 := Lib.hid hV9
  clear hn hcap hr hB h0 hl hm HE hy hk hV0k hV0 hV1 hV3 hV7 hV8 hV9
  go_enter Try.func80, Try.ntmps80
  go_upto_region 2 with fail
  have e2 : w2 = (w.alloc (.cells #[.slice A n c] 34)).alloc (.cells #[.int .i64 0, .int .u64 0, .int .i64 0, .int .i64 0, .int .i64 0, .int .i64 0, .int .u64 0, .int .i64 0, .int .i64 0, .int .i64 0, .slice none 0 0] 44) := hw2
  rw [← e2]
  clear hw2 e2
  go_wp2_with fail
  refine (next_any S.out (Nat.le_refl _) 1 (by omega) (by have := HYthdmdlnndbjcoaa.out; have := HLL.out; omega)).mono ?_
  rintro e w3 ⟨rfl, ⟨A3, e3, hs⟩, hb⟩
  rw [show Wi.getL ((l).take 1) = V0 from HV0.out.symm]
  
  have R1 := Lib.hid (R.out.but hb (by omega))
  have BL1 := Lib.hid (BL.out.trans (hb.below (fun q hq h => by omega) BL.out.size))
  have hsz := hb.size
  have S1 := Lib.hid (show Src w3 w.heap.size w.heap.size (l.drop 1) A3 e3 from hs)
  
  have cc := R1.out.cell 0
  simp [rA] at cc
  have fz := blk_frozen R1.out 0
  clear R BL S hs hb 
  go_upto_region 3 with fail
  obtain ⟨w4, hw4⟩ : ∃ v, v = w3.setCell ⟨w.heap.size + 1, 0, none⟩ (.int .i64 (V0 : Int)) := ⟨_, rfl⟩
  have hbs : But (fun q => q = w.heap.size + 1) w3 w4 := by rw [hw4]; exact (But.refl (S := fun q => q = w.heap.size + 1) w3).setCell (.inl rfl) _
  have R := Lib.hid (show Blk w4 (w.heap.size + 1) (rA V0 0 0 0 0 0 0 0 0 0 (.slice none 0 0)) 44 from by rw [hw4]; exact heap_setCell_same _ _ _ _ _ _ R1.out)
  have S := Lib.hid (show Src w4 w.heap.size w.heap.size _ _ _ from by rw [hw4]; exact src_set S1.out (by omega) (by omega))
  have BL := Lib.hid (BL1.out.trans (hbs.below (fun q hq h => by omega) BL1.out.size))
  
  rw [← hw4]
  clear R1 S1 BL1 cc fz hbs hw4 hsz 
  go_wp2_with fail
  refine (next_any S.out (Nat.le_refl _) 2 (by omega) (by have := HYthdmdlnndbjcoaa.out; have := HLL.out; rw [List.length_drop]; omega)).mono ?_
  rintro e w5 ⟨rfl, ⟨A5, e5, hs⟩, hb⟩
  rw [show Wi.getL ((l.drop 1).take 2) = V1 from HV1.out.symm]
  rw [List.drop_drop] at hs
  have R1 := Lib.hid (R.out.but hb (by omega))
  have BL1 := Lib.hid (BL.out.trans (hb.below (fun q hq h => by omega) BL.out.size))
  have hsz := hb.size
  have S1 := Lib.hid (show Src w5 w.heap.size w.heap.size (l.drop 3) A5 e5 from hs)
  
  have cc := R1.out.cell 1
  simp [rA] at cc
  have fz := blk_frozen R1.out 1
  clear R BL S hs hb 
  go_upto_region 4 with fail
  obtain ⟨w6, hw6⟩ : ∃ v, v = w5.setCell ⟨w.heap.size + 1, 1, none⟩ (.int .u64 (V1 : Int)) := ⟨_, rfl⟩
  have hbs : But (fun q => q = w.heap.size + 1) w5 w6 := by rw [hw6]; exact (But.refl (S := fun q => q = w.heap.size + 1) w5).setCell (.inl rfl) _
  have R := Lib.hid (show Blk w6 (w.heap.size + 1) (rA V0 V1 0 0 0 0 0 0 0 0 (.slice none 0 0)) 44 from by rw [hw6]; exact heap_setCell_same _ _ _ _ _ _ R1.out)
  have S := Lib.hid (show Src w6 w.heap.size w.heap.size _ _ _ from by rw [hw6]; exact src_set S1.out (by omega) (by omega))
  have BL := Lib.hid (BL1.out.trans (hbs.below (fun q hq h => by omega) BL1.out.size))
  
  rw [← hw6]
  clear R1 S1 BL1 cc fz hbs hw6 hsz 
  go_wp2_with fail
  refine (next_any S.out (Nat.le_refl _) 4 (by omega) (by have := HYthdmdlnndbjcoaa.out; have := HLL.out; rw [List.length_drop]; omega)).mono ?_
  rintro e w7 ⟨rfl, ⟨A7, e7, hs⟩, hb⟩
  rw [show Wi.getL ((l.drop 3).take 4) = V3 from HV3.out.symm]
  rw [List.drop_drop] at hs
  have R1 := Lib.hid (R.out.but hb (by omega))
  have BL1 := Lib.hid (BL.out.trans (hb.below (fun q hq h => by omega) BL.out.size))
  have hsz := hb.size
  have S1 := Lib.hid (show Src w7 w.heap.size w.heap.size (l.drop 7) A7 e7 from hs)
  
  have cc := R1.out.cell 2
  simp [rA] at cc
  have fz := blk_frozen R1.out 2
  clear R BL S hs hb 
  go_upto_region 5 with fail
  obtain ⟨w8, hw8⟩ : ∃ v, v = w7.setCell ⟨w.heap.size + 1, 2, none⟩ (.int .i64 (V3 : Int)) := ⟨_, rfl⟩
  have hbs : But (fun q => q = w.heap.size + 1) w7 w8 := by rw [hw8]; exact (But.refl (S := fun q => q = w.heap.size + 1) w7).setCell (.inl rfl) _
  have R := Lib.hid (show Blk w8 (w.heap.size + 1) (rA V0 V1 V3 0 0 0 0 0 0 0 (.slice none 0 0)) 44 from by rw [hw8]; exact heap_setCell_same _ _ _ _ _ _ R1.out)
  have S := Lib.hid (show Src w8 w.heap.size w.heap.size _ _ _ from by rw [hw8]; exact src_set S1.out (by omega) (by omega))
  have BL := Lib.hid (BL1.out.trans (hbs.below (fun q hq h => by omega) BL1.out.size))
  
  rw [← hw8]
  clear R1 S1 BL1 cc fz hbs hw8 hsz 
  have c0 := R.out.cell 0
  simp [rA] at c0
  go_wp2_with fail
  refine (HPO.out _).mono ?_
  rintro e w9 ⟨rfl, rfl⟩
  go_upto_region 6 with fail
  obtain ⟨w10, hw10⟩ : ∃ v, v = (w8.alloc (.cells #[.bool true, .bool false, .bool false, .bool false] 102)).alloc (.cells #[.bool true, .bool false, .bool false, .bool false] 102) := ⟨_, rfl⟩
  rw [← hw10]
  have bw : Below w8.heap.size w8 w10 := by rw [hw10]; exact bel2 _ _ _
  have R1 := Lib.hid (Blk.below R.out bw)
  have S1 := Lib.hid (src_below S.out bw BL.out.size)
  have BL1 := Lib.hid (BL.out.trans (bw.mono BL.out.size))
  obtain ⟨pb, hpb⟩ : ∃ pb, pb = w8.heap.size + 1 := ⟨_, rfl⟩
  rw [← hpb]
  have PB := Lib.hid (show Blk w10 pb #[.bool true, .bool false, .bool false, .bool false] 102 from by rw [hw10, hpb]; exact heap_alloc2_new _ _ _)
  have HP := Lib.hid (show pb ≠ w.heap.size from by have := BL.out.size; omega)
  have HP2 := Lib.hid (show pb ≠ w.heap.size + 1 from by have := R.out.lt; omega)
  clear c0 R S BL bw hw10 hpb
  have R := Lib.hid R1.out
  have S := Lib.hid S1.out
  have BL := Lib.hid BL1.out
  clear R1 S1 BL1
  have p0 := PB.out.cell 0
  simp at p0
  have p1 := PB.out.cell 1
  simp at p1
  have p2 := PB.out.cell 2
  simp at p2
  have p3 := PB.out.cell 3
  simp at p3
  go_wp2_with fail
  refine (next_any S.out (Nat.le_refl _) 1 (by omega) (by have := HYthdmdlnndbjcoaa.out; have := HLL.out; rw [List.length_drop]; omega)).mono ?_
  rintro e w11 ⟨rfl, ⟨A11, e11, hs⟩, hb⟩
  rw [show Wi.getL ((l.drop 7).take 1) = V7 from HV7.out.symm]
  rw [List.drop_drop] at hs
  have R1 := Lib.hid (R.out.but hb (by omega))
  have BL1 := Lib.hid (BL.out.trans (hb.below (fun q hq h => by omega) BL.out.size))
  have hsz := hb.size
  have S1 := Lib.hid (show Src w11 w.heap.size w.heap.size (l.drop 8) A11 e11 from hs)
  have P1 := Lib.hid (PB.out.but hb HP.out)
  have cc := R1.out.cell 3
  simp [rA] at cc
  have fz := blk_frozen R1.out 3
  clear R BL S hs hb PB p0 p1 p2 p3
  go_upto_region 8 with fail
  obtain ⟨w12, hw12⟩ : ∃ v, v = w11.setCell ⟨w.heap.size + 1, 3, none⟩ (.int .i64 (V7 : Int)) := ⟨_, rfl⟩
  have hbs : But (fun q => q = w.heap.size + 1) w11 w12 := by rw [hw12]; exact (But.refl (S := fun q => q = w.heap.size + 1) w11).setCell (.inl rfl) _
  have R := Lib.hid (show Blk w12 (w.heap.size + 1) (rA V0 V1 V3 V7 0 0 0 0 0 0 (.slice none 0 0)) 44 from by rw [hw12]; exact heap_setCell_same _ _ _ _ _ _ R1.out)
  have S := Lib.hid (show Src w12 w.heap.size w.heap.size _ _ _ from by rw [hw12]; exact src_set S1.out (by omega) (by omega))
  have BL := Lib.hid (BL1.out.trans (hbs.below (fun q hq h => by omega) BL1.out.size))
  have PB := Lib.hid (P1.out.but hbs HP2.out)
  rw [← hw12]
  clear R1 S1 BL1 cc fz hbs hw12 hsz P1
  have p0 := PB.out.cell 0
  simp at p0
  have p1 := PB.out.cell 1
  simp at p1
  have p2 := PB.out.cell 2
  simp at p2
  have p3 := PB.out.cell 3
  simp at p3
  go_wp2_with fail
  refine (next_any S.out (Nat.le_refl _) 1 (by omega) (by have := HYthdmdlnndbjcoaa.out; have := HLL.out; rw [List.length_drop]; omega)).mono ?_
  rintro e w13 ⟨rfl, ⟨A13, e13, hs⟩, hb⟩
  rw [show Wi.getL ((l.drop 8).take 1) = V8 from HV8.out.symm]
  rw [List.drop_drop] at hs
  have R1 := Lib.hid (R.out.but hb (by omega))
  have BL1 := Lib.hid (BL.out.trans (hb.below (fun q hq h => by omega) BL.out.size))
  have hsz := hb.size
  have S1 := Lib.hid (show Src w13 w.heap.size w.heap.size (l.drop 9) A13 e13 from hs)
  have P1 := Lib.hid (PB.out.but hb HP.out)
  have cc := R1.out.cell 4
  simp [rA] at cc
  have fz := blk_frozen R1.out 4
  clear R BL S hs hb PB p0 p1 p2 p3
  go_upto_region 9 with fail
  obtain ⟨w14, hw14⟩ : ∃ v, v = w13.setCell ⟨w.heap.size + 1, 4, none⟩ (.int .i64 (V8 : Int)) := ⟨_, rfl⟩
  have hbs : But (fun q => q = w.heap.size + 1) w13 w14 := by rw [hw14]; exact (But.refl (S := fun q => q = w.heap.size + 1) w13).setCell (.inl rfl) _
  have R := Lib.hid (show Blk w14 (w.heap.size + 1) (rA V0 V1 V3 V7 V8 0 0 0 0 0 (.slice none 0 0)) 44 from by rw [hw14]; exact heap_setCell_same _ _ _ _ _ _ R1.out)
  have S := Lib.hid (show Src w14 w.heap.size w.heap.size _ _ _ from by rw [hw14]; exact src_set S1.out (by omega) (by omega))
  have BL := Lib.hid (BL1.out.trans (hbs.below (fun q hq h => by omega) BL1.out.size))
  have PB := Lib.hid (P1.out.but hbs HP2.out)
  rw [← hw14]
  clear R1 S1 BL1 cc fz hbs hw14 hsz P1
  have p0 := PB.out.cell 0
  simp at p0
  have p1 := PB.out.cell 1
  simp at p1
  have p2 := PB.out.cell 2
  simp at p2
  have p3 := PB.out.cell 3
  simp at p3
  go_wp2_with fail
  refine (next_any S.out (Nat.le_refl _) 2 (by omega) (by have := HYthdmdlnndbjcoaa.out; have := HLL.out; rw [List.length_drop]; omega)).mono ?_
  rintro e w15 ⟨rfl, ⟨A15, e15, hs⟩, hb⟩
  rw [show Wi.getL ((l.drop 9).take 2) = V9 from HV9.out.symm]
  rw [List.drop_drop] at hs
  have R1 := Lib.hid (R.out.but hb (by omega))
  have BL1 := Lib.hid (BL.out.trans (hb.below (fun q hq h => by omega) BL.out.size))
  have hsz := hb.size
  have S1 := Lib.hid (show Src w15 w.heap.size w.heap.size (l.drop 11) A15 e15 from hs)
  have P1 := Lib.hid (PB.out.but hb HP.out)
  have cc := R1.out.cell 5
  simp [rA] at cc
  have fz := blk_frozen R1.out 5
  clear R BL S hs hb PB p0 p1 p2 p3
  go_upto_region 10 with fail
  obtain ⟨w16, hw16⟩ : ∃ v, v = w15.setCell ⟨w.heap.size + 1, 5, none⟩ (.int .i64 (V9 : Int)) := ⟨_, rfl⟩
  have hbs : But (fun q => q = w.heap.size + 1) w15 w16 := by rw [hw16]; exact (But.refl (S := fun q => q = w.heap.size + 1) w15).setCell (.inl rfl) _
  have R := Lib.hid (show Blk w16 (w.heap.size + 1) (rA V0 V1 V3 V7 V8 V9 0 0 0 0 (.slice none 0 0)) 44 from by rw [hw16]; exact heap_setCell_same _ _ _ _ _ _ R1.out)
  have S := Lib.hid (show Src w16 w.heap.size w.heap.size _ _ _ from by rw [hw16]; exact src_set S1.out (by omega) (by omega))
  have BL := Lib.hid (BL1.out.trans (hbs.below (fun q hq h => by omega) BL1.out.size))
  have PB := Lib.hid (P1.out.but hbs HP2.out)
  rw [← hw16]
  clear R1 S1 BL1 cc fz hbs hw16 hsz P1
  have p0 := PB.out.cell 0
  simp at p0
  have p1 := PB.out.cell 1
  simp at p1
  have p2 := PB.out.cell 2
  simp at p2
  have p3 := PB.out.cell 3
  simp at p3
  go_upto_region 18 with fail
  obtain ⟨cs, hcs⟩ : ∃ cs, cs = (rA V0 V1 V3 V7 V8 V9 0 0 0 0 (.slice none 0 0)) := ⟨_, rfl⟩
  have HCS := Lib.hid (show Value.agg cs = Value.agg (clA y none 0) from by rw [hcs, HEQ.out]; unfold clA; simp only; rfl)
  have HIC := Lib.hid (show (Try.prog.info? 44).map (·.size) = some cs.size from by rw [hcs]; kernel_rfl)
  have HON := Lib.hid (show ∀ u ∈ cs.toList, u.oneCell' = true from by rw [hcs]; simp [rA, Value.oneCell'])
  have HON2 := Lib.hid (show cs.all (·.oneCell') = true from by rw [hcs]; simp [rA, Value.oneCell'])
  have R2 := Lib.hid (show Blk _ (w.heap.size + 1) cs 44 from by rw [hcs]; exact R.out)
  clear R hcs
  go_wp2_with (first
    | (refine wpList_load_row rfl 44 (.tmp 2) rfl (w.heap.size + 1) rfl 44 cs (0, 0) _ R2.out Try.underlying44 rfl HIC.out ?_)
    | (refine wpList_store_row rfl 44 (.tmp 2) (.tmp 66) rfl (w.heap.size + 1) cs rfl rfl 44 cs R2.out HIC.out rfl HON2.out ?_))
  refine bodyPost_ret (v := .agg cs) (results_cell_row Try.results80 _ _ (w.heap.size + 1) 44 cs (0, 0) _ rfl (setRow_heap _ _ _ _ _ _ R2.out) Try.underlying44 rfl HIC.out) rfl ?_
  refine ⟨none, 0, by rw [HCS.out], ?_, below_setRow BL.out (by omega) _⟩
  have hyb : y.body = [] := by rw [HEQ.out]
  rw [hyb]
  exact World.ownsRow_nil _ _ _ _
set_option maxRecDepth 100000 in
set_option maxHeartbeats 12800000 in
theorem read_ho {B : Nat} (k : Int) (hk : k = 6) (A : Option Addr) (n c : Nat) (l : List UInt8) (w : World) (hn : l.length = n) (hcap : n ≤ c ∧ c ≤ maxLen) (hr : Rd B w A (bv l)) (hB : B ≤ w.heap.size) (h0 : ((l.getD 0 0).toNat : Int) = k) (hl : 21 ≤ n) (hm : n ≤ 1000000) :
    Calls Try.prog 80 #[.slice A n c] w (RetCl (readCl k l) w) := by
  obtain ⟨V0, hV0⟩ : ∃ V, V = Wi.getL (part l 0 1) := ⟨_, rfl⟩
  have bV0 : V0 < 256 := by rw [hV0]; exact part_lt 0 1
  have wV0 : IntKind.i64.wrap (V0 : Int) = (V0 : Int) := IntWalk.i64_in _ (by omega)
  obtain ⟨V1, hV1⟩ : ∃ V, V = Wi.getL (part l 1 2) := ⟨_, rfl⟩
  have bV1 : V1 < 65536 := by rw [hV1]; exact part_lt 1 2
  obtain ⟨V3, hV3⟩ : ∃ V, V = Wi.getL (part l 3 4) := ⟨_, rfl⟩
  have bV3 : V3 < 4294967296 := by rw [hV3]; exact part_lt 3 4
  have wV3 : IntKind.i64.wrap (V3 : Int) = (V3 : Int) := IntWalk.i64_in _ (by omega)
  obtain ⟨VR, hVR⟩ : ∃ V, V = Wi.getL (part l 7 2) := ⟨_, rfl⟩
  have bVR : VR < 65536 := by rw [hVR]; exact part_lt 7 2
  obtain ⟨VF, hVF⟩ : ∃ V, V = Wi.getL (part l 9 4) := ⟨_, rfl⟩
  have bVF : VF < 4294967296 := by rw [hVF]; exact part_lt 9 4
  have wVF : IntKind.i64.wrap (VF : Int) = (VF : Int) := IntWalk.i64_in _ (by omega)
  obtain ⟨VT, hVT⟩ : ∃ V, V = Wi.getL (part l 13 4) := ⟨_, rfl⟩
  have bVT : VT < 4294967296 := by rw [hVT]; exact part_lt 13 4
  have wVT : IntKind.i64.wrap (VT : Int) = (VT : Int) := IntWalk.i64_in _ (by omega)
  obtain ⟨VU, hVU⟩ : ∃ V, V = Wi.getL (part l 17 4) := ⟨_, rfl⟩
  have bVU : VU < 4294967296 := by rw [hVU]; exact part_lt 17 4
  have wVU : IntKind.i64.wrap (VU : Int) = (VU : Int) := IntWalk.i64_in _ (by omega)
  have hV0k : (V0 : Int) = k := by
    obtain ⟨x, t, rfl, _⟩ := cons_of (n := 0) (l := l) (by omega)
    rw [hV0, ← h0]
    simp [part, Wi.getL]
  have HE : readCl k l = ⟨k, V1, V3, 0, 0, 0, VR, VF, VT, VU, []⟩ := by
    unfold readCl
    rw [show hasP k = false from decide_eq_false (by omega), show hasR k = true from decide_eq_true (by omega), show hasS k = true from decide_eq_true (by omega), show hasB k = false from decide_eq_false (by omega), hV1, hV3, hVR, hVF, hVT, hVU]
    simp
  have HPO := Lib.hid (show ∀ W, Calls Try.prog 49 #[.int .i64 (V0 : Int)] W (RetS (.tuple #[.agg #[.bool false, .bool true, .bool true, .bool false], .bool true]) (W.alloc (.cells #[.bool false, .bool true, .bool true, .bool false] 102))) from fun W => by
    have h := partsOf_any k W
    rw [show hasP k = false from decide_eq_false (by omega), show hasR k = true from decide_eq_true (by omega), show hasS k = true from decide_eq_true (by omega), show hasB k = false from decide_eq_false (by omega), show isKind k = true from decide_eq_true (by omega), ← hV0k] at h
    exact h)
  obtain ⟨y, hy⟩ : ∃ y, y = readCl k l := ⟨_, rfl⟩
  rw [← hy] at HE ⊢
  rw [← hV0k] at HE
  have HEQ := Lib.hid HE
  have HYthdmdlnndbjcoaa := Lib.hid hn
  have HM := Lib.hid hm
  have HLL := Lib.hid hl
  obtain ⟨w2, hw2⟩ : ∃ v, v = (w.alloc (.cells #[.slice A n c] 34)).alloc (.cells (rA 0 0 0 0 0 0 0 0 0 0 (.slice none 0 0)) 44) := ⟨_, rfl⟩
  have BL := Lib.hid (show Below w.heap.size w w2 from by rw [hw2]; exact bel2 _ _ _)
  have S := Lib.hid (show Src w2 w.heap.size w.heap.size l A c from ⟨by rw [hn, hw2]; exact heap_alloc2_old _ _ _, (hr.more hB).below BL.out, by rw [hn]; exact hcap⟩)
  have R := Lib.hid (show Blk w2 (w.heap.size + 1) (rA 0 0 0 0 0 0 0 0 0 0 (.slice none 0 0)) 44 from by rw [hw2]; exact heap_alloc2_new _ _ _)
  have HV0 := Lib.hid hV0
  have HV1 := Lib.hid hV1
  have HV3 := Lib.hid hV3
  have HVR := Lib.hid hVR
  have HVF := Lib.hid hVF
  have HVT := Lib.hid hVT
  have HVU := Lib.hid hVU
  clear hn hcap hr hB h0 hl hm HE hy hk hV0k hV0 hV1 hV3 hVR hVF hVT hVU
  go_enter Try.func80, Try.ntmps80
  go_upto_region 2 with fail
  have e2 : w2 = (w.alloc (.cells #[.slice A n c] 34)).alloc (.cells #[.int .i64 0, .int .u64 0, .int .i64 0, .int .i64 0, .int .i64 0, .int .i64 0, .int .u64 0, .int .i64 0, .int .i64 0, .int .i64 0, .slice none 0 0] 44) := hw2
  rw [← e2]
  clear hw2 e2
  go_wp2_with fail
  refine (next_any S.out (Nat.le_refl _) 1 (by omega) (by have := HYthdmdlnndbjcoaa.out; have := HLL.out; omega)).mono ?_
  rintro e w3 ⟨rfl, ⟨A3, e3, hs⟩, hb⟩
  rw [show Wi.getL ((l).take 1) = V0 from HV0.out.symm]
  
  have R1 := Lib.hid (R.out.but hb (by omega))
  have BL1 := Lib.hid (BL.out.trans (hb.below (fun q hq h => by omega) BL.out.size))
  have hsz := hb.size
  have S1 := Lib.hid (show Src w3 w.heap.size w.heap.size (l.drop 1) A3 e3 from hs)
  
  have cc := R1.out.cell 0
  simp [rA] at cc
  have fz := blk_frozen R1.out 0
  clear R BL S hs hb 
  go_upto_region 3 with fail
  obtain ⟨w4, hw4⟩ : ∃ v, v = w3.setCell ⟨w.heap.size + 1, 0, none⟩ (.int .i64 (V0 : Int)) := ⟨_, rfl⟩
  have hbs : But (fun q => q = w.heap.size + 1) w3 w4 := by rw [hw4]; exact (But.refl (S := fun q => q = w.heap.size + 1) w3).setCell (.inl rfl) _
  have R := Lib.hid (show Blk w4 (w.heap.size + 1) (rA V0 0 0 0 0 0 0 0 0 0 (.slice none 0 0)) 44 from by rw [hw4]; exact heap_setCell_same _ _ _ _ _ _ R1.out)
  have S := Lib.hid (show Src w4 w.heap.size w.heap.size _ _ _ from by rw [hw4]; exact src_set S1.out (by omega) (by omega))
  have BL := Lib.hid (BL1.out.trans (hbs.below (fun q hq h => by omega) BL1.out.size))
  
  rw [← hw4]
  clear R1 S1 BL1 cc fz hbs hw4 hsz 
  go_wp2_with fail
  refine (next_any S.out (Nat.le_refl _) 2 (by omega) (by have := HYthdmdlnndbjcoaa.out; have := HLL.out; rw [List.length_drop]; omega)).mono ?_
  rintro e w5 ⟨rfl, ⟨A5, e5, hs⟩, hb⟩
  rw [show Wi.getL ((l.drop 1).take 2) = V1 from HV1.out.symm]
  rw [List.drop_drop] at hs
  have R1 := Lib.hid (R.out.but hb (by omega))
  have BL1 := Lib.hid (BL.out.trans (hb.below (fun q hq h => by omega) BL.out.size))
  have hsz := hb.size
  have S1 := Lib.hid (show Src w5 w.heap.size w.heap.size (l.drop 3) A5 e5 from hs)
  
  have cc := R1.out.cell 1
  simp [rA] at cc
  have fz := blk_frozen R1.out 1
  clear R BL S hs hb 
  go_upto_region 4 with fail
  obtain ⟨w6, hw6⟩ : ∃ v, v = w5.setCell ⟨w.heap.size + 1, 1, none⟩ (.int .u64 (V1 : Int)) := ⟨_, rfl⟩
  have hbs : But (fun q => q = w.heap.size + 1) w5 w6 := by rw [hw6]; exact (But.refl (S := fun q => q = w.heap.size + 1) w5).setCell (.inl rfl) _
  have R := Lib.hid (show Blk w6 (w.heap.size + 1) (rA V0 V1 0 0 0 0 0 0 0 0 (.slice none 0 0)) 44 from by rw [hw6]; exact heap_setCell_same _ _ _ _ _ _ R1.out)
  have S := Lib.hid (show Src w6 w.heap.size w.heap.size _ _ _ from by rw [hw6]; exact src_set S1.out (by omega) (by omega))
  have BL := Lib.hid (BL1.out.trans (hbs.below (fun q hq h => by omega) BL1.out.size))
  
  rw [← hw6]
  clear R1 S1 BL1 cc fz hbs hw6 hsz 
  go_wp2_with fail
  refine (next_any S.out (Nat.le_refl _) 4 (by omega) (by have := HYthdmdlnndbjcoaa.out; have := HLL.out; rw [List.length_drop]; omega)).mono ?_
  rintro e w7 ⟨rfl, ⟨A7, e7, hs⟩, hb⟩
  rw [show Wi.getL ((l.drop 3).take 4) = V3 from HV3.out.symm]
  rw [List.drop_drop] at hs
  have R1 := Lib.hid (R.out.but hb (by omega))
  have BL1 := Lib.hid (BL.out.trans (hb.below (fun q hq h => by omega) BL.out.size))
  have hsz := hb.size
  have S1 := Lib.hid (show Src w7 w.heap.size w.heap.size (l.drop 7) A7 e7 from hs)
  
  have cc := R1.out.cell 2
  simp [rA] at cc
  have fz := blk_frozen R1.out 2
  clear R BL S hs hb 
  go_upto_region 5 with fail
  obtain ⟨w8, hw8⟩ : ∃ v, v = w7.setCell ⟨w.heap.size + 1, 2, none⟩ (.int .i64 (V3 : Int)) := ⟨_, rfl⟩
  have hbs : But (fun q => q = w.heap.size + 1) w7 w8 := by rw [hw8]; exact (But.refl (S := fun q => q = w.heap.size + 1) w7).setCell (.inl rfl) _
  have R := Lib.hid (show Blk w8 (w.heap.size + 1) (rA V0 V1 V3 0 0 0 0 0 0 0 (.slice none 0 0)) 44 from by rw [hw8]; exact heap_setCell_same _ _ _ _ _ _ R1.out)
  have S := Lib.hid (show Src w8 w.heap.size w.heap.size _ _ _ from by rw [hw8]; exact src_set S1.out (by omega) (by omega))
  have BL := Lib.hid (BL1.out.trans (hbs.below (fun q hq h => by omega) BL1.out.size))
  
  rw [← hw8]
  clear R1 S1 BL1 cc fz hbs hw8 hsz 
  have c0 := R.out.cell 0
  simp [rA] at c0
  go_wp2_with fail
  refine (HPO.out _).mono ?_
  rintro e w9 ⟨rfl, rfl⟩
  go_upto_region 6 with fail
  obtain ⟨w10, hw10⟩ : ∃ v, v = (w8.alloc (.cells #[.bool false, .bool true, .bool true, .bool false] 102)).alloc (.cells #[.bool false, .bool true, .bool true, .bool false] 102) := ⟨_, rfl⟩
  rw [← hw10]
  have bw : Below w8.heap.size w8 w10 := by rw [hw10]; exact bel2 _ _ _
  have R1 := Lib.hid (Blk.below R.out bw)
  have S1 := Lib.hid (src_below S.out bw BL.out.size)
  have BL1 := Lib.hid (BL.out.trans (bw.mono BL.out.size))
  obtain ⟨pb, hpb⟩ : ∃ pb, pb = w8.heap.size + 1 := ⟨_, rfl⟩
  rw [← hpb]
  have PB := Lib.hid (show Blk w10 pb #[.bool false, .bool true, .bool true, .bool false] 102 from by rw [hw10, hpb]; exact heap_alloc2_new _ _ _)
  have HP := Lib.hid (show pb ≠ w.heap.size from by have := BL.out.size; omega)
  have HP2 := Lib.hid (show pb ≠ w.heap.size + 1 from by have := R.out.lt; omega)
  clear c0 R S BL bw hw10 hpb
  have R := Lib.hid R1.out
  have S := Lib.hid S1.out
  have BL := Lib.hid BL1.out
  clear R1 S1 BL1
  have p0 := PB.out.cell 0
  simp at p0
  have p1 := PB.out.cell 1
  simp at p1
  have p2 := PB.out.cell 2
  simp at p2
  have p3 := PB.out.cell 3
  simp at p3
  go_wp2_with fail
  refine (next_any S.out (Nat.le_refl _) 2 (by omega) (by have := HYthdmdlnndbjcoaa.out; have := HLL.out; rw [List.length_drop]; omega)).mono ?_
  rintro e w11 ⟨rfl, ⟨A11, e11, hs⟩, hb⟩
  rw [show Wi.getL ((l.drop 7).take 2) = VR from HVR.out.symm]
  rw [List.drop_drop] at hs
  have R1 := Lib.hid (R.out.but hb (by omega))
  have BL1 := Lib.hid (BL.out.trans (hb.below (fun q hq h => by omega) BL.out.size))
  have hsz := hb.size
  have S1 := Lib.hid (show Src w11 w.heap.size w.heap.size (l.drop 9) A11 e11 from hs)
  have P1 := Lib.hid (PB.out.but hb HP.out)
  have cc := R1.out.cell 6
  simp [rA] at cc
  have fz := blk_frozen R1.out 6
  clear R BL S hs hb PB p0 p1 p2 p3
  go_upto_region 12 with fail
  obtain ⟨w12, hw12⟩ : ∃ v, v = w11.setCell ⟨w.heap.size + 1, 6, none⟩ (.int .u64 (VR : Int)) := ⟨_, rfl⟩
  have hbs : But (fun q => q = w.heap.size + 1) w11 w12 := by rw [hw12]; exact (But.refl (S := fun q => q = w.heap.size + 1) w11).setCell (.inl rfl) _
  have R := Lib.hid (show Blk w12 (w.heap.size + 1) (rA V0 V1 V3 0 0 0 VR 0 0 0 (.slice none 0 0)) 44 from by rw [hw12]; exact heap_setCell_same _ _ _ _ _ _ R1.out)
  have S := Lib.hid (show Src w12 w.heap.size w.heap.size _ _ _ from by rw [hw12]; exact src_set S1.out (by omega) (by omega))
  have BL := Lib.hid (BL1.out.trans (hbs.below (fun q hq h => by omega) BL1.out.size))
  have PB := Lib.hid (P1.out.but hbs HP2.out)
  rw [← hw12]
  clear R1 S1 BL1 cc fz hbs hw12 hsz P1
  have p0 := PB.out.cell 0
  simp at p0
  have p1 := PB.out.cell 1
  simp at p1
  have p2 := PB.out.cell 2
  simp at p2
  have p3 := PB.out.cell 3
  simp at p3
  go_wp2_with fail
  refine (next_any S.out (Nat.le_refl _) 4 (by omega) (by have := HYthdmdlnndbjcoaa.out; have := HLL.out; rw [List.length_drop]; omega)).mono ?_
  rintro e w13 ⟨rfl, ⟨A13, e13, hs⟩, hb⟩
  rw [show Wi.getL ((l.drop 9).take 4) = VF from HVF.out.symm]
  rw [List.drop_drop] at hs
  have R1 := Lib.hid (R.out.but hb (by omega))
  have BL1 := Lib.hid (BL.out.trans (hb.below (fun q hq h => by omega) BL.out.size))
  have hsz := hb.size
  have S1 := Lib.hid (show Src w13 w.heap.size w.heap.size (l.drop 13) A13 e13 from hs)
  have P1 := Lib.hid (PB.out.but hb HP.out)
  have cc := R1.out.cell 7
  simp [rA] at cc
  have fz := blk_frozen R1.out 7
  clear R BL S hs hb PB p0 p1 p2 p3
  go_upto_region 14 with fail
  obtain ⟨w14, hw14⟩ : ∃ v, v = w13.setCell ⟨w.heap.size + 1, 7, none⟩ (.int .i64 (VF : Int)) := ⟨_, rfl⟩
  have hbs : But (fun q => q = w.heap.size + 1) w13 w14 := by rw [hw14]; exact (But.refl (S := fun q => q = w.heap.size + 1) w13).setCell (.inl rfl) _
  have R := Lib.hid (show Blk w14 (w.heap.size + 1) (rA V0 V1 V3 0 0 0 VR VF 0 0 (.slice none 0 0)) 44 from by rw [hw14]; exact heap_setCell_same _ _ _ _ _ _ R1.out)
  have S := Lib.hid (show Src w14 w.heap.size w.heap.size _ _ _ from by rw [hw14]; exact src_set S1.out (by omega) (by omega))
  have BL := Lib.hid (BL1.out.trans (hbs.below (fun q hq h => by omega) BL1.out.size))
  have PB := Lib.hid (P1.out.but hbs HP2.out)
  rw [← hw14]
  clear R1 S1 BL1 cc fz hbs hw14 hsz P1
  have p0 := PB.out.cell 0
  simp at p0
  have p1 := PB.out.cell 1
  simp at p1
  have p2 := PB.out.cell 2
  simp at p2
  have p3 := PB.out.cell 3
  simp at p3
  go_wp2_with fail
  refine (next_any S.out (Nat.le_refl _) 4 (by omega) (by have := HYthdmdlnndbjcoaa.out; have := HLL.out; rw [List.length_drop]; omega)).mono ?_
  rintro e w15 ⟨rfl, ⟨A15, e15, hs⟩, hb⟩
  rw [show Wi.getL ((l.drop 13).take 4) = VT from HVT.out.symm]
  rw [List.drop_drop] at hs
  have R1 := Lib.hid (R.out.but hb (by omega))
  have BL1 := Lib.hid (BL.out.trans (hb.below (fun q hq h => by omega) BL.out.size))
  have hsz := hb.size
  have S1 := Lib.hid (show Src w15 w.heap.size w.heap.size (l.drop 17) A15 e15 from hs)
  have P1 := Lib.hid (PB.out.but hb HP.out)
  have cc := R1.out.cell 8
  simp [rA] at cc
  have fz := blk_frozen R1.out 8
  clear R BL S hs hb PB p0 p1 p2 p3
  go_upto_region 15 with fail
  obtain ⟨w16, hw16⟩ : ∃ v, v = w15.setCell ⟨w.heap.size + 1, 8, none⟩ (.int .i64 (VT : Int)) := ⟨_, rfl⟩
  have hbs : But (fun q => q = w.heap.size + 1) w15 w16 := by rw [hw16]; exact (But.refl (S := fun q => q = w.heap.size + 1) w15).setCell (.inl rfl) _
  have R := Lib.hid (show Blk w16 (w.heap.size + 1) (rA V0 V1 V3 0 0 0 VR VF VT 0 (.slice none 0 0)) 44 from by rw [hw16]; exact heap_setCell_same _ _ _ _ _ _ R1.out)
  have S := Lib.hid (show Src w16 w.heap.size w.heap.size _ _ _ from by rw [hw16]; exact src_set S1.out (by omega) (by omega))
  have BL := Lib.hid (BL1.out.trans (hbs.below (fun q hq h => by omega) BL1.out.size))
  have PB := Lib.hid (P1.out.but hbs HP2.out)
  rw [← hw16]
  clear R1 S1 BL1 cc fz hbs hw16 hsz P1
  have p0 := PB.out.cell 0
  simp at p0
  have p1 := PB.out.cell 1
  simp at p1
  have p2 := PB.out.cell 2
  simp at p2
  have p3 := PB.out.cell 3
  simp at p3
  go_wp2_with fail
  refine (next_any S.out (Nat.le_refl _) 4 (by omega) (by have := HYthdmdlnndbjcoaa.out; have := HLL.out; rw [List.length_drop]; omega)).mono ?_
  rintro e w17 ⟨rfl, ⟨A17, e17, hs⟩, hb⟩
  rw [show Wi.getL ((l.drop 17).take 4) = VU from HVU.out.symm]
  rw [List.drop_drop] at hs
  have R1 := Lib.hid (R.out.but hb (by omega))
  have BL1 := Lib.hid (BL.out.trans (hb.below (fun q hq h => by omega) BL.out.size))
  have hsz := hb.size
  have S1 := Lib.hid (show Src w17 w.heap.size w.heap.size (l.drop 21) A17 e17 from hs)
  have P1 := Lib.hid (PB.out.but hb HP.out)
  have cc := R1.out.cell 9
  simp [rA] at cc
  have fz := blk_frozen R1.out 9
  clear R BL S hs hb PB p0 p1 p2 p3
  go_upto_region 16 with fail
  obtain ⟨w18, hw18⟩ : ∃ v, v = w17.setCell ⟨w.heap.size + 1, 9, none⟩ (.int .i64 (VU : Int)) := ⟨_, rfl⟩
  have hbs : But (fun q => q = w.heap.size + 1) w17 w18 := by rw [hw18]; exact (But.refl (S := fun q => q = w.heap.size + 1) w17).setCell (.inl rfl) _
  have R := Lib.hid (show Blk w18 (w.heap.size + 1) (rA V0 V1 V3 0 0 0 VR VF VT VU (.slice none 0 0)) 44 from by rw [hw18]; exact heap_setCell_same _ _ _ _ _ _ R1.out)
  have S := Lib.hid (show Src w18 w.heap.size w.heap.size _ _ _ from by rw [hw18]; exact src_set S1.out (by omega) (by omega))
  have BL := Lib.hid (BL1.out.trans (hbs.below (fun q hq h => by omega) BL1.out.size))
  have PB := Lib.hid (P1.out.but hbs HP2.out)
  rw [← hw18]
  clear R1 S1 BL1 cc fz hbs hw18 hsz P1
  have p0 := PB.out.cell 0
  simp at p0
  have p1 := PB.out.cell 1
  simp at p1
  have p2 := PB.out.cell 2
  simp at p2
  have p3 := PB.out.cell 3
  simp at p3
  go_upto_region 18 with fail
  obtain ⟨cs, hcs⟩ : ∃ cs, cs = (rA V0 V1 V3 0 0 0 VR VF VT VU (.slice none 0 0)) := ⟨_, rfl⟩
  have HCS := Lib.hid (show Value.agg cs = Value.agg (clA y none 0) from by rw [hcs, HEQ.out]; unfold clA; simp only; rfl)
  have HIC := Lib.hid (show (Try.prog.info? 44).map (·.size) = some cs.size from by rw [hcs]; kernel_rfl)
  have HON := Lib.hid (show ∀ u ∈ cs.toList, u.oneCell' = true from by rw [hcs]; simp [rA, Value.oneCell'])
  have HON2 := Lib.hid (show cs.all (·.oneCell') = true from by rw [hcs]; simp [rA, Value.oneCell'])
  have R2 := Lib.hid (show Blk _ (w.heap.size + 1) cs 44 from by rw [hcs]; exact R.out)
  clear R hcs
  go_wp2_with (first
    | (refine wpList_load_row rfl 44 (.tmp 2) rfl (w.heap.size + 1) rfl 44 cs (0, 0) _ R2.out Try.underlying44 rfl HIC.out ?_)
    | (refine wpList_store_row rfl 44 (.tmp 2) (.tmp 66) rfl (w.heap.size + 1) cs rfl rfl 44 cs R2.out HIC.out rfl HON2.out ?_))
  refine bodyPost_ret (v := .agg cs) (results_cell_row Try.results80 _ _ (w.heap.size + 1) 44 cs (0, 0) _ rfl (setRow_heap _ _ _ _ _ _ R2.out) Try.underlying44 rfl HIC.out) rfl ?_
  refine ⟨none, 0, by rw [HCS.out], ?_, below_setRow BL.out (by omega) _⟩
  have hyb : y.body = [] := by rw [HEQ.out]
  rw [hyb]
  exact World.ownsRow_nil _ _ _ _
end Go.Proofs.Ythdmdlnndbjcoaa.Ce
/-
  Decode, as cell tells it: the cell with whose bytes some bytes begin, and those behind it.
-/
namespace Go.Proofs.Ythdmdlnndbjcoaa.Ce
open Go.RowKit
attribute [local go_sem ↓] Go.wp_at_zero Go.wp_at_succ
theorem read_any {B : Nat} (A : Option Addr) (n c : Nat) (l : List UInt8) (w : World) (hn : l.length = n) (hcap : n ≤ c ∧ c ≤ maxLen) (hr : Rd B w A (bv l)) (hB : B ≤ w.heap.size) (hk : isKind ((l.getD 0 0).toNat : Int) = true) (hl : headN ((l.getD 0 0).toNat : Int) ≤ n) (hm : n ≤ 1000000) :
    Calls Try.prog 80 #[.slice A n c] w (RetCl (readCl ((l.getD 0 0).toNat : Int) l) w) := by
  obtain ⟨k, hK⟩ : ∃ k : Int, k = ((l.getD 0 0).toNat : Int) := ⟨_, rfl⟩
  rw [← hK] at hk hl ⊢
  have h8 : 1 ≤ k ∧ k ≤ 8 := by simpa [isKind] using hk
  have e8 : k = 1 ∨ k = 2 ∨ k = 3 ∨ k = 4 ∨ k = 5 ∨ k = 6 ∨ k = 7 ∨ k = 8 := by omega
  rcases e8 with rfl | rfl | rfl | rfl | rfl | rfl | rfl | rfl
  · exact read_wb 1 (by omega) A n c l w hn hcap hr hB hK.symm hl hm
  · exact read_wn 2 (by omega) A n c l w hn hcap hr hB hK.symm hl hm
  · exact read_wb 3 (by omega) A n c l w hn hcap hr hB hK.symm hl hm
  · exact read_wn 4 (by omega) A n c l w hn hcap hr hB hK.symm hl hm
  · exact read_dr 5 (by omega) A n c l w hn hcap hr hB hK.symm hl hm
  · exact read_ho 6 (by omega) A n c l w hn hcap hr hB hK.symm hl hm
  · exact read_li 7 (by omega) A n c l w hn hcap hr hB hK.symm hl hm
  · exact read_ma 8 (by omega) A n c l w hn hcap hr hB hK.symm hl hm
/-- It returns the cell y, the bytes r behind it, both in new memory, and an error. -/
def RetDec (y : Cl) (r : List UInt8) (k : Int) (w : World) (e : Ending) (w' : World) : Prop :=
  ∃ A c A2 c2, e = .returned (.tuple #[.agg (clA y A c), .slice A2 r.length c2, .int .i64 k]) ∧ w'.ownsRow w.heap.size 5 1 (.slice A y.body.length c) y.body.length (bv y.body) ∧ w'.ownsRow w.heap.size 5 1 (.slice A2 r.length c2) r.length (bv r) ∧ Below w.heap.size w w' ∧
    ∀ q, (Value.slice A y.body.length c).ownBlock = some q → (Value.slice A2 r.length c2).ownBlock ≠ some q
theorem results_ctt {P : Program} {fn : Func} {p u v : Tmp} {ty : TypeId} (h : fn.results = #[.cell p ty, .tmp u, .tmp v]) (tmps : Array Value) (w : World) (g : Nat) (t : TypeId) (cs : Array Value) (d : TypeDesc)
    (hp : tmps.getD p undef = .pointer (some ⟨g, 0, none⟩)) (hg : Blk w g cs t)
    (hu : P.underlying ty = some d) (hd : (match d with | .struct _ | .array _ _ => true | _ => false) = true) (hi : (P.info? ty).map (·.size) = some cs.size) :
    (results fn tmps).run P w = .ok (.tuple #[.agg cs, tmps.getD u undef, tmps.getD v undef]) w := by
  have hp' : tmps[p]?.getD undef = .pointer (some ⟨g, 0, none⟩) := by simpa using hp
  simp [results, h, hp', asAddr, run_loadVar_row w g t ty cs (0, 0) d hg hu hd hi]
theorem zeroCl_A : clA zeroCl none 0 = #[.int .i64 0, .int .u64 0, .int .i64 0, .int .i64 0, .int .i64 0, .int .i64 0, .int .u64 0, .int .i64 0, .int .i64 0, .int .i64 0, .slice none 0 0] := rfl
theorem retDec_zero {k : Int} {w : World} {e : Ending} {w' : World} (h : e = .returned (.tuple #[.agg (clA zeroCl none 0), .slice none 0 0, .int .i64 k])) (hb : Below w.heap.size w w') : RetDec zeroCl [] k w e w' :=
  ⟨none, 0, none, 0, h, World.ownsRow_nil _ _ _ _, World.ownsRow_nil _ _ _ _, hb, fun q hq => by cases hq⟩
/-- What Decode tells of b. -/
theorem sizeCl_kind {l : List UInt8} {n : Nat} (h : sizeCl l = (n, 0)) : isKind ((l.getD 0 0).toNat : Int) = true ∧ headN ((l.getD 0 0).toNat : Int) ≤ n := by
  cases l with
  | nil => simp [sizeCl] at h
  | cons x t =>
    obtain ⟨h1, _, h3⟩ := size_byte h
    simp only [List.getD_cons_zero]
    exact ⟨by simpa [isKind] using h1, by omega⟩
set_option maxRecDepth 100000 in
set_option maxHeartbeats 12800000 in
theorem decode_any {B : Nat} (A : Option Addr) (n c : Nat) (l : List UInt8) (w : World) (hn : l.length = n) (hcap : n ≤ c ∧ c ≤ maxLen) (hr : Rd B w A (bv l)) (hB : B ≤ w.heap.size) (hm : n ≤ 1000000) :
    Calls Try.prog 44 #[.slice A n c] w (RetDec (decCl l).1 (if (decCl l).2.2 = 0 then l.drop (decCl l).2.1 else []) ((decCl l).2.2 : Int) w) := by
  obtain ⟨zc, hzc⟩ : ∃ zc, zc = clA zeroCl none 0 := ⟨_, rfl⟩
  have hzv : ∀ W, (zeroValue 44).run Try.prog W = .ok (.agg zc) W := fun _ => by rw [hzc]; kernel_rfl
  have HBZ := Lib.hid (show ∀ W, (Instr.build 44 #[]).run Try.prog W = .ok (.agg zc) W from fun _ => by rw [hzc]; kernel_rfl)
  have HIZ := Lib.hid (show (Try.prog.info? 44).map (·.size) = some zc.size from by rw [hzc]; kernel_rfl)
  have HOZ := Lib.hid (show zc.all (·.oneCell') = true from by rw [hzc]; simp [clA, Value.oneCell'])
  have HZ := Lib.hid hzc
  obtain ⟨S, hS⟩ : ∃ S, S = sizeCl l := ⟨_, rfl⟩
  have HSI := Lib.hid (show ∀ W, Below w.heap.size w W → Calls Try.prog 79 #[.slice A n c] W (RetB (.tuple #[.int .i64 (S.1 : Int), .int .i64 (S.2 : Int)]) W) from fun W hb => by rw [hS]; exact sizeIn_any A n c l W hn (hr.below (hb.mono hB)) (Nat.le_trans hB hb.size) hm)
  obtain ⟨w0, hw0⟩ : ∃ w0, w0 = w.alloc (.cells zc 44) := ⟨_, rfl⟩
  have BL := Lib.hid (show Below w.heap.size w w0 from by rw [hw0]; exact bel1 _ _)
  have RZ := Lib.hid (show Blk w0 w.heap.size zc 44 from by rw [hw0]; exact heap_alloc_new _ _)
  obtain ⟨s1, s2⟩ := S
  obtain ⟨Y, hY⟩ : ∃ Y, Y = (decCl l).1 := ⟨_, rfl⟩
  obtain ⟨RR, hRR⟩ : ∃ R, R = if (decCl l).2.2 = 0 then l.drop (decCl l).2.1 else [] := ⟨_, rfl⟩
  obtain ⟨KK, hKK⟩ : ∃ K, K = (decCl l).2.2 := ⟨_, rfl⟩
  rw [← hY, ← hRR, ← hKK]
  by_cases h2 : s2 = 0
  · subst h2
    obtain ⟨hk1, hk2⟩ := sizeCl_kind hS.symm
    have hsl := sizeCl_le hS.symm
    obtain ⟨y, hy⟩ : ∃ y, y = readCl ((l.getD 0 0).toNat : Int) (l.take s1) := ⟨_, rfl⟩
    obtain ⟨lt, hlt⟩ : ∃ lt, lt = l.take s1 := ⟨_, rfl⟩
    have hg0 : lt.getD 0 0 = l.getD 0 0 := by
      obtain ⟨m, hm2⟩ : ∃ m, s1 = m + 1 := ⟨s1 - 1, by omega⟩
      rw [hlt, hm2]; cases l <;> simp
    have hltn : lt.length = s1 := by rw [hlt, List.length_take]; omega
    have HRC := Lib.hid (show ∀ W, Below w.heap.size w W → Calls Try.prog 80 #[.slice A s1 c] W (RetCl y W) from fun W hb => by
      have h := read_any A s1 c lt W hltn (by omega) (by rw [hlt]; exact (hr.below (hb.mono hB)).take s1) (Nat.le_trans hB hb.size) (by rw [hg0]; exact hk1) (by rw [hg0]; exact hk2) (by omega)
      rw [hg0, hlt, ← hy] at h
      exact h)
    have hde : decCl l = if okCl y then (y, s1, 0) else (zeroCl, 0, 3) := by unfold decCl; rw [← hS]; simp only [if_pos]; rw [← hy]
    have HYES := Lib.hid (show okCl y → Y = y ∧ RR = l.drop s1 ∧ KK = 0 from fun h => by rw [hde, if_pos h] at hY hRR hKK; exact ⟨hY, by rw [hRR]; rfl, hKK⟩)
    have HNO := Lib.hid (show ¬ okCl y → Y = zeroCl ∧ RR = [] ∧ KK = 3 from fun h => by rw [hde, if_neg h] at hY hRR hKK; exact ⟨hY, by rw [hRR]; rfl, hKK⟩)
    have HRD := Lib.hid (hr.more hB)
    have HCAP := Lib.hid hcap
    have HYthdmdlnndbjcoaa := Lib.hid hn
    have HSL := Lib.hid (show s1 ≤ n from by rw [← hn]; exact hsl.1)
    have HMM := Lib.hid hm
    have HS7 := Lib.hid (show 7 ≤ s1 from hsl.2)
    have HBB := Lib.hid hB
    have t0 : (0 : Int) ≤ (s1 : Int) := by omega
    have t1 : (s1 : Int) ≤ (n : Int) := by have := HSL.out; omega
    have t2 : (n : Int) ≤ (c : Int) := by have := HCAP.out; omega
    have t3 : (s1 : Int) ≤ (c : Int) := by omega
    clear hk1 hk2 hsl hy hlt hg0 hltn hS hn hcap hr hB hm hde hY hRR hKK hzc
    go_enter Try.func44, Try.ntmps44
    go_upto_region 1 with fail
    rw [← hw0]
    clear hw0
    go_wp2_with fail
    refine (HSI.out _ BL.out).mono ?_
    rintro e w1 ⟨rfl, bw⟩
    have RZ1 := Lib.hid (Blk.below RZ.out bw)
    have BL1 := Lib.hid (BL.out.trans (bw.mono BL.out.size))
    clear bw RZ BL
    go_wp2_with fail
    refine (HRC.out _ BL1.out).mono ?_
    rintro e w2 ⟨A2, c2, rfl, ho, bw⟩
    have RZ2 := Lib.hid (Blk.below RZ1.out bw)
    have BL2 := Lib.hid (BL1.out.trans (bw.mono BL1.out.size))
    obtain ⟨cs, hcs⟩ : ∃ cs, cs = clA y A2 c2 := ⟨_, rfl⟩
    rw [← hcs]
    have HIC := Lib.hid (show (Try.prog.info? 44).map (·.size) = some cs.size from by rw [hcs]; kernel_rfl)
    have HOC := Lib.hid (show cs.all (·.oneCell') = true from by rw [hcs]; simp [clA, Value.oneCell'])
    have HSZ := Lib.hid (show cs.size = zc.size from by rw [hcs, HZ.out]; rfl)
    have HRT := Lib.hid (show ∀ W, Calls Try.prog 48 #[.agg cs] W (RetB (.bool (decide (okCl y))) W) from fun W => by rw [hcs]; exact right_any y A2 c2 W)
    have HO := Lib.hid (own_more ho BL1.out.size)
    have HCS := Lib.hid hcs
    clear bw RZ1 BL1 ho hcs
    go_upto_region 5 with (show wpList _ _ _ ({ dst := none, op := .store 44 (.tmp 7) (.tmp 20), type := _, pos := _, after := _, guard := _ } :: _) _ _; apply Classical.byContradiction; intro hneg)
    refine hneg ?_
    clear hneg
    refine wpList_store_row rfl 44 (.tmp 7) (.tmp 20) rfl w2.heap.size cs rfl rfl 44 zc (heap_alloc_new _ _) HIC.out HSZ.out.symm HOC.out ?_
    obtain ⟨w3, hw3⟩ : ∃ v, v = (w2.alloc (.cells zc 44)).setRow w2.heap.size cs := ⟨_, rfl⟩
    obtain ⟨g3, hg3⟩ : ∃ g, g = w2.heap.size := ⟨_, rfl⟩
    rw [← hw3, ← hg3]
    have bn : Below w2.heap.size w2 w3 := by rw [hw3]; exact below_new (Below.refl _ _) (Nat.le_refl _)
    have X3 := Lib.hid (show Blk w3 g3 cs 44 from by rw [hw3, hg3]; exact setRow_heap _ _ _ _ _ _ (heap_alloc_new _ _))
    have RZ3 := Lib.hid (Blk.below RZ2.out bn)
    have BL3 := Lib.hid (BL2.out.trans (bn.mono BL2.out.size))
    have O3 := Lib.hid (own_below HO.out bn)
    have HG3 := Lib.hid (show g3 ≠ w.heap.size from by have := RZ2.out.lt; omega)
    clear bn hw3 hg3 RZ2 BL2 HO
    go_wp2_with (refine wpList_load_row rfl 44 (.tmp 7) rfl g3 rfl 44 cs (0, 0) _ X3.out Try.underlying44 rfl HIC.out ?_)
    refine (HRT.out _).mono ?_
    rintro e w4 ⟨rfl, bw⟩
    have X4 := Lib.hid (Blk.below X3.out bw)
    have RZ4 := Lib.hid (Blk.below RZ3.out bw)
    have BL4 := Lib.hid (BL3.out.trans (bw.mono BL3.out.size))
    have O4 := Lib.hid (own_below O3.out bw)
    clear bw X3 RZ3 BL3 O3
    by_cases ok : okCl y
    · obtain ⟨e1, e2, e3⟩ := HYES.out ok
      have E1 := Lib.hid e1
      have E2 := Lib.hid e2
      have E3 := Lib.hid e3
      rw [decide_eq_true ok]
      clear e1 e2 e3 ok
      obtain ⟨ad, rfl, had, hqq⟩ := HRD.out.at_ (k := 0) (by have := HYthdmdlnndbjcoaa.out; have := HSL.out; have := HS7.out; omega)
      clear had hqq
      have HLD := Lib.hid (show (l.drop s1).length = n - s1 from by rw [List.length_drop, HYthdmdlnndbjcoaa.out])
      have HBS := Lib.hid (show w.heap.size ≤ w4.drew.heap.size from BL4.out.size)
      by_cases hc : s1 = c
      · obtain rfl : s1 = c := hc
        have HRR := Lib.hid (show Rd w.heap.size w4.drew (some ad) (bv (l.drop s1)) from by rw [show l.drop s1 = [] from List.drop_of_length_le (by rw [HYthdmdlnndbjcoaa.out]; have := HCAP.out; have := HSL.out; omega)]; exact Rd.none)
        go_upto_region 7 with fail
        refine wp_region_held_drew (S := (fun w' => Blk w' g3 cs 44 ∧ (∃ z : Array Value, z.size = cs.size ∧ Blk w' w.heap.size z 44) ∧ Below w.heap.size w w')) (by kernel_rfl) ⟨(show Blk w4.drew g3 cs 44 from X4.out), ⟨zc, HSZ.out.symm, (show Blk w4.drew w.heap.size zc 44 from RZ4.out)⟩, BL4.out.drew⟩ (fun hh => ?_)
        have HH := Lib.hid hh
        clear hh
        try simp only [List.getElem_toArray, List.getElem_cons_succ, List.getElem_cons_zero, Act.put, List.setIfInBounds_toArray, List.set_cons_zero, List.set_cons_succ]
        refine wpAnyH_take (i := 0) (v := .agg cs) rfl (by kernel_rfl) (by kernel_rfl) (by kernel_rfl) (fun _ _ _ h => h) (Or.inl ⟨by rfl, fun w' hw' => ?yE0⟩) HH.out ?_
        case yE0 => exact exec_load 44 (.tmp 7) rfl rfl hw'.1 Try.underlying44 rfl HIC.out
        refine wpAnyH_take (i := 1) (v := ?vE1) rfl (by kernel_rfl) (by kernel_rfl) (by kernel_rfl) (fun _ _ _ h => h) (Or.inl ⟨by rfl, fun w' _ => ?yE1⟩) HH.out ?_
        case yE1 => (go_simp; try with_reducible rfl)
        try simp only [List.getElem_toArray, List.getElem_cons_succ, List.getElem_cons_zero, Act.put, List.setIfInBounds_toArray, List.set_cons_zero, List.set_cons_succ]
        refine wpAnyH_take (i := 2) (v := ?vE2) rfl (by kernel_rfl) (by kernel_rfl) (by kernel_rfl) (fun _ _ _ h => h) (Or.inl ⟨by rfl, fun w' _ => ?yE2⟩) HH.out ?_
        case yE2 => (go_simp; try with_reducible rfl)
        try simp only [List.getElem_toArray, List.getElem_cons_succ, List.getElem_cons_zero, Act.put, List.setIfInBounds_toArray, List.set_cons_zero, List.set_cons_succ]
        refine wpAnyH_take (i := 3) (v := .slice (some ad) (n - s1) 0) rfl (by kernel_rfl) (by kernel_rfl) (by kernel_rfl) (fun _ _ _ h => h) (Or.inl ⟨by rfl, fun w' hw' => ?yE3⟩) HH.out ?_
        case yE3 => (go_simp; try with_reducible rfl)
        try simp only [List.getElem_toArray, List.getElem_cons_succ, List.getElem_cons_zero, Act.put, List.setIfInBounds_toArray, List.set_cons_zero, List.set_cons_succ]
        refine wpAnyH_ready (rs := [4]) (by kernel_rfl) (by simp) (AllReadyH.cons rfl (fun K hK => ?_) AllReadyH.nil)
        go_simp
        refine (Sx.clone_any (B := w.heap.size) _ (n - s1) _ (l.drop s1) _ HLD.out (by have := BL4.out.size; exact this) HRR.out (by have := HMM.out; omega)).mono ?_
        rintro e w5 ⟨A5, n5, c5, rfl, ho5, bw⟩
        obtain rfl : n - s1 = n5 := by have h1 := own_blen ho5; rw [HLD.out] at h1; exact h1
        have X5 := Lib.hid (Blk.below (w := w4.drew) X4.out bw)
        have RZ5 := Lib.hid (Blk.below (w := w4.drew) RZ4.out bw)
        have BL5 := Lib.hid (BL4.out.drew.trans (bw.mono BL4.out.size))
        have O5 := Lib.hid (own_below (w := w4.drew) O4.out bw)
        have Q5 := Lib.hid ho5
        have HLT5 := Lib.hid (fun q hq => (O4.out.lt q hq).2)
        clear ho5 bw
        go_simp
        refine hK.out _ _ ⟨X5.out, ⟨zc, HSZ.out.symm, RZ5.out⟩, BL5.out⟩ (fun hh => ?_)
        have HH' := Lib.hid hh
        clear hh hK K HH X4 RZ4 BL4 O4
        have HH := Lib.hid HH'.out
        clear HH'
        try simp only [List.getElem_toArray, List.getElem_cons_succ, List.getElem_cons_zero, Act.put, List.setIfInBounds_toArray, List.set_cons_zero, List.set_cons_succ]
        try simp only [List.getElem_toArray, List.getElem_cons_succ, List.getElem_cons_zero, Act.put, List.setIfInBounds_toArray, List.set_cons_zero, List.set_cons_succ]
        refine wpAnyH_ready (rs := [5]) (by kernel_rfl) (by simp) (AllReadyH.cons rfl (fun K hK => ?_) AllReadyH.nil)
        rw [if_pos (by rfl)]
        refine wp_store_row 44 (.tmp 2) (.tmp 25) rfl w.heap.size cs rfl rfl 44 zc RZ5.out HIC.out HSZ.out.symm HOC.out ?_
        obtain ⟨w6, hw6⟩ : ∃ v, v = w5.setRow w.heap.size cs := ⟨_, rfl⟩
        rw [← hw6]
        have hbs : But (fun q => q = w.heap.size) w5 w6 := by rw [hw6]; exact (But.refl (S := fun q => q = w.heap.size) w5).setRow (.inl rfl) _
        have RC := Lib.hid (show Blk w6 w.heap.size cs 44 from by rw [hw6]; exact setRow_heap _ _ _ _ _ _ RZ5.out)
        have X6 := Lib.hid (X5.out.but hbs HG3.out)
        have BL6 := Lib.hid (show Below w.heap.size w w6 from by rw [hw6]; exact below_setRow BL5.out (Nat.le_refl _) _)
        have NT : ∀ {A : Option Addr} {c m : Nat} {xs : List Value} {k : Nat}, w5.ownsRow k 5 1 (.slice A m c) m xs → ∀ q, (Value.slice A m c).ownBlock = some q → q ≠ w.heap.size := fun ho q hq e => by
          obtain ⟨_, cs', hc⟩ := row_typeC ho q hq
          have hx : w5.heap[w.heap.size]? = some (.cells _ 44 (0, 0)) := RZ5.out
          rw [e, hx] at hc
          injection hc with hc; injection hc with _ hc; exact absurd hc (by decide)
        have O6 := Lib.hid (Own.but O5.out hbs (NT O5.out))
        have Q6 := Lib.hid (Own.but Q5.out hbs (NT Q5.out))
        have SEP := Lib.hid (show ∀ q, (Value.slice A2 y.body.length c2).ownBlock = some q → (Value.slice A5 (n - s1) c5).ownBlock ≠ some q from fun q hq e => by
          have h1 := HLT5.out q hq
          have h2 := (row_typeC Q5.out q e).1
          have h3 : w4.drew.heap.size = w4.heap.size := rfl
          omega)
        refine hK.out _ _ ⟨X6.out, ⟨cs, rfl, RC.out⟩, BL6.out⟩ (fun hh => ?_)
        have HH' := Lib.hid hh
        clear hh hK K HH X5 RZ5 BL5 O5 hw6 hbs NT
        have HH := Lib.hid HH'.out
        clear HH'
        refine wpAnyH_take (i := 6) (v := ?vE6) rfl (by kernel_rfl) (by kernel_rfl) (by kernel_rfl) (fun _ _ _ h => h) (Or.inl ⟨by rfl, fun w' _ => ?yE6⟩) HH.out ?_
        case yE6 => (go_simp; try with_reducible rfl)
        refine wpAnyH_take (i := 7) (v := ?vE7) rfl (by kernel_rfl) (by kernel_rfl) (by kernel_rfl) (fun _ _ _ h => h) (Or.inl ⟨by rfl, fun w' _ => ?yE7⟩) HH.out ?_
        case yE7 => (go_simp; try with_reducible rfl)
        try simp only [List.getElem_toArray, List.getElem_cons_succ, List.getElem_cons_zero, Act.put, List.setIfInBounds_toArray, List.set_cons_zero, List.set_cons_succ]
        refine wpAnyH_done (by kernel_rfl) ?_ _
        go_wp2_with fail
        refine bodyPost_ret (v := .tuple #[.agg cs, .slice A5 (n - s1) c5, .int .i64 0]) (results_ctt Try.results44 _ _ w.heap.size 44 cs _ rfl RC.out Try.underlying44 rfl HIC.out) rfl ?_
        rw [E1.out, E2.out, E3.out]
        refine ⟨A2, c2, A5, c5, by rw [HCS.out, HLD.out]; rfl, O6.out, ?_, BL6.out, ?_⟩
        · rw [HLD.out]; exact own_more Q6.out (by have := HBS.out; exact this)
        · rw [HLD.out]; exact SEP.out
      · have hc2 : ¬ c = s1 := fun e => hc e.symm
        have hc3 : ((c : Int) - (s1 : Int) = 0) = False := by simp; omega
        have HRR := Lib.hid (show Rd w.heap.size w4.drew (some (ad.add s1)) (bv (l.drop s1)) from (HRD.out.below BL4.out.drew).drop s1)
        go_upto_region 7 with fail
        refine wp_region_held_drew (S := (fun w' => Blk w' g3 cs 44 ∧ (∃ z : Array Value, z.size = cs.size ∧ Blk w' w.heap.size z 44) ∧ Below w.heap.size w w')) (by kernel_rfl) ⟨(show Blk w4.drew g3 cs 44 from X4.out), ⟨zc, HSZ.out.symm, (show Blk w4.drew w.heap.size zc 44 from RZ4.out)⟩, BL4.out.drew⟩ (fun hh => ?_)
        have HH := Lib.hid hh
        clear hh
        try simp only [List.getElem_toArray, List.getElem_cons_succ, List.getElem_cons_zero, Act.put, List.setIfInBounds_toArray, List.set_cons_zero, List.set_cons_succ]
        refine wpAnyH_take (i := 0) (v := .agg cs) rfl (by kernel_rfl) (by kernel_rfl) (by kernel_rfl) (fun _ _ _ h => h) (Or.inl ⟨by rfl, fun w' hw' => ?yN0⟩) HH.out ?_
        case yN0 => exact exec_load 44 (.tmp 7) rfl rfl hw'.1 Try.underlying44 rfl HIC.out
        refine wpAnyH_take (i := 1) (v := ?vN1) rfl (by kernel_rfl) (by kernel_rfl) (by kernel_rfl) (fun _ _ _ h => h) (Or.inl ⟨by rfl, fun w' _ => ?yN1⟩) HH.out ?_
        case yN1 => (go_simp; try with_reducible rfl)
        try simp only [List.getElem_toArray, List.getElem_cons_succ, List.getElem_cons_zero, Act.put, List.setIfInBounds_toArray, List.set_cons_zero, List.set_cons_succ]
        refine wpAnyH_take (i := 2) (v := ?vN2) rfl (by kernel_rfl) (by kernel_rfl) (by kernel_rfl) (fun _ _ _ h => h) (Or.inl ⟨by rfl, fun w' _ => ?yN2⟩) HH.out ?_
        case yN2 => (go_simp; try with_reducible rfl)
        try simp only [List.getElem_toArray, List.getElem_cons_succ, List.getElem_cons_zero, Act.put, List.setIfInBounds_toArray, List.set_cons_zero, List.set_cons_succ]
        refine wpAnyH_take (i := 3) (v := .slice (some (ad.add s1)) (n - s1) (c - s1)) rfl (by kernel_rfl) (by kernel_rfl) (by kernel_rfl) (fun _ _ _ h => h) (Or.inl ⟨by rfl, fun w' hw' => ?yN3⟩) HH.out ?_
        case yN3 => (go_simp; try with_reducible rfl)
        try simp only [List.getElem_toArray, List.getElem_cons_succ, List.getElem_cons_zero, Act.put, List.setIfInBounds_toArray, List.set_cons_zero, List.set_cons_succ]
        refine wpAnyH_ready (rs := [4]) (by kernel_rfl) (by simp) (AllReadyH.cons rfl (fun K hK => ?_) AllReadyH.nil)
        go_simp
        refine (Sx.clone_any (B := w.heap.size) _ (n - s1) _ (l.drop s1) _ HLD.out (by have := BL4.out.size; exact this) HRR.out (by have := HMM.out; omega)).mono ?_
        rintro e w5 ⟨A5, n5, c5, rfl, ho5, bw⟩
        obtain rfl : n - s1 = n5 := by have h1 := own_blen ho5; rw [HLD.out] at h1; exact h1
        have X5 := Lib.hid (Blk.below (w := w4.drew) X4.out bw)
        have RZ5 := Lib.hid (Blk.below (w := w4.drew) RZ4.out bw)
        have BL5 := Lib.hid (BL4.out.drew.trans (bw.mono BL4.out.size))
        have O5 := Lib.hid (own_below (w := w4.drew) O4.out bw)
        have Q5 := Lib.hid ho5
        have HLT5 := Lib.hid (fun q hq => (O4.out.lt q hq).2)
        clear ho5 bw
        go_simp
        refine hK.out _ _ ⟨X5.out, ⟨zc, HSZ.out.symm, RZ5.out⟩, BL5.out⟩ (fun hh => ?_)
        have HH' := Lib.hid hh
        clear hh hK K HH X4 RZ4 BL4 O4
        have HH := Lib.hid HH'.out
        clear HH'
        try simp only [List.getElem_toArray, List.getElem_cons_succ, List.getElem_cons_zero, Act.put, List.setIfInBounds_toArray, List.set_cons_zero, List.set_cons_succ]
        try simp only [List.getElem_toArray, List.getElem_cons_succ, List.getElem_cons_zero, Act.put, List.setIfInBounds_toArray, List.set_cons_zero, List.set_cons_succ]
        refine wpAnyH_ready (rs := [5]) (by kernel_rfl) (by simp) (AllReadyH.cons rfl (fun K hK => ?_) AllReadyH.nil)
        rw [if_pos (by rfl)]
        refine wp_store_row 44 (.tmp 2) (.tmp 25) rfl w.heap.size cs rfl rfl 44 zc RZ5.out HIC.out HSZ.out.symm HOC.out ?_
        obtain ⟨w6, hw6⟩ : ∃ v, v = w5.setRow w.heap.size cs := ⟨_, rfl⟩
        rw [← hw6]
        have hbs : But (fun q => q = w.heap.size) w5 w6 := by rw [hw6]; exact (But.refl (S := fun q => q = w.heap.size) w5).setRow (.inl rfl) _
        have RC := Lib.hid (show Blk w6 w.heap.size cs 44 from by rw [hw6]; exact setRow_heap _ _ _ _ _ _ RZ5.out)
        have X6 := Lib.hid (X5.out.but hbs HG3.out)
        have BL6 := Lib.hid (show Below w.heap.size w w6 from by rw [hw6]; exact below_setRow BL5.out (Nat.le_refl _) _)
        have NT : ∀ {A : Option Addr} {c m : Nat} {xs : List Value} {k : Nat}, w5.ownsRow k 5 1 (.slice A m c) m xs → ∀ q, (Value.slice A m c).ownBlock = some q → q ≠ w.heap.size := fun ho q hq e => by
          obtain ⟨_, cs', hc⟩ := row_typeC ho q hq
          have hx : w5.heap[w.heap.size]? = some (.cells _ 44 (0, 0)) := RZ5.out
          rw [e, hx] at hc
          injection hc with hc; injection hc with _ hc; exact absurd hc (by decide)
        have O6 := Lib.hid (Own.but O5.out hbs (NT O5.out))
        have Q6 := Lib.hid (Own.but Q5.out hbs (NT Q5.out))
        have SEP := Lib.hid (show ∀ q, (Value.slice A2 y.body.length c2).ownBlock = some q → (Value.slice A5 (n - s1) c5).ownBlock ≠ some q from fun q hq e => by
          have h1 := HLT5.out q hq
          have h2 := (row_typeC Q5.out q e).1
          have h3 : w4.drew.heap.size = w4.heap.size := rfl
          omega)
        refine hK.out _ _ ⟨X6.out, ⟨cs, rfl, RC.out⟩, BL6.out⟩ (fun hh => ?_)
        have HH' := Lib.hid hh
        clear hh hK K HH X5 RZ5 BL5 O5 hw6 hbs NT
        have HH := Lib.hid HH'.out
        clear HH'
        refine wpAnyH_take (i := 6) (v := ?vN6) rfl (by kernel_rfl) (by kernel_rfl) (by kernel_rfl) (fun _ _ _ h => h) (Or.inl ⟨by rfl, fun w' _ => ?yN6⟩) HH.out ?_
        case yN6 => (go_simp; try with_reducible rfl)
        refine wpAnyH_take (i := 7) (v := ?vN7) rfl (by kernel_rfl) (by kernel_rfl) (by kernel_rfl) (fun _ _ _ h => h) (Or.inl ⟨by rfl, fun w' _ => ?yN7⟩) HH.out ?_
        case yN7 => (go_simp; try with_reducible rfl)
        try simp only [List.getElem_toArray, List.getElem_cons_succ, List.getElem_cons_zero, Act.put, List.setIfInBounds_toArray, List.set_cons_zero, List.set_cons_succ]
        refine wpAnyH_done (by kernel_rfl) ?_ _
        go_wp2_with fail
        refine bodyPost_ret (v := .tuple #[.agg cs, .slice A5 (n - s1) c5, .int .i64 0]) (results_ctt Try.results44 _ _ w.heap.size 44 cs _ rfl RC.out Try.underlying44 rfl HIC.out) rfl ?_
        rw [E1.out, E2.out, E3.out]
        refine ⟨A2, c2, A5, c5, by rw [HCS.out, HLD.out]; rfl, O6.out, ?_, BL6.out, ?_⟩
        · rw [HLD.out]; exact own_more Q6.out (by have := HBS.out; exact this)
        · rw [HLD.out]; exact SEP.out
    · obtain ⟨e1, e2, e3⟩ := HNO.out ok
      have E1 := Lib.hid e1
      have E2 := Lib.hid e2
      have E3 := Lib.hid e3
      rw [decide_eq_false ok]
      clear e1 e2 e3 ok
      go_wp2_with (first
        | (refine wpList_build rfl 44 #[] rfl (v := .agg zc) ?hbld ?_; case hbld => exact HBZ.out _)
        | (refine wpList_store_row rfl 44 (.tmp 2) (.tmp 24) rfl w.heap.size zc rfl rfl 44 zc RZ4.out HIZ.out rfl HOZ.out ?_))
      refine bodyPost_ret (v := .tuple #[.agg zc, .slice none 0 0, .int .i64 3]) (results_ctt Try.results44 _ _ w.heap.size 44 zc _ rfl (setRow_heap _ _ _ _ _ _ RZ4.out) Try.underlying44 rfl HIZ.out) rfl ?_
      rw [E1.out, E2.out, E3.out]
      exact retDec_zero (by rw [HZ.out]; rfl) (below_setRow BL4.out (Nat.le_refl _) _)
  · have hde : decCl l = (zeroCl, 0, s2) := by unfold decCl; rw [← hS]; simp only [if_neg h2]
    have E1 := Lib.hid (show Y = zeroCl from by rw [hY, hde])
    have E2 := Lib.hid (show RR = [] from by rw [hRR, hde]; simp only [if_neg h2])
    have E3 := Lib.hid (show KK = s2 from by rw [hKK, hde])
    have n2 : ((s2 : Int) == 0) = false := by simpa using h2
    have n3 : ((s2 : Int) != 0) = true := by simpa using h2
    have H2 := Lib.hid h2
    clear hde hY hRR hKK hS hn hcap hr hB hm h2 hzc
    go_enter Try.func44, Try.ntmps44
    go_upto_region 1 with fail
    rw [← hw0]
    clear hw0
    go_wp2_with fail
    refine (HSI.out _ BL.out).mono ?_
    rintro e w1 ⟨rfl, bw⟩
    have RZ1 := Lib.hid (Blk.below RZ.out bw)
    have BL1 := Lib.hid (BL.out.trans (bw.mono BL.out.size))
    clear bw RZ BL
    go_wp2_with (first
      | (refine wpList_build rfl 44 #[] rfl (v := .agg zc) ?hbld ?_; case hbld => exact HBZ.out _)
      | (refine wpList_store_row rfl 44 (.tmp 2) (.tmp 15) rfl w.heap.size zc rfl rfl 44 zc RZ1.out HIZ.out rfl HOZ.out ?_))
    refine bodyPost_ret (v := .tuple #[.agg zc, .slice none 0 0, .int .i64 s2]) (results_ctt Try.results44 _ _ w.heap.size 44 zc _ rfl (setRow_heap _ _ _ _ _ _ RZ1.out) Try.underlying44 rfl HIZ.out) rfl ?_
    rw [E1.out, E2.out, E3.out]
    exact retDec_zero (by rw [HZ.out]) (below_setRow BL1.out (Nat.le_refl _) _)
end Go.Proofs.Ythdmdlnndbjcoaa.Ce
/-
  string(b) of a row of bytes, nil let in.
-/
namespace Go.Proofs.Ythdmdlnndbjcoaa
open Go.RowKit
theorem conv_rd {P : Program} {w : World} {src dst e : TypeId} {B n c : Nat} {A : Option Addr} {l : List UInt8} (hs : P.underlying src = some (.slice e)) (he : P.underlying e = some (.int .u8)) (hd : P.underlying dst = some .string)
    (h : Rd B w A (bv l)) (hn : l.length = n) : (convert src dst (.slice A n c)).run P w = .ok (.string ⟨l.toArray⟩) w := by
  subst hn
  cases A with
  | some ad => exact run_convert_bytes_back w src dst e ad c l hs he hd (fun j hj => by
      obtain ⟨ad', e', _, hc⟩ := h.at_ hj
      injection e' with e'
      subst e'
      exact hc)
  | none =>
    have hl : l = [] := by
      cases l with
      | nil => rfl
      | cons b t => obtain ⟨_, h', _⟩ := h 0 _ rfl; cases h'
    subst hl
    show (convert src dst (.slice none 0 c)).run P w = _
    rw [run_convert_bytes_string w src dst e none 0 c hs he hd]
    trace_state
    rfl
end Go.Proofs.Ythdmdlnndbjcoaa
/-
  Whether two cells are the same, as cell and the document's answer tell it.
-/
namespace Go.Proofs.Ythdmdlnndbjcoaa.Ce
open Go.RowKit
attribute [local go_sem ↓] Go.wp_at_zero Go.wp_at_succ
theorem str_same {S T : ByteArray} {a b : List UInt8} (hS : S = ⟨a.toArray⟩) (hT : T = ⟨b.toArray⟩) : (S.toList == T.toList) = decide (a = b) := by
  have e1 : S.toList = a := by rw [hS, Lib.toList_data, List.toList_toArray]
  have e2 : T.toList = b := by rw [hT, Lib.toList_data, List.toList_toArray]
  rw [e1, e2, Bool.eq_iff_iff, beq_iff_eq, decide_eq_true_iff]
set_option maxRecDepth 100000 in
theorem bequal_any {B : Nat} {w : World} {A A' : Option Addr} {c c' n m : Nat} {a b : List UInt8} (ha : Rd B w A (bv a)) (hb : Rd B w A' (bv b)) (hn : a.length = n) (hm : b.length = m) :
    Calls Try.prog 55 #[.slice A n c, .slice A' m c'] w (RetS (.bool (decide (a = b))) w) := by
  obtain ⟨Z1, hS⟩ : ∃ Z1 : ByteArray, Z1 = ⟨a.toArray⟩ := ⟨_, rfl⟩
  obtain ⟨Z2, hT⟩ : ∃ Z2 : ByteArray, Z2 = ⟨b.toArray⟩ := ⟨_, rfl⟩
  have kc1 : (convert 34 9 (.slice A n c)).run Try.prog w = .ok (.string Z1) w := by rw [hS]; exact conv_rd Try.underlying34 Try.underlying5 Try.underlying9 ha hn
  have kc2 : (convert 34 9 (.slice A' m c')).run Try.prog w = .ok (.string Z2) w := by rw [hT]; exact conv_rd Try.underlying34 Try.underlying5 Try.underlying9 hb hm
  rw [← str_same hS hT]
  clear hS hT
  go_enter Try.func55, Try.ntmps55
  go_wp2
  go_ret
  exact ⟨rfl, rfl⟩
set_option maxRecDepth 100000 in
set_option maxHeartbeats 3200000 in
theorem same_any {B : Nat} (x y : Cl) (A A' : Option Addr) (c c' : Nat) (w : World) (ha : Rd B w A (bv x.body)) (hb : Rd B w A' (bv y.body)) (hB : B ≤ w.heap.size) :
    Calls Try.prog 26 #[.agg (clA x A c), .agg (clA y A' c')] w (RetB (.bool (decide (x = y))) w) := by
  obtain ⟨q, hq⟩ : ∃ q, q = decide (x = y) := ⟨_, rfl⟩
  rw [← hq]
  have HB := Lib.hid hq
  clear hq
  obtain ⟨w2, hw2⟩ : ∃ w2, w2 = (w.alloc (.cells (clA x A c) 44)).alloc (.cells (clA y A' c') 44) := ⟨_, rfl⟩
  have BL := Lib.hid (show Below w.heap.size w w2 from by rw [hw2]; exact bel2 _ _ _)
  have X := (show Blk w2 w.heap.size (clA x A c) 44 from by rw [hw2]; exact heap_alloc2_old _ _ _)
  have Y := (show Blk w2 (w.heap.size + 1) (clA y A' c') 44 from by rw [hw2]; exact heap_alloc2_new _ _ _)
  obtain ⟨kd, nm, mn, br, vl, bk, rf, fr, tl, un, bd⟩ := x
  obtain ⟨kd2, nm2, mn2, br2, vl2, bk2, rf2, fr2, tl2, un2, bd2⟩ := y
  simp only at ha hb
  unfold clA at X Y hw2 ⊢
  simp only at X Y hw2 ⊢
  obtain ⟨Z1, hS⟩ : ∃ Z1 : ByteArray, Z1 = ⟨bd.toArray⟩ := ⟨_, rfl⟩
  obtain ⟨Z2, hT⟩ : ∃ Z2 : ByteArray, Z2 = ⟨bd2.toArray⟩ := ⟨_, rfl⟩
  obtain ⟨n, hn⟩ : ∃ n, n = bd.length := ⟨_, rfl⟩
  obtain ⟨m, hm⟩ : ∃ m, m = bd2.length := ⟨_, rfl⟩
  have HRA := Lib.hid (ha.below (BL.out.mono hB))
  have HRB := Lib.hid (hb.below (BL.out.mono hB))
  have HNA := Lib.hid hn.symm
  have HNB := Lib.hid hm.symm
  have kc1 : (convert 34 9 (.slice A n c)).run Try.prog w2 = .ok (.string Z1) w2 := by rw [hS]; exact conv_rd Try.underlying34 Try.underlying5 Try.underlying9 HRA.out hn.symm
  have kc2 : (convert 34 9 (.slice A' m c')).run Try.prog w2 = .ok (.string Z2) w2 := by rw [hT]; exact conv_rd Try.underlying34 Try.underlying5 Try.underlying9 HRB.out hm.symm
  rw [← hn, ← hm] at hw2 ⊢
  rw [← hn] at X
  rw [← hm] at Y
  have x0 := X.cell 0
  have y0 := Y.cell 0
  have x1 := X.cell 1
  have y1 := Y.cell 1
  have x2 := X.cell 2
  have y2 := Y.cell 2
  have x3 := X.cell 3
  have y3 := Y.cell 3
  have x4 := X.cell 4
  have y4 := Y.cell 4
  have x5 := X.cell 5
  have y5 := Y.cell 5
  have x6 := X.cell 6
  have y6 := Y.cell 6
  have x7 := X.cell 7
  have y7 := Y.cell 7
  have x8 := X.cell 8
  have y8 := Y.cell 8
  have x9 := X.cell 9
  have y9 := Y.cell 9
  have x10 := X.cell 10
  have y10 := Y.cell 10
  simp at x0 x1 x2 x3 x4 x5 x6 x7 x8 x9 x10 y0 y1 y2 y3 y4 y5 y6 y7 y8 y9 y10
  have HSS := Lib.hid (str_same hS hT)
  clear hS hT hn hm X Y ha hb
  go_enter Try.func26, Try.ntmps26
  go_upto_region 1 with fail
  rw [← hw2]
  clear hw2
  go_wp2_with fail
  

  any_goals (
    refine (bequal_any HRA.out HRB.out HNA.out HNB.out).mono ?_
    rintro e w' ⟨rfl, rfl⟩
    go_wp2_with fail)
  all_goals go_ret
  all_goals refine ⟨ret_bool (bool_leaf HB.out ?_), BL.out⟩
  all_goals simp only [Cl.mk.injEq] at *
  all_goals first | omega | (simp; done) | (simp; omega) | (rw [decide_eq_true_iff]; exact ⟨fun h => ⟨by omega, by omega, by omega, by omega, by omega, by omega, by omega, by omega, by omega, by omega, h⟩, fun h => h.2.2.2.2.2.2.2.2.2.2⟩)
set_option maxRecDepth 100000 in
set_option maxHeartbeats 3200000 in
theorem csame_any {B : Nat} (x y : Cl) (A A' : Option Addr) (c c' : Nat) (w : World) (ha : Rd B w A (bv x.body)) (hb : Rd B w A' (bv y.body)) (hB : B ≤ w.heap.size) :
    Calls Try.prog 27 #[.agg (clA x A c), .agg (clA y A' c')] w (RetB (.bool (decide (x = y))) w) := by
  obtain ⟨q, hq⟩ : ∃ q, q = decide (x = y) := ⟨_, rfl⟩
  rw [← hq]
  have HB := Lib.hid hq
  clear hq
  obtain ⟨w2, hw2⟩ : ∃ w2, w2 = (w.alloc (.cells (clA x A c) 44)).alloc (.cells (clA y A' c') 44) := ⟨_, rfl⟩
  have BL := Lib.hid (show Below w.heap.size w w2 from by rw [hw2]; exact bel2 _ _ _)
  have X := (show Blk w2 w.heap.size (clA x A c) 44 from by rw [hw2]; exact heap_alloc2_old _ _ _)
  have Y := (show Blk w2 (w.heap.size + 1) (clA y A' c') 44 from by rw [hw2]; exact heap_alloc2_new _ _ _)
  obtain ⟨kd, nm, mn, br, vl, bk, rf, fr, tl, un, bd⟩ := x
  obtain ⟨kd2, nm2, mn2, br2, vl2, bk2, rf2, fr2, tl2, un2, bd2⟩ := y
  simp only at ha hb
  unfold clA at X Y hw2 ⊢
  simp only at X Y hw2 ⊢
  obtain ⟨Z1, hS⟩ : ∃ Z1 : ByteArray, Z1 = ⟨bd.toArray⟩ := ⟨_, rfl⟩
  obtain ⟨Z2, hT⟩ : ∃ Z2 : ByteArray, Z2 = ⟨bd2.toArray⟩ := ⟨_, rfl⟩
  obtain ⟨n, hn⟩ : ∃ n, n = bd.length := ⟨_, rfl⟩
  obtain ⟨m, hm⟩ : ∃ m, m = bd2.length := ⟨_, rfl⟩
  have HRA := Lib.hid (ha.below (BL.out.mono hB))
  have HRB := Lib.hid (hb.below (BL.out.mono hB))
  have HNA := Lib.hid hn.symm
  have HNB := Lib.hid hm.symm
  have kc1 : (convert 34 9 (.slice A n c)).run Try.prog w2 = .ok (.string Z1) w2 := by rw [hS]; exact conv_rd Try.underlying34 Try.underlying5 Try.underlying9 HRA.out hn.symm
  have kc2 : (convert 34 9 (.slice A' m c')).run Try.prog w2 = .ok (.string Z2) w2 := by rw [hT]; exact conv_rd Try.underlying34 Try.underlying5 Try.underlying9 HRB.out hm.symm
  rw [← hn, ← hm] at hw2 ⊢
  rw [← hn] at X
  rw [← hm] at Y
  have x0 := X.cell 0
  have y0 := Y.cell 0
  have x1 := X.cell 1
  have y1 := Y.cell 1
  have x2 := X.cell 2
  have y2 := Y.cell 2
  have x3 := X.cell 3
  have y3 := Y.cell 3
  have x4 := X.cell 4
  have y4 := Y.cell 4
  have x5 := X.cell 5
  have y5 := Y.cell 5
  have x6 := X.cell 6
  have y6 := Y.cell 6
  have x7 := X.cell 7
  have y7 := Y.cell 7
  have x8 := X.cell 8
  have y8 := Y.cell 8
  have x9 := X.cell 9
  have y9 := Y.cell 9
  have x10 := X.cell 10
  have y10 := Y.cell 10
  simp at x0 x1 x2 x3 x4 x5 x6 x7 x8 x9 x10 y0 y1 y2 y3 y4 y5 y6 y7 y8 y9 y10
  have HSS := Lib.hid (str_same hS hT)
  clear hS hT hn hm X Y ha hb
  go_enter Try.func27, Try.ntmps27
  go_upto_region 1 with fail
  rw [← hw2]
  clear hw2
  go_wp2_with fail
  

  all_goals go_ret
  all_goals refine ⟨ret_bool (bool_leaf HB.out ?_), BL.out⟩
  all_goals try rw [HSS.out]
  all_goals simp only [Cl.mk.injEq] at *
  all_goals first | omega | (simp; done) | (simp; omega) | (rw [decide_eq_true_iff]; exact ⟨fun h => ⟨by omega, by omega, by omega, by omega, by omega, by omega, by omega, by omega, by omega, by omega, h⟩, fun h => h.2.2.2.2.2.2.2.2.2.2⟩)
end Go.Proofs.Ythdmdlnndbjcoaa.Ce
/-
  Right, as the document's answer tells it: kinds 1, 2.
-/
namespace Go.Proofs.Ythdmdlnndbjcoaa.Ce
open Go.RowKit
attribute [local go_sem ↓] Go.wp_at_zero Go.wp_at_succ

set_option maxRecDepth 100000 in
set_option maxHeartbeats 6400000 in
theorem cright1 (nm : Nat) (mn br vl bk : Int) (rf : Nat) (fr tl un : Int) (bd : List UInt8) (A : Option Addr) (c : Nat) (w : World) (h1 : 1 ≤ nm) (h2 : nm ≤ 65535) (g1 : 0 ≤ mn ∧ mn ≤ 1073741824) (hr : Rd w.heap.size w A (bv bd)) :
    Calls Try.prog 20 #[.agg #[.int .i64 1, .int .u64 nm, .int .i64 mn, .int .i64 br, .int .i64 vl, .int .i64 bk, .int .u64 rf, .int .i64 fr, .int .i64 tl, .int .i64 un, .slice A bd.length c]] w (RetB (.bool (decide (kindOk ⟨1, nm, mn, br, vl, bk, rf, fr, tl, un, bd⟩))) w) := by
  obtain ⟨q, hq⟩ : ∃ q, q = decide (kindOk ⟨1, nm, mn, br, vl, bk, rf, fr, tl, un, bd⟩) := ⟨_, rfl⟩
  rw [← hq]
  have HB := Lib.hid hq
  have HRD := Lib.hid hr
  clear hq hr
  have d1 : decide ((nm : Int) < 1) = false := decide_eq_false (by omega)
  have d2 : decide ((65535 : Int) < (nm : Int)) = false := decide_eq_false (by omega)
  by_cases g3 : 1 ≤ rf
  · have e3 : decide ((rf : Int) ≥ 1) = true := decide_eq_true (by omega)
    go_enter Try.func20, Try.ntmps20
    go_wp2_with fail
    refine (cminute_any _ _).mono ?_
    rintro e w' ⟨rfl, rfl⟩
    rw [decide_eq_true g1]
    go_upto_region 8 with fail
    refine wp_region_held_drew (S := (fun w' => w'.cell? ⟨w.heap.size, 3, none⟩ = some (.int .i64 br) ∧ w'.cell? ⟨w.heap.size, 4, none⟩ = some (.int .i64 vl) ∧ w'.cell? ⟨w.heap.size, 5, none⟩ = some (.int .i64 bk) ∧ w'.cell? ⟨w.heap.size, 6, none⟩ = some (.int .u64 rf) ∧ w'.cell? ⟨w.heap.size, 7, none⟩ = some (.int .i64 fr) ∧ w'.cell? ⟨w.heap.size, 8, none⟩ = some (.int .i64 tl) ∧ w'.cell? ⟨w.heap.size, 9, none⟩ = some (.int .i64 un) ∧ w'.cell? ⟨w.heap.size, 10, none⟩ = some (.slice A bd.length c))) (by kernel_rfl) ⟨by go_simp, by go_simp, by go_simp, by go_simp, by go_simp, by go_simp, by go_simp, by go_simp⟩ (fun hh => ?_)
    have HH := Lib.hid hh
    clear hh
    refine wpAnyH_take (i := 0) (v := ?vQ10) rfl (by kernel_rfl) (by kernel_rfl) (by kernel_rfl) (fun _ _ _ h => h) (Or.inl ⟨by rfl, fun w' _ => ?yQ10⟩) HH.out ?_
    case yQ10 => (go_simp; try with_reducible rfl)
    try simp only [List.getElem_toArray, List.getElem_cons_zero, Act.put, List.setIfInBounds_toArray, List.set_cons_zero, List.set_cons_succ]
    refine wpAnyH_take (i := 1) (v := .agg #[.int .i64 br, .int .i64 vl, .int .i64 bk]) rfl (by kernel_rfl) (by kernel_rfl) (by kernel_rfl) (fun _ _ _ h => h) (Or.inl ⟨by rfl, fun w' hw' => ?yQ11⟩) HH.out ?_
    case yQ11 => (have hc3 := hw'.1; have hc4 := hw'.2.1; have hc5 := hw'.2.2.1; go_simp; try with_reducible rfl)
    try simp only [List.getElem_toArray, List.getElem_cons_succ, List.getElem_cons_zero, Act.put, List.setIfInBounds_toArray, List.set_cons_zero, List.set_cons_succ]
    refine wpAnyH_take (i := 2) (v := ?vQ12) rfl (by kernel_rfl) (by kernel_rfl) (by kernel_rfl) (fun _ _ _ h => h) (Or.inl ⟨by rfl, fun w' _ => ?yQ12⟩) HH.out ?_
    case yQ12 => (go_simp; try with_reducible rfl)
    try simp only [List.getElem_toArray, List.getElem_cons_succ, List.getElem_cons_zero, Act.put, List.setIfInBounds_toArray, List.set_cons_zero, List.set_cons_succ]
    refine wpAnyH_take (i := 3) (v := .int .u64 rf) rfl (by kernel_rfl) (by kernel_rfl) (by kernel_rfl) (fun _ _ _ h => h) (Or.inl ⟨by rfl, fun w' hw' => ?yQ13⟩) HH.out ?_
    case yQ13 => (have hc := hw'.2.2.2.1; go_simp; try with_reducible rfl)
    refine wpAnyH_take (i := 4) (v := ?vQ14) rfl (by kernel_rfl) (by kernel_rfl) (by kernel_rfl) (fun _ _ _ h => h) (Or.inl ⟨by rfl, fun w' _ => ?yQ14⟩) HH.out ?_
    case yQ14 => (go_simp; try with_reducible rfl)
    try simp only [List.getElem_toArray, List.getElem_cons_succ, List.getElem_cons_zero, Act.put, List.setIfInBounds_toArray, List.set_cons_zero, List.set_cons_succ]
    try simp only [List.getElem_toArray, List.getElem_cons_succ, List.getElem_cons_zero, Act.put, List.setIfInBounds_toArray, List.set_cons_zero, List.set_cons_succ]
    refine wpAnyH_take (i := 5) (v := .slice A bd.length c) rfl (by kernel_rfl) (by kernel_rfl) (by kernel_rfl) (fun _ _ _ h => h) (Or.inl ⟨by rfl, fun w' hw' => ?yQ15⟩) HH.out ?_
    case yQ15 => (have hc := hw'.2.2.2.2.2.2.2; go_simp; try with_reducible rfl)
    refine wpAnyH_take (i := 6) (v := ?vQ16) rfl (by kernel_rfl) (by kernel_rfl) (by kernel_rfl) (fun _ _ _ h => h) (Or.inl ⟨by rfl, fun w' _ => ?yQ16⟩) HH.out ?_
    case yQ16 => (go_simp; try with_reducible rfl)
    try simp only [List.getElem_toArray, List.getElem_cons_succ, List.getElem_cons_zero, Act.put, List.setIfInBounds_toArray, List.set_cons_zero, List.set_cons_succ]
    refine wpAnyH_ready (rs := [7]) (by kernel_rfl) (by simp) (AllReadyH.cons rfl (fun K hK => ?_) AllReadyH.nil)
    go_simp
    refine hK.out _ _ ⟨by go_simp, by go_simp, by go_simp, by go_simp, by go_simp, by go_simp, by go_simp, by go_simp⟩ (fun hh => ?_)
    have HH' := Lib.hid hh
    clear hh hK K HH
    have HH := Lib.hid HH'.out
    clear HH'
    try simp only [List.getElem_toArray, List.getElem_cons_succ, List.getElem_cons_zero, Act.put, List.setIfInBounds_toArray, List.set_cons_zero, List.set_cons_succ]
    refine wpAnyH_take (i := 8) (v := ?vQ18) rfl (by kernel_rfl) (by kernel_rfl) (by kernel_rfl) (fun _ _ _ h => h) (Or.inl ⟨by rfl, fun w' _ => ?yQ18⟩) HH.out ?_
    case yQ18 => (go_simp; try with_reducible rfl)
    try simp only [List.getElem_toArray, List.getElem_cons_succ, List.getElem_cons_zero, Act.put, List.setIfInBounds_toArray, List.set_cons_zero, List.set_cons_succ]
    refine wpAnyH_ready (rs := [9]) (by kernel_rfl) (by simp) (AllReadyH.cons rfl (fun K hK => ?_) AllReadyH.nil)
    go_simp
    refine hK.out _ _ ⟨by go_simp, by go_simp, by go_simp, by go_simp, by go_simp, by go_simp, by go_simp, by go_simp⟩ (fun hh => ?_)
    have HH' := Lib.hid hh
    clear hh hK K HH
    have HH := Lib.hid HH'.out
    clear HH'
    refine wpAnyH_take (i := 10) (v := ?vQ110) rfl (by kernel_rfl) (by kernel_rfl) (by kernel_rfl) (fun _ _ _ h => h) (Or.inl ⟨by rfl, fun w' _ => ?yQ110⟩) HH.out ?_
    case yQ110 => (go_simp; try with_reducible rfl)
    try simp only [List.getElem_toArray, List.getElem_cons_succ, List.getElem_cons_zero, Act.put, List.setIfInBounds_toArray, List.set_cons_zero, List.set_cons_succ]
    try simp only [List.getElem_toArray, List.getElem_cons_succ, List.getElem_cons_zero, Act.put, List.setIfInBounds_toArray, List.set_cons_zero, List.set_cons_succ]
    refine wpAnyH_ready (rs := [11]) (by kernel_rfl) (by simp) (AllReadyH.cons rfl (fun K hK => ?_) AllReadyH.nil)
    go_simp
    refine hK.out _ _ ⟨by go_simp, by go_simp, by go_simp, by go_simp, by go_simp, by go_simp, by go_simp, by go_simp⟩ (fun hh => ?_)
    have HH' := Lib.hid hh
    clear hh hK K HH
    have HH := Lib.hid HH'.out
    clear HH'
    try simp only [List.getElem_toArray, List.getElem_cons_succ, List.getElem_cons_zero, Act.put, List.setIfInBounds_toArray, List.set_cons_zero, List.set_cons_succ]
    refine wpAnyH_done (by kernel_rfl) ?_ _
    go_wp2_with fail
    refine (cthere_any _ _ _ _).mono ?_
    rintro e w' ⟨rfl, rfl⟩
    by_cases hc2 : (0 ≤ br ∧ br ≤ 15) ∧ (0 ≤ vl ∧ vl ≤ 7) ∧ 0 ≤ bk ∧ bk ≤ 255
    · rw [decide_eq_true hc2]
      go_wp2_with fail
      try any_goals (
        refine (csame_any ⟨1, nm, mn, br, vl, bk, rf, fr, tl, un, bd⟩ ⟨1, nm, mn, br, vl, bk, rf, 0, 0, 0, bd⟩ A A c c _ (HRD.out.below (by first | exact bel2 _ _ _ | exact (bel2 _ _ _).drew | exact bel3 _ _ _ _ | exact (bel3 _ _ _ _).drew | exact (bel4 _ _ _ _ _).drew | exact (bel2 _ _ _).drew.alloc (by simp <;> omega) _ | exact ((bel2 _ _ _).drew.alloc (by simp <;> omega) _).drew)) (HRD.out.below (by first | exact bel2 _ _ _ | exact (bel2 _ _ _).drew | exact bel3 _ _ _ _ | exact (bel3 _ _ _ _).drew | exact (bel4 _ _ _ _ _).drew | exact (bel2 _ _ _).drew.alloc (by simp <;> omega) _ | exact ((bel2 _ _ _).drew.alloc (by simp <;> omega) _).drew)) (by simp <;> omega)).mono ?_
        rintro e w' ⟨rfl, bw⟩
        go_wp2_with fail
        go_ret
        refine ⟨ret_bool (bool_leaf HB.out ?_), (show Below w.heap.size w _ from (by first | exact bel2 _ _ _ | exact (bel2 _ _ _).drew | exact bel3 _ _ _ _ | exact (bel3 _ _ _ _).drew | exact (bel4 _ _ _ _ _).drew | exact (bel2 _ _ _).drew.alloc (by simp <;> omega) _ | exact ((bel2 _ _ _).drew.alloc (by simp <;> omega) _).drew)).trans (bw.mono (by simp <;> omega))⟩
        try simp only [decide_eq_true_eq] at *
        unfold kindOk thereC elderC noS noP minC
        try simp only
        first | omega | (simp only [Int.reduceEq, true_and, false_and, or_false, Bool.and_eq_true, decide_eq_true_eq, ne_eq]; first | omega | (constructor <;> intro hz <;> omega)) | (simp; omega) | (simp_all; done) | (simp_all; omega))
      all_goals go_ret
      all_goals exact ⟨ret_bool (bool_leaf HB.out (by (try simp only [beq_iff_eq, beq_eq_false_iff_ne, ne_eq] at *); unfold kindOk thereC elderC noS noP minC; (try simp only [Int.reduceEq, true_and, false_and, or_false]); first | omega | (simp; done) | (simp; omega) | (simp_all; done) | (simp_all; omega))), (by first | exact bel2 _ _ _ | exact (bel2 _ _ _).drew | exact bel3 _ _ _ _ | exact (bel3 _ _ _ _).drew | exact (bel4 _ _ _ _ _).drew | exact (bel2 _ _ _).drew.alloc (by simp <;> omega) _ | exact ((bel2 _ _ _).drew.alloc (by simp <;> omega) _).drew)⟩
    · rw [decide_eq_false hc2]
      go_wp2_with fail
      all_goals go_ret
      all_goals exact ⟨ret_bool (bool_leaf HB.out (by (try simp only [beq_iff_eq, beq_eq_false_iff_ne, ne_eq] at *); unfold kindOk thereC elderC noS noP minC; (try simp only [Int.reduceEq, true_and, false_and, or_false]); first | omega | (simp; done) | (simp; omega) | (simp_all; done) | (simp_all; omega))), (by first | exact bel2 _ _ _ | exact (bel2 _ _ _).drew | exact bel3 _ _ _ _ | exact (bel3 _ _ _ _).drew | exact (bel4 _ _ _ _ _).drew | exact (bel2 _ _ _).drew.alloc (by simp <;> omega) _ | exact ((bel2 _ _ _).drew.alloc (by simp <;> omega) _).drew)⟩
  · have e3 : decide ((rf : Int) ≥ 1) = false := decide_eq_false (by omega)
    go_enter Try.func20, Try.ntmps20
    go_wp2_with fail
    refine (cminute_any _ _).mono ?_
    rintro e w' ⟨rfl, rfl⟩
    rw [decide_eq_true g1]
    go_upto_region 8 with fail
    refine wp_region_held_drew (S := (fun w' => w'.cell? ⟨w.heap.size, 3, none⟩ = some (.int .i64 br) ∧ w'.cell? ⟨w.heap.size, 4, none⟩ = some (.int .i64 vl) ∧ w'.cell? ⟨w.heap.size, 5, none⟩ = some (.int .i64 bk) ∧ w'.cell? ⟨w.heap.size, 6, none⟩ = some (.int .u64 rf) ∧ w'.cell? ⟨w.heap.size, 7, none⟩ = some (.int .i64 fr) ∧ w'.cell? ⟨w.heap.size, 8, none⟩ = some (.int .i64 tl) ∧ w'.cell? ⟨w.heap.size, 9, none⟩ = some (.int .i64 un) ∧ w'.cell? ⟨w.heap.size, 10, none⟩ = some (.slice A bd.length c))) (by kernel_rfl) ⟨by go_simp, by go_simp, by go_simp, by go_simp, by go_simp, by go_simp, by go_simp, by go_simp⟩ (fun hh => ?_)
    have HH := Lib.hid hh
    clear hh
    refine wpAnyH_take (i := 0) (v := ?vQ20) rfl (by kernel_rfl) (by kernel_rfl) (by kernel_rfl) (fun _ _ _ h => h) (Or.inl ⟨by rfl, fun w' _ => ?yQ20⟩) HH.out ?_
    case yQ20 => (go_simp; try with_reducible rfl)
    try simp only [List.getElem_toArray, List.getElem_cons_zero, Act.put, List.setIfInBounds_toArray, List.set_cons_zero, List.set_cons_succ]
    refine wpAnyH_take (i := 1) (v := .agg #[.int .i64 br, .int .i64 vl, .int .i64 bk]) rfl (by kernel_rfl) (by kernel_rfl) (by kernel_rfl) (fun _ _ _ h => h) (Or.inl ⟨by rfl, fun w' hw' => ?yQ21⟩) HH.out ?_
    case yQ21 => (have hc3 := hw'.1; have hc4 := hw'.2.1; have hc5 := hw'.2.2.1; go_simp; try with_reducible rfl)
    try simp only [List.getElem_toArray, List.getElem_cons_succ, List.getElem_cons_zero, Act.put, List.setIfInBounds_toArray, List.set_cons_zero, List.set_cons_succ]
    refine wpAnyH_take (i := 2) (v := ?vQ22) rfl (by kernel_rfl) (by kernel_rfl) (by kernel_rfl) (fun _ _ _ h => h) (Or.inl ⟨by rfl, fun w' _ => ?yQ22⟩) HH.out ?_
    case yQ22 => (go_simp; try with_reducible rfl)
    try simp only [List.getElem_toArray, List.getElem_cons_succ, List.getElem_cons_zero, Act.put, List.setIfInBounds_toArray, List.set_cons_zero, List.set_cons_succ]
    refine wpAnyH_take (i := 3) (v := .int .u64 rf) rfl (by kernel_rfl) (by kernel_rfl) (by kernel_rfl) (fun _ _ _ h => h) (Or.inl ⟨by rfl, fun w' hw' => ?yQ23⟩) HH.out ?_
    case yQ23 => (have hc := hw'.2.2.2.1; go_simp; try with_reducible rfl)
    refine wpAnyH_take (i := 4) (v := ?vQ24) rfl (by kernel_rfl) (by kernel_rfl) (by kernel_rfl) (fun _ _ _ h => h) (Or.inl ⟨by rfl, fun w' _ => ?yQ24⟩) HH.out ?_
    case yQ24 => (go_simp; try with_reducible rfl)
    try simp only [List.getElem_toArray, List.getElem_cons_succ, List.getElem_cons_zero, Act.put, List.setIfInBounds_toArray, List.set_cons_zero, List.set_cons_succ]
    try simp only [List.getElem_toArray, List.getElem_cons_succ, List.getElem_cons_zero, Act.put, List.setIfInBounds_toArray, List.set_cons_zero, List.set_cons_succ]
    refine wpAnyH_take (i := 5) (v := .slice A bd.length c) rfl (by kernel_rfl) (by kernel_rfl) (by kernel_rfl) (fun _ _ _ h => h) (Or.inl ⟨by rfl, fun w' hw' => ?yQ25⟩) HH.out ?_
    case yQ25 => (have hc := hw'.2.2.2.2.2.2.2; go_simp; try with_reducible rfl)
    refine wpAnyH_take (i := 6) (v := ?vQ26) rfl (by kernel_rfl) (by kernel_rfl) (by kernel_rfl) (fun _ _ _ h => h) (Or.inl ⟨by rfl, fun w' _ => ?yQ26⟩) HH.out ?_
    case yQ26 => (go_simp; try with_reducible rfl)
    try simp only [List.getElem_toArray, List.getElem_cons_succ, List.getElem_cons_zero, Act.put, List.setIfInBounds_toArray, List.set_cons_zero, List.set_cons_succ]
    refine wpAnyH_ready (rs := [7]) (by kernel_rfl) (by simp) (AllReadyH.cons rfl (fun K hK => ?_) AllReadyH.nil)
    go_simp
    refine hK.out _ _ ⟨by go_simp, by go_simp, by go_simp, by go_simp, by go_simp, by go_simp, by go_simp, by go_simp⟩ (fun hh => ?_)
    have HH' := Lib.hid hh
    clear hh hK K HH
    have HH := Lib.hid HH'.out
    clear HH'
    try simp only [List.getElem_toArray, List.getElem_cons_succ, List.getElem_cons_zero, Act.put, List.setIfInBounds_toArray, List.set_cons_zero, List.set_cons_succ]
    refine wpAnyH_take (i := 8) (v := ?vQ28) rfl (by kernel_rfl) (by kernel_rfl) (by kernel_rfl) (fun _ _ _ h => h) (Or.inl ⟨by rfl, fun w' _ => ?yQ28⟩) HH.out ?_
    case yQ28 => (go_simp; try with_reducible rfl)
    try simp only [List.getElem_toArray, List.getElem_cons_succ, List.getElem_cons_zero, Act.put, List.setIfInBounds_toArray, List.set_cons_zero, List.set_cons_succ]
    refine wpAnyH_ready (rs := [9]) (by kernel_rfl) (by simp) (AllReadyH.cons rfl (fun K hK => ?_) AllReadyH.nil)
    go_simp
    refine hK.out _ _ ⟨by go_simp, by go_simp, by go_simp, by go_simp, by go_simp, by go_simp, by go_simp, by go_simp⟩ (fun hh => ?_)
    have HH' := Lib.hid hh
    clear hh hK K HH
    have HH := Lib.hid HH'.out
    clear HH'
    refine wpAnyH_take (i := 10) (v := ?vQ210) rfl (by kernel_rfl) (by kernel_rfl) (by kernel_rfl) (fun _ _ _ h => h) (Or.inl ⟨by rfl, fun w' _ => ?yQ210⟩) HH.out ?_
    case yQ210 => (go_simp; try with_reducible rfl)
    try simp only [List.getElem_toArray, List.getElem_cons_succ, List.getElem_cons_zero, Act.put, List.setIfInBounds_toArray, List.set_cons_zero, List.set_cons_succ]
    try simp only [List.getElem_toArray, List.getElem_cons_succ, List.getElem_cons_zero, Act.put, List.setIfInBounds_toArray, List.set_cons_zero, List.set_cons_succ]
    refine wpAnyH_ready (rs := [11]) (by kernel_rfl) (by simp) (AllReadyH.cons rfl (fun K hK => ?_) AllReadyH.nil)
    go_simp
    refine hK.out _ _ ⟨by go_simp, by go_simp, by go_simp, by go_simp, by go_simp, by go_simp, by go_simp, by go_simp⟩ (fun hh => ?_)
    have HH' := Lib.hid hh
    clear hh hK K HH
    have HH := Lib.hid HH'.out
    clear HH'
    try simp only [List.getElem_toArray, List.getElem_cons_succ, List.getElem_cons_zero, Act.put, List.setIfInBounds_toArray, List.set_cons_zero, List.set_cons_succ]
    refine wpAnyH_done (by kernel_rfl) ?_ _
    go_wp2_with fail
    refine (cthere_any _ _ _ _).mono ?_
    rintro e w' ⟨rfl, rfl⟩
    by_cases hc2 : (0 ≤ br ∧ br ≤ 15) ∧ (0 ≤ vl ∧ vl ≤ 7) ∧ 0 ≤ bk ∧ bk ≤ 255
    · rw [decide_eq_true hc2]
      go_wp2_with fail
      try any_goals (
        refine (csame_any ⟨1, nm, mn, br, vl, bk, rf, fr, tl, un, bd⟩ ⟨1, nm, mn, br, vl, bk, rf, 0, 0, 0, bd⟩ A A c c _ (HRD.out.below (by first | exact bel2 _ _ _ | exact (bel2 _ _ _).drew | exact bel3 _ _ _ _ | exact (bel3 _ _ _ _).drew | exact (bel4 _ _ _ _ _).drew | exact (bel2 _ _ _).drew.alloc (by simp <;> omega) _ | exact ((bel2 _ _ _).drew.alloc (by simp <;> omega) _).drew)) (HRD.out.below (by first | exact bel2 _ _ _ | exact (bel2 _ _ _).drew | exact bel3 _ _ _ _ | exact (bel3 _ _ _ _).drew | exact (bel4 _ _ _ _ _).drew | exact (bel2 _ _ _).drew.alloc (by simp <;> omega) _ | exact ((bel2 _ _ _).drew.alloc (by simp <;> omega) _).drew)) (by simp <;> omega)).mono ?_
        rintro e w' ⟨rfl, bw⟩
        go_wp2_with fail
        go_ret
        refine ⟨ret_bool (bool_leaf HB.out ?_), (show Below w.heap.size w _ from (by first | exact bel2 _ _ _ | exact (bel2 _ _ _).drew | exact bel3 _ _ _ _ | exact (bel3 _ _ _ _).drew | exact (bel4 _ _ _ _ _).drew | exact (bel2 _ _ _).drew.alloc (by simp <;> omega) _ | exact ((bel2 _ _ _).drew.alloc (by simp <;> omega) _).drew)).trans (bw.mono (by simp <;> omega))⟩
        try simp only [Cl.mk.injEq, beq_iff_eq, beq_eq_false_iff_ne, ne_eq, decide_eq_true_eq, ← List.length_eq_zero_iff] at *
        unfold kindOk thereC elderC noS noP minC
        try simp only
        first | omega | (simp only [Int.reduceEq, true_and, false_and, or_false, Bool.and_eq_true, decide_eq_true_eq, ne_eq]; first | omega | (constructor <;> intro hz <;> omega)) | (simp; omega) | (simp_all; done) | (simp_all; omega))
      all_goals go_ret
      all_goals exact ⟨ret_bool (bool_leaf HB.out (by (try simp only [beq_iff_eq, beq_eq_false_iff_ne, ne_eq] at *); unfold kindOk thereC elderC noS noP minC; (try simp only [Int.reduceEq, true_and, false_and, or_false]); first | omega | (simp; done) | (simp; omega) | (simp_all; done) | (simp_all; omega))), (by first | exact bel2 _ _ _ | exact (bel2 _ _ _).drew | exact bel3 _ _ _ _ | exact (bel3 _ _ _ _).drew | exact (bel4 _ _ _ _ _).drew | exact (bel2 _ _ _).drew.alloc (by simp <;> omega) _ | exact ((bel2 _ _ _).drew.alloc (by simp <;> omega) _).drew)⟩
    · rw [decide_eq_false hc2]
      go_wp2_with fail
      all_goals go_ret
      all_goals exact ⟨ret_bool (bool_leaf HB.out (by (try simp only [beq_iff_eq, beq_eq_false_iff_ne, ne_eq] at *); unfold kindOk thereC elderC noS noP minC; (try simp only [Int.reduceEq, true_and, false_and, or_false]); first | omega | (simp; done) | (simp; omega) | (simp_all; done) | (simp_all; omega))), (by first | exact bel2 _ _ _ | exact (bel2 _ _ _).drew | exact bel3 _ _ _ _ | exact (bel3 _ _ _ _).drew | exact (bel4 _ _ _ _ _).drew | exact (bel2 _ _ _).drew.alloc (by simp <;> omega) _ | exact ((bel2 _ _ _).drew.alloc (by simp <;> omega) _).drew)⟩
set_option maxRecDepth 100000 in
set_option maxHeartbeats 6400000 in
theorem cright2 (nm : Nat) (mn br vl bk : Int) (rf : Nat) (fr tl un : Int) (bd : List UInt8) (A : Option Addr) (c : Nat) (w : World) (h1 : 1 ≤ nm) (h2 : nm ≤ 65535) (g1 : 0 ≤ mn ∧ mn ≤ 1073741824) (hr : Rd w.heap.size w A (bv bd)) :
    Calls Try.prog 20 #[.agg #[.int .i64 2, .int .u64 nm, .int .i64 mn, .int .i64 br, .int .i64 vl, .int .i64 bk, .int .u64 rf, .int .i64 fr, .int .i64 tl, .int .i64 un, .slice A bd.length c]] w (RetB (.bool (decide (kindOk ⟨2, nm, mn, br, vl, bk, rf, fr, tl, un, bd⟩))) w) := by
  obtain ⟨q, hq⟩ : ∃ q, q = decide (kindOk ⟨2, nm, mn, br, vl, bk, rf, fr, tl, un, bd⟩) := ⟨_, rfl⟩
  rw [← hq]
  have HB := Lib.hid hq
  have HRD := Lib.hid hr
  clear hq hr
  have d1 : decide ((nm : Int) < 1) = false := decide_eq_false (by omega)
  have d2 : decide ((65535 : Int) < (nm : Int)) = false := decide_eq_false (by omega)
  by_cases g3 : 1 ≤ rf
  · have e3 : decide ((rf : Int) ≥ 1) = true := decide_eq_true (by omega)
    go_enter Try.func20, Try.ntmps20
    go_wp2_with fail
    refine (cminute_any _ _).mono ?_
    rintro e w' ⟨rfl, rfl⟩
    rw [decide_eq_true g1]
    go_upto_region 11 with fail
    refine wp_region_held_drew (S := (fun w' => w'.cell? ⟨w.heap.size, 3, none⟩ = some (.int .i64 br) ∧ w'.cell? ⟨w.heap.size, 4, none⟩ = some (.int .i64 vl) ∧ w'.cell? ⟨w.heap.size, 5, none⟩ = some (.int .i64 bk) ∧ w'.cell? ⟨w.heap.size, 6, none⟩ = some (.int .u64 rf) ∧ w'.cell? ⟨w.heap.size, 7, none⟩ = some (.int .i64 fr) ∧ w'.cell? ⟨w.heap.size, 8, none⟩ = some (.int .i64 tl) ∧ w'.cell? ⟨w.heap.size, 9, none⟩ = some (.int .i64 un) ∧ w'.cell? ⟨w.heap.size, 10, none⟩ = some (.slice A bd.length c))) (by kernel_rfl) ⟨by go_simp, by go_simp, by go_simp, by go_simp, by go_simp, by go_simp, by go_simp, by go_simp⟩ (fun hh => ?_)
    have HH := Lib.hid hh
    clear hh
    refine wpAnyH_take (i := 0) (v := ?vQ30) rfl (by kernel_rfl) (by kernel_rfl) (by kernel_rfl) (fun _ _ _ h => h) (Or.inl ⟨by rfl, fun w' _ => ?yQ30⟩) HH.out ?_
    case yQ30 => (go_simp; try with_reducible rfl)
    try simp only [List.getElem_toArray, List.getElem_cons_zero, Act.put, List.setIfInBounds_toArray, List.set_cons_zero, List.set_cons_succ]
    refine wpAnyH_take (i := 1) (v := .agg #[.int .i64 br, .int .i64 vl, .int .i64 bk]) rfl (by kernel_rfl) (by kernel_rfl) (by kernel_rfl) (fun _ _ _ h => h) (Or.inl ⟨by rfl, fun w' hw' => ?yQ31⟩) HH.out ?_
    case yQ31 => (have hc3 := hw'.1; have hc4 := hw'.2.1; have hc5 := hw'.2.2.1; go_simp; try with_reducible rfl)
    try simp only [List.getElem_toArray, List.getElem_cons_succ, List.getElem_cons_zero, Act.put, List.setIfInBounds_toArray, List.set_cons_zero, List.set_cons_succ]
    refine wpAnyH_take (i := 2) (v := ?vQ32) rfl (by kernel_rfl) (by kernel_rfl) (by kernel_rfl) (fun _ _ _ h => h) (Or.inl ⟨by rfl, fun w' _ => ?yQ32⟩) HH.out ?_
    case yQ32 => (go_simp; try with_reducible rfl)
    try simp only [List.getElem_toArray, List.getElem_cons_succ, List.getElem_cons_zero, Act.put, List.setIfInBounds_toArray, List.set_cons_zero, List.set_cons_succ]
    refine wpAnyH_take (i := 3) (v := .int .u64 rf) rfl (by kernel_rfl) (by kernel_rfl) (by kernel_rfl) (fun _ _ _ h => h) (Or.inl ⟨by rfl, fun w' hw' => ?yQ33⟩) HH.out ?_
    case yQ33 => (have hc := hw'.2.2.2.1; go_simp; try with_reducible rfl)
    refine wpAnyH_take (i := 4) (v := ?vQ34) rfl (by kernel_rfl) (by kernel_rfl) (by kernel_rfl) (fun _ _ _ h => h) (Or.inl ⟨by rfl, fun w' _ => ?yQ34⟩) HH.out ?_
    case yQ34 => (go_simp; try with_reducible rfl)
    try simp only [List.getElem_toArray, List.getElem_cons_succ, List.getElem_cons_zero, Act.put, List.setIfInBounds_toArray, List.set_cons_zero, List.set_cons_succ]
    try simp only [List.getElem_toArray, List.getElem_cons_succ, List.getElem_cons_zero, Act.put, List.setIfInBounds_toArray, List.set_cons_zero, List.set_cons_succ]
    refine wpAnyH_ready (rs := [5]) (by kernel_rfl) (by simp) (AllReadyH.cons rfl (fun K hK => ?_) AllReadyH.nil)
    go_simp
    refine hK.out _ _ ⟨by go_simp, by go_simp, by go_simp, by go_simp, by go_simp, by go_simp, by go_simp, by go_simp⟩ (fun hh => ?_)
    have HH' := Lib.hid hh
    clear hh hK K HH
    have HH := Lib.hid HH'.out
    clear HH'
    refine wpAnyH_take (i := 6) (v := ?vQ36) rfl (by kernel_rfl) (by kernel_rfl) (by kernel_rfl) (fun _ _ _ h => h) (Or.inl ⟨by rfl, fun w' _ => ?yQ36⟩) HH.out ?_
    case yQ36 => (go_simp; try with_reducible rfl)
    try simp only [List.getElem_toArray, List.getElem_cons_succ, List.getElem_cons_zero, Act.put, List.setIfInBounds_toArray, List.set_cons_zero, List.set_cons_succ]
    refine wpAnyH_ready (rs := [7]) (by kernel_rfl) (by simp) (AllReadyH.cons rfl (fun K hK => ?_) AllReadyH.nil)
    go_simp
    refine hK.out _ _ ⟨by go_simp, by go_simp, by go_simp, by go_simp, by go_simp, by go_simp, by go_simp, by go_simp⟩ (fun hh => ?_)
    have HH' := Lib.hid hh
    clear hh hK K HH
    have HH := Lib.hid HH'.out
    clear HH'
    try simp only [List.getElem_toArray, List.getElem_cons_succ, List.getElem_cons_zero, Act.put, List.setIfInBounds_toArray, List.set_cons_zero, List.set_cons_succ]
    refine wpAnyH_done (by kernel_rfl) ?_ _
    go_wp2_with fail
    refine (cthere_any _ _ _ _).mono ?_
    rintro e w' ⟨rfl, rfl⟩
    by_cases hc2 : (0 ≤ br ∧ br ≤ 15) ∧ (0 ≤ vl ∧ vl ≤ 7) ∧ 0 ≤ bk ∧ bk ≤ 255
    · rw [decide_eq_true hc2]
      go_wp2_with fail
      try any_goals (
        refine (csame_any ⟨2, nm, mn, br, vl, bk, rf, fr, tl, un, bd⟩ ⟨2, nm, mn, br, vl, bk, rf, 0, 0, 0, []⟩ A none c 0 _ (HRD.out.below (by first | exact bel2 _ _ _ | exact (bel2 _ _ _).drew | exact bel3 _ _ _ _ | exact (bel3 _ _ _ _).drew | exact (bel4 _ _ _ _ _).drew | exact (bel2 _ _ _).drew.alloc (by simp <;> omega) _ | exact ((bel2 _ _ _).drew.alloc (by simp <;> omega) _).drew)) (Rd.none) (by simp <;> omega)).mono ?_
        rintro e w' ⟨rfl, bw⟩
        go_wp2_with fail
        go_ret
        refine ⟨ret_bool (bool_leaf HB.out ?_), (show Below w.heap.size w _ from (by first | exact bel2 _ _ _ | exact (bel2 _ _ _).drew | exact bel3 _ _ _ _ | exact (bel3 _ _ _ _).drew | exact (bel4 _ _ _ _ _).drew | exact (bel2 _ _ _).drew.alloc (by simp <;> omega) _ | exact ((bel2 _ _ _).drew.alloc (by simp <;> omega) _).drew)).trans (bw.mono (by simp <;> omega))⟩
        try simp only [decide_eq_true_eq, ← List.length_eq_zero_iff] at *
        unfold kindOk thereC elderC noS noP minC
        try simp only
        first | omega | (simp only [Int.reduceEq, true_and, false_and, false_or, or_false, Bool.and_eq_true, decide_eq_true_eq, ne_eq]; first | omega | (constructor <;> intro hz <;> omega)) | (simp; omega) | (simp_all; done) | (simp_all; omega))
      all_goals go_ret
      all_goals exact ⟨ret_bool (bool_leaf HB.out (by (try simp only [beq_iff_eq, beq_eq_false_iff_ne, ne_eq] at *); unfold kindOk thereC elderC noS noP minC; (try simp only [Int.reduceEq, true_and, false_and, false_or, or_false]); first | omega | (simp; done) | (simp; omega) | (simp_all; done) | (simp_all; omega))), (by first | exact bel2 _ _ _ | exact (bel2 _ _ _).drew | exact bel3 _ _ _ _ | exact (bel3 _ _ _ _).drew | exact (bel4 _ _ _ _ _).drew | exact (bel2 _ _ _).drew.alloc (by simp <;> omega) _ | exact ((bel2 _ _ _).drew.alloc (by simp <;> omega) _).drew)⟩
    · rw [decide_eq_false hc2]
      go_wp2_with fail
      all_goals go_ret
      all_goals exact ⟨ret_bool (bool_leaf HB.out (by (try simp only [beq_iff_eq, beq_eq_false_iff_ne, ne_eq] at *); unfold kindOk thereC elderC noS noP minC; (try simp only [Int.reduceEq, true_and, false_and, false_or, or_false]); first | omega | (simp; done) | (simp; omega) | (simp_all; done) | (simp_all; omega))), (by first | exact bel2 _ _ _ | exact (bel2 _ _ _).drew | exact bel3 _ _ _ _ | exact (bel3 _ _ _ _).drew | exact (bel4 _ _ _ _ _).drew | exact (bel2 _ _ _).drew.alloc (by simp <;> omega) _ | exact ((bel2 _ _ _).drew.alloc (by simp <;> omega) _).drew)⟩
  · have e3 : decide ((rf : Int) ≥ 1) = false := decide_eq_false (by omega)
    go_enter Try.func20, Try.ntmps20
    go_wp2_with fail
    refine (cminute_any _ _).mono ?_
    rintro e w' ⟨rfl, rfl⟩
    rw [decide_eq_true g1]
    go_upto_region 11 with fail
    refine wp_region_held_drew (S := (fun w' => w'.cell? ⟨w.heap.size, 3, none⟩ = some (.int .i64 br) ∧ w'.cell? ⟨w.heap.size, 4, none⟩ = some (.int .i64 vl) ∧ w'.cell? ⟨w.heap.size, 5, none⟩ = some (.int .i64 bk) ∧ w'.cell? ⟨w.heap.size, 6, none⟩ = some (.int .u64 rf) ∧ w'.cell? ⟨w.heap.size, 7, none⟩ = some (.int .i64 fr) ∧ w'.cell? ⟨w.heap.size, 8, none⟩ = some (.int .i64 tl) ∧ w'.cell? ⟨w.heap.size, 9, none⟩ = some (.int .i64 un) ∧ w'.cell? ⟨w.heap.size, 10, none⟩ = some (.slice A bd.length c))) (by kernel_rfl) ⟨by go_simp, by go_simp, by go_simp, by go_simp, by go_simp, by go_simp, by go_simp, by go_simp⟩ (fun hh => ?_)
    have HH := Lib.hid hh
    clear hh
    refine wpAnyH_take (i := 0) (v := ?vQ40) rfl (by kernel_rfl) (by kernel_rfl) (by kernel_rfl) (fun _ _ _ h => h) (Or.inl ⟨by rfl, fun w' _ => ?yQ40⟩) HH.out ?_
    case yQ40 => (go_simp; try with_reducible rfl)
    try simp only [List.getElem_toArray, List.getElem_cons_zero, Act.put, List.setIfInBounds_toArray, List.set_cons_zero, List.set_cons_succ]
    refine wpAnyH_take (i := 1) (v := .agg #[.int .i64 br, .int .i64 vl, .int .i64 bk]) rfl (by kernel_rfl) (by kernel_rfl) (by kernel_rfl) (fun _ _ _ h => h) (Or.inl ⟨by rfl, fun w' hw' => ?yQ41⟩) HH.out ?_
    case yQ41 => (have hc3 := hw'.1; have hc4 := hw'.2.1; have hc5 := hw'.2.2.1; go_simp; try with_reducible rfl)
    try simp only [List.getElem_toArray, List.getElem_cons_succ, List.getElem_cons_zero, Act.put, List.setIfInBounds_toArray, List.set_cons_zero, List.set_cons_succ]
    refine wpAnyH_take (i := 2) (v := ?vQ42) rfl (by kernel_rfl) (by kernel_rfl) (by kernel_rfl) (fun _ _ _ h => h) (Or.inl ⟨by rfl, fun w' _ => ?yQ42⟩) HH.out ?_
    case yQ42 => (go_simp; try with_reducible rfl)
    try simp only [List.getElem_toArray, List.getElem_cons_succ, List.getElem_cons_zero, Act.put, List.setIfInBounds_toArray, List.set_cons_zero, List.set_cons_succ]
    refine wpAnyH_take (i := 3) (v := .int .u64 rf) rfl (by kernel_rfl) (by kernel_rfl) (by kernel_rfl) (fun _ _ _ h => h) (Or.inl ⟨by rfl, fun w' hw' => ?yQ43⟩) HH.out ?_
    case yQ43 => (have hc := hw'.2.2.2.1; go_simp; try with_reducible rfl)
    refine wpAnyH_take (i := 4) (v := ?vQ44) rfl (by kernel_rfl) (by kernel_rfl) (by kernel_rfl) (fun _ _ _ h => h) (Or.inl ⟨by rfl, fun w' _ => ?yQ44⟩) HH.out ?_
    case yQ44 => (go_simp; try with_reducible rfl)
    try simp only [List.getElem_toArray, List.getElem_cons_succ, List.getElem_cons_zero, Act.put, List.setIfInBounds_toArray, List.set_cons_zero, List.set_cons_succ]
    try simp only [List.getElem_toArray, List.getElem_cons_succ, List.getElem_cons_zero, Act.put, List.setIfInBounds_toArray, List.set_cons_zero, List.set_cons_succ]
    refine wpAnyH_ready (rs := [5]) (by kernel_rfl) (by simp) (AllReadyH.cons rfl (fun K hK => ?_) AllReadyH.nil)
    go_simp
    refine hK.out _ _ ⟨by go_simp, by go_simp, by go_simp, by go_simp, by go_simp, by go_simp, by go_simp, by go_simp⟩ (fun hh => ?_)
    have HH' := Lib.hid hh
    clear hh hK K HH
    have HH := Lib.hid HH'.out
    clear HH'
    refine wpAnyH_take (i := 6) (v := ?vQ46) rfl (by kernel_rfl) (by kernel_rfl) (by kernel_rfl) (fun _ _ _ h => h) (Or.inl ⟨by rfl, fun w' _ => ?yQ46⟩) HH.out ?_
    case yQ46 => (go_simp; try with_reducible rfl)
    try simp only [List.getElem_toArray, List.getElem_cons_succ, List.getElem_cons_zero, Act.put, List.setIfInBounds_toArray, List.set_cons_zero, List.set_cons_succ]
    refine wpAnyH_ready (rs := [7]) (by kernel_rfl) (by simp) (AllReadyH.cons rfl (fun K hK => ?_) AllReadyH.nil)
    go_simp
    refine hK.out _ _ ⟨by go_simp, by go_simp, by go_simp, by go_simp, by go_simp, by go_simp, by go_simp, by go_simp⟩ (fun hh => ?_)
    have HH' := Lib.hid hh
    clear hh hK K HH
    have HH := Lib.hid HH'.out
    clear HH'
    try simp only [List.getElem_toArray, List.getElem_cons_succ, List.getElem_cons_zero, Act.put, List.setIfInBounds_toArray, List.set_cons_zero, List.set_cons_succ]
    refine wpAnyH_done (by kernel_rfl) ?_ _
    go_wp2_with fail
    refine (cthere_any _ _ _ _).mono ?_
    rintro e w' ⟨rfl, rfl⟩
    by_cases hc2 : (0 ≤ br ∧ br ≤ 15) ∧ (0 ≤ vl ∧ vl ≤ 7) ∧ 0 ≤ bk ∧ bk ≤ 255
    · rw [decide_eq_true hc2]
      go_wp2_with fail
      try any_goals (
        refine (csame_any ⟨2, nm, mn, br, vl, bk, rf, fr, tl, un, bd⟩ ⟨2, nm, mn, br, vl, bk, rf, 0, 0, 0, []⟩ A none c 0 _ (HRD.out.below (by first | exact bel2 _ _ _ | exact (bel2 _ _ _).drew | exact bel3 _ _ _ _ | exact (bel3 _ _ _ _).drew | exact (bel4 _ _ _ _ _).drew | exact (bel2 _ _ _).drew.alloc (by simp <;> omega) _ | exact ((bel2 _ _ _).drew.alloc (by simp <;> omega) _).drew)) (Rd.none) (by simp <;> omega)).mono ?_
        rintro e w' ⟨rfl, bw⟩
        go_wp2_with fail
        go_ret
        refine ⟨ret_bool (bool_leaf HB.out ?_), (show Below w.heap.size w _ from (by first | exact bel2 _ _ _ | exact (bel2 _ _ _).drew | exact bel3 _ _ _ _ | exact (bel3 _ _ _ _).drew | exact (bel4 _ _ _ _ _).drew | exact (bel2 _ _ _).drew.alloc (by simp <;> omega) _ | exact ((bel2 _ _ _).drew.alloc (by simp <;> omega) _).drew)).trans (bw.mono (by simp <;> omega))⟩
        try simp only [Cl.mk.injEq, beq_iff_eq, beq_eq_false_iff_ne, ne_eq, decide_eq_true_eq, ← List.length_eq_zero_iff] at *
        unfold kindOk thereC elderC noS noP minC
        try simp only
        first | omega | (simp only [Int.reduceEq, true_and, false_and, false_or, or_false, Bool.and_eq_true, decide_eq_true_eq, bne_iff_ne, ne_eq]; first | omega | (constructor <;> intro hz <;> omega)) | (simp; omega) | (simp_all; done) | (simp_all; omega))
      all_goals go_ret
      all_goals exact ⟨ret_bool (bool_leaf HB.out (by (try simp only [beq_iff_eq, beq_eq_false_iff_ne, ne_eq] at *); unfold kindOk thereC elderC noS noP minC; (try simp only [Int.reduceEq, true_and, false_and, false_or, or_false]); first | omega | (simp; done) | (simp; omega) | (simp_all; done) | (simp_all; omega))), (by first | exact bel2 _ _ _ | exact (bel2 _ _ _).drew | exact bel3 _ _ _ _ | exact (bel3 _ _ _ _).drew | exact (bel4 _ _ _ _ _).drew | exact (bel2 _ _ _).drew.alloc (by simp <;> omega) _ | exact ((bel2 _ _ _).drew.alloc (by simp <;> omega) _).drew)⟩
    · rw [decide_eq_false hc2]
      go_wp2_with fail
      all_goals go_ret
      all_goals exact ⟨ret_bool (bool_leaf HB.out (by (try simp only [beq_iff_eq, beq_eq_false_iff_ne, ne_eq] at *); unfold kindOk thereC elderC noS noP minC; (try simp only [Int.reduceEq, true_and, false_and, false_or, or_false]); first | omega | (simp; done) | (simp; omega) | (simp_all; done) | (simp_all; omega))), (by first | exact bel2 _ _ _ | exact (bel2 _ _ _).drew | exact bel3 _ _ _ _ | exact (bel3 _ _ _ _).drew | exact (bel4 _ _ _ _ _).drew | exact (bel2 _ _ _).drew.alloc (by simp <;> omega) _ | exact ((bel2 _ _ _).drew.alloc (by simp <;> omega) _).drew)⟩
end Go.Proofs.Ythdmdlnndbjcoaa.Ce
/-
  Right, as the document's answer tells it: kinds 3, 5.
-/
namespace Go.Proofs.Ythdmdlnndbjcoaa.Ce
open Go.RowKit
attribute [local go_sem ↓] Go.wp_at_zero Go.wp_at_succ

set_option maxRecDepth 100000 in
set_option maxHeartbeats 6400000 in
theorem cright3 (nm : Nat) (mn br vl bk : Int) (rf : Nat) (fr tl un : Int) (bd : List UInt8) (A : Option Addr) (c : Nat) (w : World) (h1 : 1 ≤ nm) (h2 : nm ≤ 65535) (g1 : 0 ≤ mn ∧ mn ≤ 1073741824) (hr : Rd w.heap.size w A (bv bd)) :
    Calls Try.prog 20 #[.agg #[.int .i64 3, .int .u64 nm, .int .i64 mn, .int .i64 br, .int .i64 vl, .int .i64 bk, .int .u64 rf, .int .i64 fr, .int .i64 tl, .int .i64 un, .slice A bd.length c]] w (RetB (.bool (decide (kindOk ⟨3, nm, mn, br, vl, bk, rf, fr, tl, un, bd⟩))) w) := by
  obtain ⟨q, hq⟩ : ∃ q, q = decide (kindOk ⟨3, nm, mn, br, vl, bk, rf, fr, tl, un, bd⟩) := ⟨_, rfl⟩
  rw [← hq]
  have HB := Lib.hid hq
  have HRD := Lib.hid hr
  clear hq hr
  have d1 : decide ((nm : Int) < 1) = false := decide_eq_false (by omega)
  have d2 : decide ((65535 : Int) < (nm : Int)) = false := decide_eq_false (by omega)
  by_cases g3 : 1 ≤ rf
  · have e3 : decide ((rf : Int) ≥ 1) = true := decide_eq_true (by omega)
    go_enter Try.func20, Try.ntmps20
    go_wp2_with fail
    refine (cminute_any _ _).mono ?_
    rintro e w' ⟨rfl, rfl⟩
    rw [decide_eq_true g1]
    go_upto_region 14 with fail
    refine wp_region_held_drew (S := (fun w' => w'.cell? ⟨w.heap.size, 3, none⟩ = some (.int .i64 br) ∧ w'.cell? ⟨w.heap.size, 4, none⟩ = some (.int .i64 vl) ∧ w'.cell? ⟨w.heap.size, 5, none⟩ = some (.int .i64 bk) ∧ w'.cell? ⟨w.heap.size, 6, none⟩ = some (.int .u64 rf) ∧ w'.cell? ⟨w.heap.size, 7, none⟩ = some (.int .i64 fr) ∧ w'.cell? ⟨w.heap.size, 8, none⟩ = some (.int .i64 tl) ∧ w'.cell? ⟨w.heap.size, 9, none⟩ = some (.int .i64 un) ∧ w'.cell? ⟨w.heap.size, 10, none⟩ = some (.slice A bd.length c))) (by kernel_rfl) ⟨by go_simp, by go_simp, by go_simp, by go_simp, by go_simp, by go_simp, by go_simp, by go_simp⟩ (fun hh => ?_)
    have HH := Lib.hid hh
    clear hh
    refine wpAnyH_take (i := 0) (v := ?vQ50) rfl (by kernel_rfl) (by kernel_rfl) (by kernel_rfl) (fun _ _ _ h => h) (Or.inl ⟨by rfl, fun w' _ => ?yQ50⟩) HH.out ?_
    case yQ50 => (go_simp; try with_reducible rfl)
    try simp only [List.getElem_toArray, List.getElem_cons_zero, Act.put, List.setIfInBounds_toArray, List.set_cons_zero, List.set_cons_succ]
    refine wpAnyH_take (i := 1) (v := .agg #[.int .i64 br, .int .i64 vl, .int .i64 bk]) rfl (by kernel_rfl) (by kernel_rfl) (by kernel_rfl) (fun _ _ _ h => h) (Or.inl ⟨by rfl, fun w' hw' => ?yQ51⟩) HH.out ?_
    case yQ51 => (have hc3 := hw'.1; have hc4 := hw'.2.1; have hc5 := hw'.2.2.1; go_simp; try with_reducible rfl)
    try simp only [List.getElem_toArray, List.getElem_cons_succ, List.getElem_cons_zero, Act.put, List.setIfInBounds_toArray, List.set_cons_zero, List.set_cons_succ]
    refine wpAnyH_take (i := 2) (v := ?vQ52) rfl (by kernel_rfl) (by kernel_rfl) (by kernel_rfl) (fun _ _ _ h => h) (Or.inl ⟨by rfl, fun w' _ => ?yQ52⟩) HH.out ?_
    case yQ52 => (go_simp; try with_reducible rfl)
    try simp only [List.getElem_toArray, List.getElem_cons_succ, List.getElem_cons_zero, Act.put, List.setIfInBounds_toArray, List.set_cons_zero, List.set_cons_succ]
    refine wpAnyH_take (i := 3) (v := .int .u64 rf) rfl (by kernel_rfl) (by kernel_rfl) (by kernel_rfl) (fun _ _ _ h => h) (Or.inl ⟨by rfl, fun w' hw' => ?yQ53⟩) HH.out ?_
    case yQ53 => (have hc := hw'.2.2.2.1; go_simp; try with_reducible rfl)
    refine wpAnyH_take (i := 4) (v := ?vQ54) rfl (by kernel_rfl) (by kernel_rfl) (by kernel_rfl) (fun _ _ _ h => h) (Or.inl ⟨by rfl, fun w' _ => ?yQ54⟩) HH.out ?_
    case yQ54 => (go_simp; try with_reducible rfl)
    try simp only [List.getElem_toArray, List.getElem_cons_succ, List.getElem_cons_zero, Act.put, List.setIfInBounds_toArray, List.set_cons_zero, List.set_cons_succ]
    try simp only [List.getElem_toArray, List.getElem_cons_succ, List.getElem_cons_zero, Act.put, List.setIfInBounds_toArray, List.set_cons_zero, List.set_cons_succ]
    refine wpAnyH_take (i := 5) (v := .slice A bd.length c) rfl (by kernel_rfl) (by kernel_rfl) (by kernel_rfl) (fun _ _ _ h => h) (Or.inl ⟨by rfl, fun w' hw' => ?yQ55⟩) HH.out ?_
    case yQ55 => (have hc := hw'.2.2.2.2.2.2.2; go_simp; try with_reducible rfl)
    refine wpAnyH_take (i := 6) (v := ?vQ56) rfl (by kernel_rfl) (by kernel_rfl) (by kernel_rfl) (fun _ _ _ h => h) (Or.inl ⟨by rfl, fun w' _ => ?yQ56⟩) HH.out ?_
    case yQ56 => (go_simp; try with_reducible rfl)
    try simp only [List.getElem_toArray, List.getElem_cons_succ, List.getElem_cons_zero, Act.put, List.setIfInBounds_toArray, List.set_cons_zero, List.set_cons_succ]
    refine wpAnyH_ready (rs := [7]) (by kernel_rfl) (by simp) (AllReadyH.cons rfl (fun K hK => ?_) AllReadyH.nil)
    go_simp
    refine hK.out _ _ ⟨by go_simp, by go_simp, by go_simp, by go_simp, by go_simp, by go_simp, by go_simp, by go_simp⟩ (fun hh => ?_)
    have HH' := Lib.hid hh
    clear hh hK K HH
    have HH := Lib.hid HH'.out
    clear HH'
    try simp only [List.getElem_toArray, List.getElem_cons_succ, List.getElem_cons_zero, Act.put, List.setIfInBounds_toArray, List.set_cons_zero, List.set_cons_succ]
    refine wpAnyH_take (i := 8) (v := ?vQ58) rfl (by kernel_rfl) (by kernel_rfl) (by kernel_rfl) (fun _ _ _ h => h) (Or.inl ⟨by rfl, fun w' _ => ?yQ58⟩) HH.out ?_
    case yQ58 => (go_simp; try with_reducible rfl)
    try simp only [List.getElem_toArray, List.getElem_cons_succ, List.getElem_cons_zero, Act.put, List.setIfInBounds_toArray, List.set_cons_zero, List.set_cons_succ]
    refine wpAnyH_ready (rs := [9]) (by kernel_rfl) (by simp) (AllReadyH.cons rfl (fun K hK => ?_) AllReadyH.nil)
    go_simp
    refine hK.out _ _ ⟨by go_simp, by go_simp, by go_simp, by go_simp, by go_simp, by go_simp, by go_simp, by go_simp⟩ (fun hh => ?_)
    have HH' := Lib.hid hh
    clear hh hK K HH
    have HH := Lib.hid HH'.out
    clear HH'
    refine wpAnyH_take (i := 10) (v := ?vQ510) rfl (by kernel_rfl) (by kernel_rfl) (by kernel_rfl) (fun _ _ _ h => h) (Or.inl ⟨by rfl, fun w' _ => ?yQ510⟩) HH.out ?_
    case yQ510 => (go_simp; try with_reducible rfl)
    try simp only [List.getElem_toArray, List.getElem_cons_succ, List.getElem_cons_zero, Act.put, List.setIfInBounds_toArray, List.set_cons_zero, List.set_cons_succ]
    try simp only [List.getElem_toArray, List.getElem_cons_succ, List.getElem_cons_zero, Act.put, List.setIfInBounds_toArray, List.set_cons_zero, List.set_cons_succ]
    refine wpAnyH_ready (rs := [11]) (by kernel_rfl) (by simp) (AllReadyH.cons rfl (fun K hK => ?_) AllReadyH.nil)
    go_simp
    refine hK.out _ _ ⟨by go_simp, by go_simp, by go_simp, by go_simp, by go_simp, by go_simp, by go_simp, by go_simp⟩ (fun hh => ?_)
    have HH' := Lib.hid hh
    clear hh hK K HH
    have HH := Lib.hid HH'.out
    clear HH'
    try simp only [List.getElem_toArray, List.getElem_cons_succ, List.getElem_cons_zero, Act.put, List.setIfInBounds_toArray, List.set_cons_zero, List.set_cons_succ]
    refine wpAnyH_done (by kernel_rfl) ?_ _
    go_wp2_with fail
    refine (cthere_any _ _ _ _).mono ?_
    rintro e w' ⟨rfl, rfl⟩
    by_cases hc2 : (0 ≤ br ∧ br ≤ 15) ∧ (0 ≤ vl ∧ vl ≤ 7) ∧ 0 ≤ bk ∧ bk ≤ 255
    · rw [decide_eq_true hc2]
      go_wp2_with fail
      try any_goals (
        refine (csame_any ⟨3, nm, mn, br, vl, bk, rf, fr, tl, un, bd⟩ ⟨3, nm, mn, br, vl, bk, rf, 0, 0, 0, bd⟩ A A c c _ (HRD.out.below (by first | exact bel2 _ _ _ | exact (bel2 _ _ _).drew | exact bel3 _ _ _ _ | exact (bel3 _ _ _ _).drew | exact (bel4 _ _ _ _ _).drew | exact (bel2 _ _ _).drew.alloc (by simp <;> omega) _ | exact ((bel2 _ _ _).drew.alloc (by simp <;> omega) _).drew)) (HRD.out.below (by first | exact bel2 _ _ _ | exact (bel2 _ _ _).drew | exact bel3 _ _ _ _ | exact (bel3 _ _ _ _).drew | exact (bel4 _ _ _ _ _).drew | exact (bel2 _ _ _).drew.alloc (by simp <;> omega) _ | exact ((bel2 _ _ _).drew.alloc (by simp <;> omega) _).drew)) (by simp <;> omega)).mono ?_
        rintro e w' ⟨rfl, bw⟩
        go_wp2_with fail
        go_ret
        refine ⟨ret_bool (bool_leaf HB.out ?_), (show Below w.heap.size w _ from (by first | exact bel2 _ _ _ | exact (bel2 _ _ _).drew | exact bel3 _ _ _ _ | exact (bel3 _ _ _ _).drew | exact (bel4 _ _ _ _ _).drew | exact (bel2 _ _ _).drew.alloc (by simp <;> omega) _ | exact ((bel2 _ _ _).drew.alloc (by simp <;> omega) _).drew)).trans (bw.mono (by simp <;> omega))⟩
        try simp only [decide_eq_true_eq] at *
        unfold kindOk thereC elderC noS noP minC
        try simp only
        first | omega | (simp only [Int.reduceEq, true_and, false_and, false_or, or_false, Bool.and_eq_true, decide_eq_true_eq, ne_eq]; first | omega | (constructor <;> intro hz <;> omega)) | (simp; omega) | (simp_all; done) | (simp_all; omega))
      all_goals go_ret
      all_goals exact ⟨ret_bool (bool_leaf HB.out (by (try simp only [beq_iff_eq, beq_eq_false_iff_ne, ne_eq] at *); unfold kindOk thereC elderC noS noP minC; (try simp only [Int.reduceEq, true_and, false_and, false_or, or_false]); first | omega | (simp; done) | (simp; omega) | (simp_all; done) | (simp_all; omega))), (by first | exact bel2 _ _ _ | exact (bel2 _ _ _).drew | exact bel3 _ _ _ _ | exact (bel3 _ _ _ _).drew | exact (bel4 _ _ _ _ _).drew | exact (bel2 _ _ _).drew.alloc (by simp <;> omega) _ | exact ((bel2 _ _ _).drew.alloc (by simp <;> omega) _).drew)⟩
    · rw [decide_eq_false hc2]
      go_wp2_with fail
      all_goals go_ret
      all_goals exact ⟨ret_bool (bool_leaf HB.out (by (try simp only [beq_iff_eq, beq_eq_false_iff_ne, ne_eq] at *); unfold kindOk thereC elderC noS noP minC; (try simp only [Int.reduceEq, true_and, false_and, false_or, or_false]); first | omega | (simp; done) | (simp; omega) | (simp_all; done) | (simp_all; omega))), (by first | exact bel2 _ _ _ | exact (bel2 _ _ _).drew | exact bel3 _ _ _ _ | exact (bel3 _ _ _ _).drew | exact (bel4 _ _ _ _ _).drew | exact (bel2 _ _ _).drew.alloc (by simp <;> omega) _ | exact ((bel2 _ _ _).drew.alloc (by simp <;> omega) _).drew)⟩
  · have e3 : decide ((rf : Int) ≥ 1) = false := decide_eq_false (by omega)
    go_enter Try.func20, Try.ntmps20
    go_wp2_with fail
    refine (cminute_any _ _).mono ?_
    rintro e w' ⟨rfl, rfl⟩
    rw [decide_eq_true g1]
    go_upto_region 14 with fail
    refine wp_region_held_drew (S := (fun w' => w'.cell? ⟨w.heap.size, 3, none⟩ = some (.int .i64 br) ∧ w'.cell? ⟨w.heap.size, 4, none⟩ = some (.int .i64 vl) ∧ w'.cell? ⟨w.heap.size, 5, none⟩ = some (.int .i64 bk) ∧ w'.cell? ⟨w.heap.size, 6, none⟩ = some (.int .u64 rf) ∧ w'.cell? ⟨w.heap.size, 7, none⟩ = some (.int .i64 fr) ∧ w'.cell? ⟨w.heap.size, 8, none⟩ = some (.int .i64 tl) ∧ w'.cell? ⟨w.heap.size, 9, none⟩ = some (.int .i64 un) ∧ w'.cell? ⟨w.heap.size, 10, none⟩ = some (.slice A bd.length c))) (by kernel_rfl) ⟨by go_simp, by go_simp, by go_simp, by go_simp, by go_simp, by go_simp, by go_simp, by go_simp⟩ (fun hh => ?_)
    have HH := Lib.hid hh
    clear hh
    refine wpAnyH_take (i := 0) (v := ?vQ60) rfl (by kernel_rfl) (by kernel_rfl) (by kernel_rfl) (fun _ _ _ h => h) (Or.inl ⟨by rfl, fun w' _ => ?yQ60⟩) HH.out ?_
    case yQ60 => (go_simp; try with_reducible rfl)
    try simp only [List.getElem_toArray, List.getElem_cons_zero, Act.put, List.setIfInBounds_toArray, List.set_cons_zero, List.set_cons_succ]
    refine wpAnyH_take (i := 1) (v := .agg #[.int .i64 br, .int .i64 vl, .int .i64 bk]) rfl (by kernel_rfl) (by kernel_rfl) (by kernel_rfl) (fun _ _ _ h => h) (Or.inl ⟨by rfl, fun w' hw' => ?yQ61⟩) HH.out ?_
    case yQ61 => (have hc3 := hw'.1; have hc4 := hw'.2.1; have hc5 := hw'.2.2.1; go_simp; try with_reducible rfl)
    try simp only [List.getElem_toArray, List.getElem_cons_succ, List.getElem_cons_zero, Act.put, List.setIfInBounds_toArray, List.set_cons_zero, List.set_cons_succ]
    refine wpAnyH_take (i := 2) (v := ?vQ62) rfl (by kernel_rfl) (by kernel_rfl) (by kernel_rfl) (fun _ _ _ h => h) (Or.inl ⟨by rfl, fun w' _ => ?yQ62⟩) HH.out ?_
    case yQ62 => (go_simp; try with_reducible rfl)
    try simp only [List.getElem_toArray, List.getElem_cons_succ, List.getElem_cons_zero, Act.put, List.setIfInBounds_toArray, List.set_cons_zero, List.set_cons_succ]
    refine wpAnyH_take (i := 3) (v := .int .u64 rf) rfl (by kernel_rfl) (by kernel_rfl) (by kernel_rfl) (fun _ _ _ h => h) (Or.inl ⟨by rfl, fun w' hw' => ?yQ63⟩) HH.out ?_
    case yQ63 => (have hc := hw'.2.2.2.1; go_simp; try with_reducible rfl)
    refine wpAnyH_take (i := 4) (v := ?vQ64) rfl (by kernel_rfl) (by kernel_rfl) (by kernel_rfl) (fun _ _ _ h => h) (Or.inl ⟨by rfl, fun w' _ => ?yQ64⟩) HH.out ?_
    case yQ64 => (go_simp; try with_reducible rfl)
    try simp only [List.getElem_toArray, List.getElem_cons_succ, List.getElem_cons_zero, Act.put, List.setIfInBounds_toArray, List.set_cons_zero, List.set_cons_succ]
    try simp only [List.getElem_toArray, List.getElem_cons_succ, List.getElem_cons_zero, Act.put, List.setIfInBounds_toArray, List.set_cons_zero, List.set_cons_succ]
    refine wpAnyH_take (i := 5) (v := .slice A bd.length c) rfl (by kernel_rfl) (by kernel_rfl) (by kernel_rfl) (fun _ _ _ h => h) (Or.inl ⟨by rfl, fun w' hw' => ?yQ65⟩) HH.out ?_
    case yQ65 => (have hc := hw'.2.2.2.2.2.2.2; go_simp; try with_reducible rfl)
    refine wpAnyH_take (i := 6) (v := ?vQ66) rfl (by kernel_rfl) (by kernel_rfl) (by kernel_rfl) (fun _ _ _ h => h) (Or.inl ⟨by rfl, fun w' _ => ?yQ66⟩) HH.out ?_
    case yQ66 => (go_simp; try with_reducible rfl)
    try simp only [List.getElem_toArray, List.getElem_cons_succ, List.getElem_cons_zero, Act.put, List.setIfInBounds_toArray, List.set_cons_zero, List.set_cons_succ]
    refine wpAnyH_ready (rs := [7]) (by kernel_rfl) (by simp) (AllReadyH.cons rfl (fun K hK => ?_) AllReadyH.nil)
    go_simp
    refine hK.out _ _ ⟨by go_simp, by go_simp, by go_simp, by go_simp, by go_simp, by go_simp, by go_simp, by go_simp⟩ (fun hh => ?_)
    have HH' := Lib.hid hh
    clear hh hK K HH
    have HH := Lib.hid HH'.out
    clear HH'
    try simp only [List.getElem_toArray, List.getElem_cons_succ, List.getElem_cons_zero, Act.put, List.setIfInBounds_toArray, List.set_cons_zero, List.set_cons_succ]
    refine wpAnyH_take (i := 8) (v := ?vQ68) rfl (by kernel_rfl) (by kernel_rfl) (by kernel_rfl) (fun _ _ _ h => h) (Or.inl ⟨by rfl, fun w' _ => ?yQ68⟩) HH.out ?_
    case yQ68 => (go_simp; try with_reducible rfl)
    try simp only [List.getElem_toArray, List.getElem_cons_succ, List.getElem_cons_zero, Act.put, List.setIfInBounds_toArray, List.set_cons_zero, List.set_cons_succ]
    refine wpAnyH_ready (rs := [9]) (by kernel_rfl) (by simp) (AllReadyH.cons rfl (fun K hK => ?_) AllReadyH.nil)
    go_simp
    refine hK.out _ _ ⟨by go_simp, by go_simp, by go_simp, by go_simp, by go_simp, by go_simp, by go_simp, by go_simp⟩ (fun hh => ?_)
    have HH' := Lib.hid hh
    clear hh hK K HH
    have HH := Lib.hid HH'.out
    clear HH'
    refine wpAnyH_take (i := 10) (v := ?vQ610) rfl (by kernel_rfl) (by kernel_rfl) (by kernel_rfl) (fun _ _ _ h => h) (Or.inl ⟨by rfl, fun w' _ => ?yQ610⟩) HH.out ?_
    case yQ610 => (go_simp; try with_reducible rfl)
    try simp only [List.getElem_toArray, List.getElem_cons_succ, List.getElem_cons_zero, Act.put, List.setIfInBounds_toArray, List.set_cons_zero, List.set_cons_succ]
    try simp only [List.getElem_toArray, List.getElem_cons_succ, List.getElem_cons_zero, Act.put, List.setIfInBounds_toArray, List.set_cons_zero, List.set_cons_succ]
    refine wpAnyH_ready (rs := [11]) (by kernel_rfl) (by simp) (AllReadyH.cons rfl (fun K hK => ?_) AllReadyH.nil)
    go_simp
    refine hK.out _ _ ⟨by go_simp, by go_simp, by go_simp, by go_simp, by go_simp, by go_simp, by go_simp, by go_simp⟩ (fun hh => ?_)
    have HH' := Lib.hid hh
    clear hh hK K HH
    have HH := Lib.hid HH'.out
    clear HH'
    try simp only [List.getElem_toArray, List.getElem_cons_succ, List.getElem_cons_zero, Act.put, List.setIfInBounds_toArray, List.set_cons_zero, List.set_cons_succ]
    refine wpAnyH_done (by kernel_rfl) ?_ _
    go_wp2_with fail
    refine (cthere_any _ _ _ _).mono ?_
    rintro e w' ⟨rfl, rfl⟩
    by_cases hc2 : (0 ≤ br ∧ br ≤ 15) ∧ (0 ≤ vl ∧ vl ≤ 7) ∧ 0 ≤ bk ∧ bk ≤ 255
    · rw [decide_eq_true hc2]
      go_wp2_with fail
      try any_goals (
        refine (csame_any ⟨3, nm, mn, br, vl, bk, rf, fr, tl, un, bd⟩ ⟨3, nm, mn, br, vl, bk, rf, 0, 0, 0, bd⟩ A A c c _ (HRD.out.below (by first | exact bel2 _ _ _ | exact (bel2 _ _ _).drew | exact bel3 _ _ _ _ | exact (bel3 _ _ _ _).drew | exact (bel4 _ _ _ _ _).drew | exact (bel2 _ _ _).drew.alloc (by simp <;> omega) _ | exact ((bel2 _ _ _).drew.alloc (by simp <;> omega) _).drew)) (HRD.out.below (by first | exact bel2 _ _ _ | exact (bel2 _ _ _).drew | exact bel3 _ _ _ _ | exact (bel3 _ _ _ _).drew | exact (bel4 _ _ _ _ _).drew | exact (bel2 _ _ _).drew.alloc (by simp <;> omega) _ | exact ((bel2 _ _ _).drew.alloc (by simp <;> omega) _).drew)) (by simp <;> omega)).mono ?_
        rintro e w' ⟨rfl, bw⟩
        go_wp2_with fail
        go_ret
        refine ⟨ret_bool (bool_leaf HB.out ?_), (show Below w.heap.size w _ from (by first | exact bel2 _ _ _ | exact (bel2 _ _ _).drew | exact bel3 _ _ _ _ | exact (bel3 _ _ _ _).drew | exact (bel4 _ _ _ _ _).drew | exact (bel2 _ _ _).drew.alloc (by simp <;> omega) _ | exact ((bel2 _ _ _).drew.alloc (by simp <;> omega) _).drew)).trans (bw.mono (by simp <;> omega))⟩
        try simp only [Cl.mk.injEq, beq_iff_eq, beq_eq_false_iff_ne, ne_eq, decide_eq_true_eq, ← List.length_eq_zero_iff] at *
        unfold kindOk thereC elderC noS noP minC
        try simp only
        first | omega | (simp only [Int.reduceEq, true_and, false_and, false_or, or_false, Bool.and_eq_true, decide_eq_true_eq, bne_iff_ne, ne_eq]; first | omega | (constructor <;> intro hz <;> omega)) | (simp; omega) | (simp_all; done) | (simp_all; omega))
      all_goals go_ret
      all_goals exact ⟨ret_bool (bool_leaf HB.out (by (try simp only [beq_iff_eq, beq_eq_false_iff_ne, ne_eq] at *); unfold kindOk thereC elderC noS noP minC; (try simp only [Int.reduceEq, true_and, false_and, false_or, or_false]); first | omega | (simp; done) | (simp; omega) | (simp_all; done) | (simp_all; omega))), (by first | exact bel2 _ _ _ | exact (bel2 _ _ _).drew | exact bel3 _ _ _ _ | exact (bel3 _ _ _ _).drew | exact (bel4 _ _ _ _ _).drew | exact (bel2 _ _ _).drew.alloc (by simp <;> omega) _ | exact ((bel2 _ _ _).drew.alloc (by simp <;> omega) _).drew)⟩
    · rw [decide_eq_false hc2]
      go_wp2_with fail
      all_goals go_ret
      all_goals exact ⟨ret_bool (bool_leaf HB.out (by (try simp only [beq_iff_eq, beq_eq_false_iff_ne, ne_eq] at *); unfold kindOk thereC elderC noS noP minC; (try simp only [Int.reduceEq, true_and, false_and, false_or, or_false]); first | omega | (simp; done) | (simp; omega) | (simp_all; done) | (simp_all; omega))), (by first | exact bel2 _ _ _ | exact (bel2 _ _ _).drew | exact bel3 _ _ _ _ | exact (bel3 _ _ _ _).drew | exact (bel4 _ _ _ _ _).drew | exact (bel2 _ _ _).drew.alloc (by simp <;> omega) _ | exact ((bel2 _ _ _).drew.alloc (by simp <;> omega) _).drew)⟩
set_option maxRecDepth 100000 in
set_option maxHeartbeats 6400000 in
theorem cright5 (nm : Nat) (mn br vl bk : Int) (rf : Nat) (fr tl un : Int) (bd : List UInt8) (A : Option Addr) (c : Nat) (w : World) (h1 : 1 ≤ nm) (h2 : nm ≤ 65535) (g1 : 0 ≤ mn ∧ mn ≤ 1073741824) (hr : Rd w.heap.size w A (bv bd)) :
    Calls Try.prog 20 #[.agg #[.int .i64 5, .int .u64 nm, .int .i64 mn, .int .i64 br, .int .i64 vl, .int .i64 bk, .int .u64 rf, .int .i64 fr, .int .i64 tl, .int .i64 un, .slice A bd.length c]] w (RetB (.bool (decide (kindOk ⟨5, nm, mn, br, vl, bk, rf, fr, tl, un, bd⟩))) w) := by
  obtain ⟨q, hq⟩ : ∃ q, q = decide (kindOk ⟨5, nm, mn, br, vl, bk, rf, fr, tl, un, bd⟩) := ⟨_, rfl⟩
  rw [← hq]
  have HB := Lib.hid hq
  have HRD := Lib.hid hr
  clear hq hr
  have d1 : decide ((nm : Int) < 1) = false := decide_eq_false (by omega)
  have d2 : decide ((65535 : Int) < (nm : Int)) = false := decide_eq_false (by omega)
  by_cases g3 : 1 ≤ rf
  · have e3 : decide ((rf : Int) ≥ 1) = true := decide_eq_true (by omega)
    go_enter Try.func20, Try.ntmps20
    go_wp2_with fail
    refine (cminute_any _ _).mono ?_
    rintro e w' ⟨rfl, rfl⟩
    rw [decide_eq_true g1]
    go_wp2_with fail
    try any_goals (
      refine (csame_any ⟨5, nm, mn, br, vl, bk, rf, fr, tl, un, bd⟩ ⟨5, nm, mn, br, 0, 0, 0, 0, 0, 0, []⟩ A none c 0 _ (HRD.out.below (by first | exact bel2 _ _ _ | exact (bel2 _ _ _).drew | exact bel3 _ _ _ _ | exact (bel3 _ _ _ _).drew | exact (bel4 _ _ _ _ _).drew | exact (bel2 _ _ _).drew.alloc (by simp <;> omega) _ | exact ((bel2 _ _ _).drew.alloc (by simp <;> omega) _).drew)) (Rd.none) (by simp <;> omega)).mono ?_
      rintro e w' ⟨rfl, bw⟩
      go_wp2_with fail
      go_ret
      refine ⟨ret_bool (bool_leaf HB.out ?_), (show Below w.heap.size w _ from (by first | exact bel2 _ _ _ | exact (bel2 _ _ _).drew | exact bel3 _ _ _ _ | exact (bel3 _ _ _ _).drew | exact (bel4 _ _ _ _ _).drew | exact (bel2 _ _ _).drew.alloc (by simp <;> omega) _ | exact ((bel2 _ _ _).drew.alloc (by simp <;> omega) _).drew)).trans (bw.mono (by simp <;> omega))⟩
      try simp only [decide_eq_true_eq, ← List.length_eq_zero_iff] at *
      unfold kindOk thereC elderC noS noP minC
      try simp only
      first | omega | (simp only [Int.reduceEq, true_and, false_and, false_or, or_false, Bool.and_eq_true, decide_eq_true_eq, ne_eq]; first | omega | (constructor <;> intro hz <;> omega)) | (simp; omega) | (simp_all; done) | (simp_all; omega))
    all_goals go_ret
    all_goals exact ⟨ret_bool (bool_leaf HB.out (by (try simp only [beq_iff_eq, beq_eq_false_iff_ne, ne_eq] at *); unfold kindOk thereC elderC noS noP minC; (try simp only [Int.reduceEq, true_and, false_and, false_or, or_false]); first | omega | (simp; done) | (simp; omega) | (simp_all; done) | (simp_all; omega))), (by first | exact bel2 _ _ _ | exact (bel2 _ _ _).drew | exact bel3 _ _ _ _ | exact (bel3 _ _ _ _).drew | exact (bel4 _ _ _ _ _).drew | exact (bel2 _ _ _).drew.alloc (by simp <;> omega) _ | exact ((bel2 _ _ _).drew.alloc (by simp <;> omega) _).drew)⟩
  · have e3 : decide ((rf : Int) ≥ 1) = false := decide_eq_false (by omega)
    go_enter Try.func20, Try.ntmps20
    go_wp2_with fail
    refine (cminute_any _ _).mono ?_
    rintro e w' ⟨rfl, rfl⟩
    rw [decide_eq_true g1]
    go_wp2_with fail
    try any_goals (
      refine (csame_any ⟨5, nm, mn, br, vl, bk, rf, fr, tl, un, bd⟩ ⟨5, nm, mn, br, 0, 0, 0, 0, 0, 0, []⟩ A none c 0 _ (HRD.out.below (by first | exact bel2 _ _ _ | exact (bel2 _ _ _).drew | exact bel3 _ _ _ _ | exact (bel3 _ _ _ _).drew | exact (bel4 _ _ _ _ _).drew | exact (bel2 _ _ _).drew.alloc (by simp <;> omega) _ | exact ((bel2 _ _ _).drew.alloc (by simp <;> omega) _).drew)) (Rd.none) (by simp <;> omega)).mono ?_
      rintro e w' ⟨rfl, bw⟩
      go_wp2_with fail
      go_ret
      refine ⟨ret_bool (bool_leaf HB.out ?_), (show Below w.heap.size w _ from (by first | exact bel2 _ _ _ | exact (bel2 _ _ _).drew | exact bel3 _ _ _ _ | exact (bel3 _ _ _ _).drew | exact (bel4 _ _ _ _ _).drew | exact (bel2 _ _ _).drew.alloc (by simp <;> omega) _ | exact ((bel2 _ _ _).drew.alloc (by simp <;> omega) _).drew)).trans (bw.mono (by simp <;> omega))⟩
      try simp only [← List.length_eq_zero_iff] at *
      unfold kindOk thereC elderC noS noP minC
      try simp only
      first | omega | (simp only [Int.reduceEq, true_and, false_and, false_or, or_false, Bool.and_eq_true, decide_eq_true_eq, ne_eq]; first | omega | (constructor <;> intro hz <;> omega)) | (simp; omega) | (simp_all; done) | (simp_all; omega))
    all_goals go_ret
    all_goals exact ⟨ret_bool (bool_leaf HB.out (by (try simp only [beq_iff_eq, beq_eq_false_iff_ne, ne_eq] at *); unfold kindOk thereC elderC noS noP minC; (try simp only [Int.reduceEq, true_and, false_and, false_or, or_false]); first | omega | (simp; done) | (simp; omega) | (simp_all; done) | (simp_all; omega))), (by first | exact bel2 _ _ _ | exact (bel2 _ _ _).drew | exact bel3 _ _ _ _ | exact (bel3 _ _ _ _).drew | exact (bel4 _ _ _ _ _).drew | exact (bel2 _ _ _).drew.alloc (by simp <;> omega) _ | exact ((bel2 _ _ _).drew.alloc (by simp <;> omega) _).drew)⟩
end Go.Proofs.Ythdmdlnndbjcoaa.Ce
/-
  Right, as the document's answer tells it: kinds 4, 7.
-/
namespace Go.Proofs.Ythdmdlnndbjcoaa.Ce
open Go.RowKit
attribute [local go_sem ↓] Go.wp_at_zero Go.wp_at_succ

set_option maxRecDepth 100000 in
set_option maxHeartbeats 6400000 in
theorem cright4 (nm : Nat) (mn br vl bk : Int) (rf : Nat) (fr tl un : Int) (bd : List UInt8) (A : Option Addr) (c : Nat) (w : World) (h1 : 1 ≤ nm) (h2 : nm ≤ 65535) (g1 : 0 ≤ mn ∧ mn ≤ 1073741824) (hr : Rd w.heap.size w A (bv bd)) :
    Calls Try.prog 20 #[.agg #[.int .i64 4, .int .u64 nm, .int .i64 mn, .int .i64 br, .int .i64 vl, .int .i64 bk, .int .u64 rf, .int .i64 fr, .int .i64 tl, .int .i64 un, .slice A bd.length c]] w (RetB (.bool (decide (kindOk ⟨4, nm, mn, br, vl, bk, rf, fr, tl, un, bd⟩))) w) := by
  obtain ⟨q, hq⟩ : ∃ q, q = decide (kindOk ⟨4, nm, mn, br, vl, bk, rf, fr, tl, un, bd⟩) := ⟨_, rfl⟩
  rw [← hq]
  have HB := Lib.hid hq
  have HRD := Lib.hid hr
  clear hq hr
  have d1 : decide ((nm : Int) < 1) = false := decide_eq_false (by omega)
  have d2 : decide ((65535 : Int) < (nm : Int)) = false := decide_eq_false (by omega)
  by_cases g3 : 1 ≤ rf
  · have e3 : decide ((rf : Int) ≥ 1) = true := decide_eq_true (by omega)
    go_enter Try.func20, Try.ntmps20
    go_wp2_with fail
    refine (cminute_any _ _).mono ?_
    rintro e w' ⟨rfl, rfl⟩
    rw [decide_eq_true g1]
    go_upto_region 17 with fail
    refine wp_region_held_drew (S := (fun w' => w'.cell? ⟨w.heap.size, 3, none⟩ = some (.int .i64 br) ∧ w'.cell? ⟨w.heap.size, 4, none⟩ = some (.int .i64 vl) ∧ w'.cell? ⟨w.heap.size, 5, none⟩ = some (.int .i64 bk) ∧ w'.cell? ⟨w.heap.size, 6, none⟩ = some (.int .u64 rf) ∧ w'.cell? ⟨w.heap.size, 7, none⟩ = some (.int .i64 fr) ∧ w'.cell? ⟨w.heap.size, 8, none⟩ = some (.int .i64 tl) ∧ w'.cell? ⟨w.heap.size, 9, none⟩ = some (.int .i64 un) ∧ w'.cell? ⟨w.heap.size, 10, none⟩ = some (.slice A bd.length c))) (by kernel_rfl) ⟨by go_simp, by go_simp, by go_simp, by go_simp, by go_simp, by go_simp, by go_simp, by go_simp⟩ (fun hh => ?_)
    have HH := Lib.hid hh
    clear hh
    refine wpAnyH_take (i := 0) (v := ?vQ90) rfl (by kernel_rfl) (by kernel_rfl) (by kernel_rfl) (fun _ _ _ h => h) (Or.inl ⟨by rfl, fun w' _ => ?yQ90⟩) HH.out ?_
    case yQ90 => (go_simp; try with_reducible rfl)
    refine wpAnyH_take (i := 1) (v := ?vQ91) rfl (by kernel_rfl) (by kernel_rfl) (by kernel_rfl) (fun _ _ _ h => h) (Or.inl ⟨by rfl, fun w' _ => ?yQ91⟩) HH.out ?_
    case yQ91 => (go_simp; try with_reducible rfl)
    try simp only [List.getElem_toArray, List.getElem_cons_succ, List.getElem_cons_zero, Act.put, List.setIfInBounds_toArray, List.set_cons_zero, List.set_cons_succ]
    try simp only [List.getElem_toArray, List.getElem_cons_succ, List.getElem_cons_zero, Act.put, List.setIfInBounds_toArray, List.set_cons_zero, List.set_cons_succ]
    refine wpAnyH_take (i := 2) (v := .int .i64 br) rfl (by kernel_rfl) (by kernel_rfl) (by kernel_rfl) (fun _ _ _ h => h) (Or.inl ⟨by rfl, fun w' hw' => ?yQ92⟩) HH.out ?_
    case yQ92 => (have hc := hw'.1; go_simp; try with_reducible rfl)
    refine wpAnyH_take (i := 3) (v := ?vQ93) rfl (by kernel_rfl) (by kernel_rfl) (by kernel_rfl) (fun _ _ _ h => h) (Or.inl ⟨by rfl, fun w' _ => ?yQ93⟩) HH.out ?_
    case yQ93 => (go_simp; try with_reducible rfl)
    refine wpAnyH_take (i := 4) (v := ?vQ94) rfl (by kernel_rfl) (by kernel_rfl) (by kernel_rfl) (fun _ _ _ h => h) (Or.inl ⟨by rfl, fun w' _ => ?yQ94⟩) HH.out ?_
    case yQ94 => (go_simp; try with_reducible rfl)
    try simp only [List.getElem_toArray, List.getElem_cons_succ, List.getElem_cons_zero, Act.put, List.setIfInBounds_toArray, List.set_cons_zero, List.set_cons_succ]
    try simp only [List.getElem_toArray, List.getElem_cons_succ, List.getElem_cons_zero, Act.put, List.setIfInBounds_toArray, List.set_cons_zero, List.set_cons_succ]
    refine wpAnyH_take (i := 5) (v := .int .i64 vl) rfl (by kernel_rfl) (by kernel_rfl) (by kernel_rfl) (fun _ _ _ h => h) (Or.inl ⟨by rfl, fun w' hw' => ?yQ95⟩) HH.out ?_
    case yQ95 => (have hc := hw'.2.1; go_simp; try with_reducible rfl)
    refine wpAnyH_take (i := 6) (v := ?vQ96) rfl (by kernel_rfl) (by kernel_rfl) (by kernel_rfl) (fun _ _ _ h => h) (Or.inl ⟨by rfl, fun w' _ => ?yQ96⟩) HH.out ?_
    case yQ96 => (go_simp; try with_reducible rfl)
    try simp only [List.getElem_toArray, List.getElem_cons_succ, List.getElem_cons_zero, Act.put, List.setIfInBounds_toArray, List.set_cons_zero, List.set_cons_succ]
    refine wpAnyH_take (i := 7) (v := .int .u64 rf) rfl (by kernel_rfl) (by kernel_rfl) (by kernel_rfl) (fun _ _ _ h => h) (Or.inl ⟨by rfl, fun w' hw' => ?yQ97⟩) HH.out ?_
    case yQ97 => (have hc := hw'.2.2.2.1; go_simp; try with_reducible rfl)
    try simp only [List.getElem_toArray, List.getElem_cons_succ, List.getElem_cons_zero, Act.put, List.setIfInBounds_toArray, List.set_cons_zero, List.set_cons_succ]
    refine wpAnyH_take (i := 8) (v := ?vQ98) rfl (by kernel_rfl) (by kernel_rfl) (by kernel_rfl) (fun _ _ _ h => h) (Or.inl ⟨by rfl, fun w' _ => ?yQ98⟩) HH.out ?_
    case yQ98 => (go_simp; try with_reducible rfl)
    refine wpAnyH_take (i := 9) (v := ?vQ99) rfl (by kernel_rfl) (by kernel_rfl) (by kernel_rfl) (fun _ _ _ h => h) (Or.inl ⟨by rfl, fun w' _ => ?yQ99⟩) HH.out ?_
    case yQ99 => (go_simp; try with_reducible rfl)
    try simp only [List.getElem_toArray, List.getElem_cons_succ, List.getElem_cons_zero, Act.put, List.setIfInBounds_toArray, List.set_cons_zero, List.set_cons_succ]
    refine wpAnyH_ready (rs := [10]) (by kernel_rfl) (by simp) (AllReadyH.cons rfl (fun K hK => ?_) AllReadyH.nil)
    go_simp
    refine hK.out _ _ ⟨by go_simp, by go_simp, by go_simp, by go_simp, by go_simp, by go_simp, by go_simp, by go_simp⟩ (fun hh => ?_)
    have HH' := Lib.hid hh
    clear hh hK K HH
    have HH := Lib.hid HH'.out
    clear HH'
    try simp only [List.getElem_toArray, List.getElem_cons_succ, List.getElem_cons_zero, Act.put, List.setIfInBounds_toArray, List.set_cons_zero, List.set_cons_succ]
    refine wpAnyH_take (i := 11) (v := ?vQ911) rfl (by kernel_rfl) (by kernel_rfl) (by kernel_rfl) (fun _ _ _ h => h) (Or.inl ⟨by rfl, fun w' _ => ?yQ911⟩) HH.out ?_
    case yQ911 => (go_simp; try with_reducible rfl)
    refine wpAnyH_take (i := 12) (v := ?vQ912) rfl (by kernel_rfl) (by kernel_rfl) (by kernel_rfl) (fun _ _ _ h => h) (Or.inl ⟨by rfl, fun w' _ => ?yQ912⟩) HH.out ?_
    case yQ912 => (go_simp; try with_reducible rfl)
    try simp only [List.getElem_toArray, List.getElem_cons_succ, List.getElem_cons_zero, Act.put, List.setIfInBounds_toArray, List.set_cons_zero, List.set_cons_succ]
    refine wpAnyH_ready (rs := [13]) (by kernel_rfl) (by simp) (AllReadyH.cons rfl (fun K hK => ?_) AllReadyH.nil)
    go_simp
    refine hK.out _ _ ⟨by go_simp, by go_simp, by go_simp, by go_simp, by go_simp, by go_simp, by go_simp, by go_simp⟩ (fun hh => ?_)
    have HH' := Lib.hid hh
    clear hh hK K HH
    have HH := Lib.hid HH'.out
    clear HH'
    try simp only [List.getElem_toArray, List.getElem_cons_succ, List.getElem_cons_zero, Act.put, List.setIfInBounds_toArray, List.set_cons_zero, List.set_cons_succ]
    refine wpAnyH_take (i := 14) (v := ?vQ914) rfl (by kernel_rfl) (by kernel_rfl) (by kernel_rfl) (fun _ _ _ h => h) (Or.inl ⟨by rfl, fun w' _ => ?yQ914⟩) HH.out ?_
    case yQ914 => (go_simp; try with_reducible rfl)
    try simp only [List.getElem_toArray, List.getElem_cons_succ, List.getElem_cons_zero, Act.put, List.setIfInBounds_toArray, List.set_cons_zero, List.set_cons_succ]
    refine wpAnyH_ready (rs := [15]) (by kernel_rfl) (by simp) (AllReadyH.cons rfl (fun K hK => ?_) AllReadyH.nil)
    go_simp
    refine hK.out _ _ ⟨by go_simp, by go_simp, by go_simp, by go_simp, by go_simp, by go_simp, by go_simp, by go_simp⟩ (fun hh => ?_)
    have HH' := Lib.hid hh
    clear hh hK K HH
    have HH := Lib.hid HH'.out
    clear HH'
    try simp only [List.getElem_toArray, List.getElem_cons_succ, List.getElem_cons_zero, Act.put, List.setIfInBounds_toArray, List.set_cons_zero, List.set_cons_succ]
    refine wpAnyH_done (by kernel_rfl) ?_ _
    go_wp2_with fail
    try any_goals (
      refine (csame_any ⟨4, nm, mn, br, vl, bk, rf, fr, tl, un, bd⟩ ⟨4, nm, mn, br, vl, 0, rf, 0, 0, 0, []⟩ A none c 0 _ (HRD.out.below (by first | exact bel2 _ _ _ | exact (bel2 _ _ _).drew | exact bel3 _ _ _ _ | exact (bel3 _ _ _ _).drew | exact (bel4 _ _ _ _ _).drew | exact (bel2 _ _ _).drew.alloc (by simp <;> omega) _ | exact ((bel2 _ _ _).drew.alloc (by simp <;> omega) _).drew)) (Rd.none) (by simp <;> omega)).mono ?_
      rintro e w' ⟨rfl, bw⟩
      go_wp2_with fail
      go_ret
      refine ⟨ret_bool (bool_leaf HB.out ?_), (show Below w.heap.size w _ from (by first | exact bel2 _ _ _ | exact (bel2 _ _ _).drew | exact bel3 _ _ _ _ | exact (bel3 _ _ _ _).drew | exact (bel4 _ _ _ _ _).drew | exact (bel2 _ _ _).drew.alloc (by simp <;> omega) _ | exact ((bel2 _ _ _).drew.alloc (by simp <;> omega) _).drew)).trans (bw.mono (by simp <;> omega))⟩
      try simp only [decide_eq_true_eq, ← List.length_eq_zero_iff] at *
      unfold kindOk thereC elderC noS noP minC
      try simp only
      first | omega | (simp only [Int.reduceEq, true_and, false_and, false_or, or_false, Bool.and_eq_true, decide_eq_true_eq, bne_iff_ne, ne_eq]; first | omega | (constructor <;> intro hz <;> omega)) | (simp; omega) | (simp_all; done) | (simp_all; omega))
    all_goals go_ret
    all_goals exact ⟨ret_bool (bool_leaf HB.out (by (try simp only [beq_iff_eq, beq_eq_false_iff_ne, ne_eq] at *); unfold kindOk thereC elderC noS noP minC; (try simp only [Int.reduceEq, true_and, false_and, false_or, or_false]); first | omega | (simp; done) | (simp; omega) | (simp_all; done) | (simp_all; omega))), (by first | exact bel2 _ _ _ | exact (bel2 _ _ _).drew | exact bel3 _ _ _ _ | exact (bel3 _ _ _ _).drew | exact (bel4 _ _ _ _ _).drew | exact (bel2 _ _ _).drew.alloc (by simp <;> omega) _ | exact ((bel2 _ _ _).drew.alloc (by simp <;> omega) _).drew)⟩
  · have e3 : decide ((rf : Int) ≥ 1) = false := decide_eq_false (by omega)
    go_enter Try.func20, Try.ntmps20
    go_wp2_with fail
    refine (cminute_any _ _).mono ?_
    rintro e w' ⟨rfl, rfl⟩
    rw [decide_eq_true g1]
    go_upto_region 17 with fail
    refine wp_region_held_drew (S := (fun w' => w'.cell? ⟨w.heap.size, 3, none⟩ = some (.int .i64 br) ∧ w'.cell? ⟨w.heap.size, 4, none⟩ = some (.int .i64 vl) ∧ w'.cell? ⟨w.heap.size, 5, none⟩ = some (.int .i64 bk) ∧ w'.cell? ⟨w.heap.size, 6, none⟩ = some (.int .u64 rf) ∧ w'.cell? ⟨w.heap.size, 7, none⟩ = some (.int .i64 fr) ∧ w'.cell? ⟨w.heap.size, 8, none⟩ = some (.int .i64 tl) ∧ w'.cell? ⟨w.heap.size, 9, none⟩ = some (.int .i64 un) ∧ w'.cell? ⟨w.heap.size, 10, none⟩ = some (.slice A bd.length c))) (by kernel_rfl) ⟨by go_simp, by go_simp, by go_simp, by go_simp, by go_simp, by go_simp, by go_simp, by go_simp⟩ (fun hh => ?_)
    have HH := Lib.hid hh
    clear hh
    refine wpAnyH_take (i := 0) (v := ?vQ100) rfl (by kernel_rfl) (by kernel_rfl) (by kernel_rfl) (fun _ _ _ h => h) (Or.inl ⟨by rfl, fun w' _ => ?yQ100⟩) HH.out ?_
    case yQ100 => (go_simp; try with_reducible rfl)
    refine wpAnyH_take (i := 1) (v := ?vQ101) rfl (by kernel_rfl) (by kernel_rfl) (by kernel_rfl) (fun _ _ _ h => h) (Or.inl ⟨by rfl, fun w' _ => ?yQ101⟩) HH.out ?_
    case yQ101 => (go_simp; try with_reducible rfl)
    try simp only [List.getElem_toArray, List.getElem_cons_succ, List.getElem_cons_zero, Act.put, List.setIfInBounds_toArray, List.set_cons_zero, List.set_cons_succ]
    try simp only [List.getElem_toArray, List.getElem_cons_succ, List.getElem_cons_zero, Act.put, List.setIfInBounds_toArray, List.set_cons_zero, List.set_cons_succ]
    refine wpAnyH_take (i := 2) (v := .int .i64 br) rfl (by kernel_rfl) (by kernel_rfl) (by kernel_rfl) (fun _ _ _ h => h) (Or.inl ⟨by rfl, fun w' hw' => ?yQ102⟩) HH.out ?_
    case yQ102 => (have hc := hw'.1; go_simp; try with_reducible rfl)
    refine wpAnyH_take (i := 3) (v := ?vQ103) rfl (by kernel_rfl) (by kernel_rfl) (by kernel_rfl) (fun _ _ _ h => h) (Or.inl ⟨by rfl, fun w' _ => ?yQ103⟩) HH.out ?_
    case yQ103 => (go_simp; try with_reducible rfl)
    refine wpAnyH_take (i := 4) (v := ?vQ104) rfl (by kernel_rfl) (by kernel_rfl) (by kernel_rfl) (fun _ _ _ h => h) (Or.inl ⟨by rfl, fun w' _ => ?yQ104⟩) HH.out ?_
    case yQ104 => (go_simp; try with_reducible rfl)
    try simp only [List.getElem_toArray, List.getElem_cons_succ, List.getElem_cons_zero, Act.put, List.setIfInBounds_toArray, List.set_cons_zero, List.set_cons_succ]
    try simp only [List.getElem_toArray, List.getElem_cons_succ, List.getElem_cons_zero, Act.put, List.setIfInBounds_toArray, List.set_cons_zero, List.set_cons_succ]
    refine wpAnyH_take (i := 5) (v := .int .i64 vl) rfl (by kernel_rfl) (by kernel_rfl) (by kernel_rfl) (fun _ _ _ h => h) (Or.inl ⟨by rfl, fun w' hw' => ?yQ105⟩) HH.out ?_
    case yQ105 => (have hc := hw'.2.1; go_simp; try with_reducible rfl)
    refine wpAnyH_take (i := 6) (v := ?vQ106) rfl (by kernel_rfl) (by kernel_rfl) (by kernel_rfl) (fun _ _ _ h => h) (Or.inl ⟨by rfl, fun w' _ => ?yQ106⟩) HH.out ?_
    case yQ106 => (go_simp; try with_reducible rfl)
    try simp only [List.getElem_toArray, List.getElem_cons_succ, List.getElem_cons_zero, Act.put, List.setIfInBounds_toArray, List.set_cons_zero, List.set_cons_succ]
    refine wpAnyH_take (i := 7) (v := .int .u64 rf) rfl (by kernel_rfl) (by kernel_rfl) (by kernel_rfl) (fun _ _ _ h => h) (Or.inl ⟨by rfl, fun w' hw' => ?yQ107⟩) HH.out ?_
    case yQ107 => (have hc := hw'.2.2.2.1; go_simp; try with_reducible rfl)
    try simp only [List.getElem_toArray, List.getElem_cons_succ, List.getElem_cons_zero, Act.put, List.setIfInBounds_toArray, List.set_cons_zero, List.set_cons_succ]
    refine wpAnyH_take (i := 8) (v := ?vQ108) rfl (by kernel_rfl) (by kernel_rfl) (by kernel_rfl) (fun _ _ _ h => h) (Or.inl ⟨by rfl, fun w' _ => ?yQ108⟩) HH.out ?_
    case yQ108 => (go_simp; try with_reducible rfl)
    refine wpAnyH_take (i := 9) (v := ?vQ109) rfl (by kernel_rfl) (by kernel_rfl) (by kernel_rfl) (fun _ _ _ h => h) (Or.inl ⟨by rfl, fun w' _ => ?yQ109⟩) HH.out ?_
    case yQ109 => (go_simp; try with_reducible rfl)
    try simp only [List.getElem_toArray, List.getElem_cons_succ, List.getElem_cons_zero, Act.put, List.setIfInBounds_toArray, List.set_cons_zero, List.set_cons_succ]
    refine wpAnyH_ready (rs := [10]) (by kernel_rfl) (by simp) (AllReadyH.cons rfl (fun K hK => ?_) AllReadyH.nil)
    go_simp
    refine hK.out _ _ ⟨by go_simp, by go_simp, by go_simp, by go_simp, by go_simp, by go_simp, by go_simp, by go_simp⟩ (fun hh => ?_)
    have HH' := Lib.hid hh
    clear hh hK K HH
    have HH := Lib.hid HH'.out
    clear HH'
    try simp only [List.getElem_toArray, List.getElem_cons_succ, List.getElem_cons_zero, Act.put, List.setIfInBounds_toArray, List.set_cons_zero, List.set_cons_succ]
    refine wpAnyH_take (i := 11) (v := ?vQ1011) rfl (by kernel_rfl) (by kernel_rfl) (by kernel_rfl) (fun _ _ _ h => h) (Or.inl ⟨by rfl, fun w' _ => ?yQ1011⟩) HH.out ?_
    case yQ1011 => (go_simp; try with_reducible rfl)
    refine wpAnyH_take (i := 12) (v := ?vQ1012) rfl (by kernel_rfl) (by kernel_rfl) (by kernel_rfl) (fun _ _ _ h => h) (Or.inl ⟨by rfl, fun w' _ => ?yQ1012⟩) HH.out ?_
    case yQ1012 => (go_simp; try with_reducible rfl)
    try simp only [List.getElem_toArray, List.getElem_cons_succ, List.getElem_cons_zero, Act.put, List.setIfInBounds_toArray, List.set_cons_zero, List.set_cons_succ]
    refine wpAnyH_ready (rs := [13]) (by kernel_rfl) (by simp) (AllReadyH.cons rfl (fun K hK => ?_) AllReadyH.nil)
    go_simp
    refine hK.out _ _ ⟨by go_simp, by go_simp, by go_simp, by go_simp, by go_simp, by go_simp, by go_simp, by go_simp⟩ (fun hh => ?_)
    have HH' := Lib.hid hh
    clear hh hK K HH
    have HH := Lib.hid HH'.out
    clear HH'
    try simp only [List.getElem_toArray, List.getElem_cons_succ, List.getElem_cons_zero, Act.put, List.setIfInBounds_toArray, List.set_cons_zero, List.set_cons_succ]
    refine wpAnyH_take (i := 14) (v := ?vQ1014) rfl (by kernel_rfl) (by kernel_rfl) (by kernel_rfl) (fun _ _ _ h => h) (Or.inl ⟨by rfl, fun w' _ => ?yQ1014⟩) HH.out ?_
    case yQ1014 => (go_simp; try with_reducible rfl)
    try simp only [List.getElem_toArray, List.getElem_cons_succ, List.getElem_cons_zero, Act.put, List.setIfInBounds_toArray, List.set_cons_zero, List.set_cons_succ]
    refine wpAnyH_ready (rs := [15]) (by kernel_rfl) (by simp) (AllReadyH.cons rfl (fun K hK => ?_) AllReadyH.nil)
    go_simp
    refine hK.out _ _ ⟨by go_simp, by go_simp, by go_simp, by go_simp, by go_simp, by go_simp, by go_simp, by go_simp⟩ (fun hh => ?_)
    have HH' := Lib.hid hh
    clear hh hK K HH
    have HH := Lib.hid HH'.out
    clear HH'
    try simp only [List.getElem_toArray, List.getElem_cons_succ, List.getElem_cons_zero, Act.put, List.setIfInBounds_toArray, List.set_cons_zero, List.set_cons_succ]
    refine wpAnyH_done (by kernel_rfl) ?_ _
    go_wp2_with fail
    try any_goals (
      refine (csame_any ⟨4, nm, mn, br, vl, bk, rf, fr, tl, un, bd⟩ ⟨4, nm, mn, br, vl, 0, rf, 0, 0, 0, []⟩ A none c 0 _ (HRD.out.below (by first | exact bel2 _ _ _ | exact (bel2 _ _ _).drew | exact bel3 _ _ _ _ | exact (bel3 _ _ _ _).drew | exact (bel4 _ _ _ _ _).drew | exact (bel2 _ _ _).drew.alloc (by simp <;> omega) _ | exact ((bel2 _ _ _).drew.alloc (by simp <;> omega) _).drew)) (Rd.none) (by simp <;> omega)).mono ?_
      rintro e w' ⟨rfl, bw⟩
      go_wp2_with fail
      go_ret
      refine ⟨ret_bool (bool_leaf HB.out ?_), (show Below w.heap.size w _ from (by first | exact bel2 _ _ _ | exact (bel2 _ _ _).drew | exact bel3 _ _ _ _ | exact (bel3 _ _ _ _).drew | exact (bel4 _ _ _ _ _).drew | exact (bel2 _ _ _).drew.alloc (by simp <;> omega) _ | exact ((bel2 _ _ _).drew.alloc (by simp <;> omega) _).drew)).trans (bw.mono (by simp <;> omega))⟩
      try simp only [Cl.mk.injEq, beq_iff_eq, beq_eq_false_iff_ne, ne_eq, decide_eq_true_eq, ← List.length_eq_zero_iff] at *
      unfold kindOk thereC elderC noS noP minC
      try simp only
      first | omega | (simp only [Int.reduceEq, true_and, false_and, false_or, or_false, Bool.and_eq_true, decide_eq_true_eq, bne_iff_ne, ne_eq]; first | omega | (constructor <;> intro hz <;> omega)) | (simp; omega) | (simp_all; done) | (simp_all; omega))
    all_goals go_ret
    all_goals exact ⟨ret_bool (bool_leaf HB.out (by (try simp only [beq_iff_eq, beq_eq_false_iff_ne, ne_eq] at *); unfold kindOk thereC elderC noS noP minC; (try simp only [Int.reduceEq, true_and, false_and, false_or, or_false]); first | omega | (simp; done) | (simp; omega) | (simp_all; done) | (simp_all; omega))), (by first | exact bel2 _ _ _ | exact (bel2 _ _ _).drew | exact bel3 _ _ _ _ | exact (bel3 _ _ _ _).drew | exact (bel4 _ _ _ _ _).drew | exact (bel2 _ _ _).drew.alloc (by simp <;> omega) _ | exact ((bel2 _ _ _).drew.alloc (by simp <;> omega) _).drew)⟩
set_option maxRecDepth 100000 in
set_option maxHeartbeats 6400000 in
theorem cright7 (nm : Nat) (mn br vl bk : Int) (rf : Nat) (fr tl un : Int) (bd : List UInt8) (A : Option Addr) (c : Nat) (w : World) (h1 : 1 ≤ nm) (h2 : nm ≤ 65535) (g1 : 0 ≤ mn ∧ mn ≤ 1073741824) (hr : Rd w.heap.size w A (bv bd)) :
    Calls Try.prog 20 #[.agg #[.int .i64 7, .int .u64 nm, .int .i64 mn, .int .i64 br, .int .i64 vl, .int .i64 bk, .int .u64 rf, .int .i64 fr, .int .i64 tl, .int .i64 un, .slice A bd.length c]] w (RetB (.bool (decide (kindOk ⟨7, nm, mn, br, vl, bk, rf, fr, tl, un, bd⟩))) w) := by
  obtain ⟨q, hq⟩ : ∃ q, q = decide (kindOk ⟨7, nm, mn, br, vl, bk, rf, fr, tl, un, bd⟩) := ⟨_, rfl⟩
  rw [← hq]
  have HB := Lib.hid hq
  have HRD := Lib.hid hr
  clear hq hr
  have d1 : decide ((nm : Int) < 1) = false := decide_eq_false (by omega)
  have d2 : decide ((65535 : Int) < (nm : Int)) = false := decide_eq_false (by omega)
  by_cases g3 : 1 ≤ rf
  · have e3 : decide ((rf : Int) ≥ 1) = true := decide_eq_true (by omega)
    go_enter Try.func20, Try.ntmps20
    go_wp2_with fail
    refine (cminute_any _ _).mono ?_
    rintro e w' ⟨rfl, rfl⟩
    rw [decide_eq_true g1]
    go_wp2_with fail
    try any_goals (
      refine (csame_any ⟨7, nm, mn, br, vl, bk, rf, fr, tl, un, bd⟩ ⟨7, nm, mn, 0, 0, 0, rf, 0, 0, 0, []⟩ A none c 0 _ (HRD.out.below (by first | exact bel2 _ _ _ | exact (bel2 _ _ _).drew | exact bel3 _ _ _ _ | exact (bel3 _ _ _ _).drew | exact (bel4 _ _ _ _ _).drew | exact (bel2 _ _ _).drew.alloc (by simp <;> omega) _ | exact ((bel2 _ _ _).drew.alloc (by simp <;> omega) _).drew)) (Rd.none) (by simp <;> omega)).mono ?_
      rintro e w' ⟨rfl, bw⟩
      go_wp2_with fail
      go_ret
      refine ⟨ret_bool (bool_leaf HB.out ?_), (show Below w.heap.size w _ from (by first | exact bel2 _ _ _ | exact (bel2 _ _ _).drew | exact bel3 _ _ _ _ | exact (bel3 _ _ _ _).drew | exact (bel4 _ _ _ _ _).drew | exact (bel2 _ _ _).drew.alloc (by simp <;> omega) _ | exact ((bel2 _ _ _).drew.alloc (by simp <;> omega) _).drew)).trans (bw.mono (by simp <;> omega))⟩
      try simp only [decide_eq_true_eq, ← List.length_eq_zero_iff] at *
      unfold kindOk thereC elderC noS noP minC
      try simp only
      first | omega | (simp only [Int.reduceEq, true_and, false_and, false_or, or_false, Bool.and_eq_true, decide_eq_true_eq, ne_eq]; first | omega | (constructor <;> intro hz <;> omega)) | (simp; omega) | (simp_all; done) | (simp_all; omega))
    all_goals go_ret
    all_goals exact ⟨ret_bool (bool_leaf HB.out (by (try simp only [beq_iff_eq, beq_eq_false_iff_ne, ne_eq] at *); unfold kindOk thereC elderC noS noP minC; (try simp only [Int.reduceEq, true_and, false_and, false_or, or_false]); first | omega | (simp; done) | (simp; omega) | (simp_all; done) | (simp_all; omega))), (by first | exact bel2 _ _ _ | exact (bel2 _ _ _).drew | exact bel3 _ _ _ _ | exact (bel3 _ _ _ _).drew | exact (bel4 _ _ _ _ _).drew | exact (bel2 _ _ _).drew.alloc (by simp <;> omega) _ | exact ((bel2 _ _ _).drew.alloc (by simp <;> omega) _).drew)⟩
  · have e3 : decide ((rf : Int) ≥ 1) = false := decide_eq_false (by omega)
    go_enter Try.func20, Try.ntmps20
    go_wp2_with fail
    refine (cminute_any _ _).mono ?_
    rintro e w' ⟨rfl, rfl⟩
    rw [decide_eq_true g1]
    go_wp2_with fail
    try any_goals (
      refine (csame_any ⟨7, nm, mn, br, vl, bk, rf, fr, tl, un, bd⟩ ⟨7, nm, mn, 0, 0, 0, rf, 0, 0, 0, []⟩ A none c 0 _ (HRD.out.below (by first | exact bel2 _ _ _ | exact (bel2 _ _ _).drew | exact bel3 _ _ _ _ | exact (bel3 _ _ _ _).drew | exact (bel4 _ _ _ _ _).drew | exact (bel2 _ _ _).drew.alloc (by simp <;> omega) _ | exact ((bel2 _ _ _).drew.alloc (by simp <;> omega) _).drew)) (Rd.none) (by simp <;> omega)).mono ?_
      rintro e w' ⟨rfl, bw⟩
      go_wp2_with fail
      go_ret
      refine ⟨ret_bool (bool_leaf HB.out ?_), (show Below w.heap.size w _ from (by first | exact bel2 _ _ _ | exact (bel2 _ _ _).drew | exact bel3 _ _ _ _ | exact (bel3 _ _ _ _).drew | exact (bel4 _ _ _ _ _).drew | exact (bel2 _ _ _).drew.alloc (by simp <;> omega) _ | exact ((bel2 _ _ _).drew.alloc (by simp <;> omega) _).drew)).trans (bw.mono (by simp <;> omega))⟩
      try simp only [Cl.mk.injEq, beq_iff_eq, beq_eq_false_iff_ne, ne_eq, decide_eq_true_eq, ← List.length_eq_zero_iff] at *
      unfold kindOk thereC elderC noS noP minC
      try simp only
      first | omega | (simp only [Int.reduceEq, true_and, false_and, false_or, or_false, Bool.and_eq_true, decide_eq_true_eq, bne_iff_ne, ne_eq]; first | omega | (constructor <;> intro hz <;> omega)) | (simp; omega) | (simp_all; done) | (simp_all; omega))
    all_goals go_ret
    all_goals exact ⟨ret_bool (bool_leaf HB.out (by (try simp only [beq_iff_eq, beq_eq_false_iff_ne, ne_eq] at *); unfold kindOk thereC elderC noS noP minC; (try simp only [Int.reduceEq, true_and, false_and, false_or, or_false]); first | omega | (simp; done) | (simp; omega) | (simp_all; done) | (simp_all; omega))), (by first | exact bel2 _ _ _ | exact (bel2 _ _ _).drew | exact bel3 _ _ _ _ | exact (bel3 _ _ _ _).drew | exact (bel4 _ _ _ _ _).drew | exact (bel2 _ _ _).drew.alloc (by simp <;> omega) _ | exact ((bel2 _ _ _).drew.alloc (by simp <;> omega) _).drew)⟩
end Go.Proofs.Ythdmdlnndbjcoaa.Ce
