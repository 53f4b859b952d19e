/-
  CipherHides holds: of every key, number and bytes the law returns true, and its arguments read as they did.
-/
import Derived.Test.YtobkkbpeoohfkaaCiSpy
import Derived.Test.YtobkkbpeoohfkaaCiBuild
import Derived.Test.YtobkkbpeoohfkaaCiAwake
import Derived.Test.YtobkkbpeoohfkaaSame
import Derived.Test.YtobkkbpeoohfkaaOpen
import Derived.Test.YtobkkbpeoohfkaaOpenA
import Derived.ProofKit
import Derived.OpenShut
import Derived.ShutString
import Derived.ChangeOld
namespace Go.Proofs.Ytobkkbpeoohfkaa
open Go.RowKit Go.ChangeShapes Go.WideShapes Go.ChangeAt
attribute [local go_sem ↓] Go.wp_at_zero Go.wp_at_succ
theorem bv_set (l : List UInt8) (k : Nat) (x : UInt8) : bv (l.set k x) = (bv l).set k (.int .u8 (x.toNat : Int)) := by simp [bv, List.map_set]
set_option maxRecDepth 100000 in
set_option maxHeartbeats 3200000 in
theorem cipherHides_any (w : World) (k : List UInt8) (hk : k.length = 32) (n : Int) (_hn : 0 ≤ n ∧ n ≤ 18446744073709551615) (A : Option Addr) (m c : Nat) (l : List UInt8) (hl : l.length = m) (_hc : m ≤ c) (_hm : c ≤ maxLen) (hr : Rd w.heap.size w A (bv l)) :
    Calls Try.prog 5 #[.agg (bva k), .int .u64 n, .slice A m c] w (RetB (.bool true) w) := by
  have b1 : Blk (w.alloc (.cells (bva k) 23)) w.heap.size (bva k) 23 := heap_alloc_new _ _
  have hb : Below w.heap.size w (w.alloc (.cells (bva k) 23)) := (Below.refl _ _).alloc (Nat.le_refl _) _
  have HI : Hid ((Try.prog.info? 23).map (·.size) = some (bva k).size) := by rw [bva_size, hk]; exact Ci.info_key
  have NM : Hid (m ≤ maxLen) := Nat.le_trans _hc _hm
  have HK := Lib.hid hk
  have HL := Lib.hid hl
  have HR := Lib.hid hr
  have B1 := Lib.hid b1
  have BB := Lib.hid hb
  clear b1 hb hk hl hr
  by_cases hs : m ≤ 100
  · have hd : decide ((100 : Int) < (m : Int)) = false := by simp; omega
    go_enter Try.func5, Try.ntmps5
    go_wp2_with fail
    refine (Ci.ciAwake_any _).mono ?_
    rintro e w1 ⟨rfl, bw⟩
    have C1 := Lib.hid (B1.out.below bw)
    have CB := Lib.hid (BB.out.trans (bw.mono BB.out.size))
    clear bw B1 BB
    obtain ⟨t1, t2, t3, tb⟩ := three_blocks w1 (.cells #[.int .i64 0] 3) (.cells #[.int .i64 0] 3) (.cells (bva []) 5)
    have D0 := Lib.hid (C1.out.below (tb.mono (Nat.le_refl _)))
    have D1 := Lib.hid (show Blk _ _ _ _ from t1)
    have D2 := Lib.hid (show Blk _ _ _ _ from t2)
    have D3 := Lib.hid (show Blk _ _ _ _ from t3)
    have DB := Lib.hid (CB.out.trans (tb.mono CB.out.size))
    have hgl : w.heap.size < w1.heap.size := C1.out.lt
    clear t1 t2 t3 tb C1 CB
    go_wp2_with (first
      | (at_builtin
         refine wpList_app _ rfl (.tmp 17) (.tmp 18) 33 rfl Wi.bytesElt (base := w1.heap.size + 1 + 1) (v := .slice (some ⟨w1.heap.size + 1 + 1, 0, none⟩) 0 0) rfl (own_of_blk D3.out rfl (Nat.zero_le _) (Nat.le_refl _)) (m := m) rfl (HR.out.below DB.out) (by rw [bv_length]; exact HL.out) (bv_one _) ?_ ?_ ?_
         · omega
         · exact Nat.le_of_lt D3.out.lt
         intro A0 c0 w2 hown hgr _
         have hbb : Below (w1.heap.size + 1 + 1) _ w2 := app_below (Below.refl _ _) (own_of_blk D3.out rfl (Nat.zero_le _) (Nat.le_refl _)) hgr (Nat.le_refl _) (Nat.le_of_lt D3.out.lt)
         have e0 : Blk w2 w.heap.size (bva k) 23 := (hbb.block _ (by omega)).trans D0.out
         have e1 : Blk w2 w1.heap.size #[.int .i64 0] 3 := (hbb.block _ (by omega)).trans D1.out
         have e2 : Blk w2 (w1.heap.size + 1) #[.int .i64 0] 3 := (hbb.block _ (by omega)).trans D2.out
         have eb : Below w.heap.size w w2 := DB.out.trans (hbb.mono (by omega))
         have E0 := Lib.hid e0
         have E1 := Lib.hid e1
         have E2 := Lib.hid e2
         have EB := Lib.hid eb
         rw [bv_nil, List.nil_append] at hown
         have EO := Lib.hid (own_eq hown (Nat.zero_add m) rfl)
         have e3 : Value.slice A0 (0 + m) c0 = .slice A0 m c0 := slice_eq (Nat.zero_add m)
         rw [e3]
         clear e3 hown hgr hbb e0 e1 e2 eb D0 D1 D2 D3 DB)
      | (refine wpList_load_row rfl 23 (.tmp 3) rfl w.heap.size rfl 23 (bva k) (0, 0) _ E0.out Try.underlying23 rfl HI.out ?_))
    have hgp : w.heap.size ≤ w1.heap.size := by omega
    refine (Ci.hide_spy2 k n w1.heap.size _ A m c l w2 HK.out HL.out E1.out hgp (HR.out.below EB.out)).mono ?_
    rintro e w3 ⟨w3', pz, hpz, hb3, A1, m1, c1, rfl, ho1, hbr⟩
    have hs3 : w2.heap.size ≤ w3'.heap.size := by have := hb3.size; simpa using this
    have hb4 : Below w2.heap.size (w2.setCell ⟨w1.heap.size, 0, none⟩ (.int .i64 pz)) w3 := hb3.trans (hbr.mono hs3)
    have hg2 : w1.heap.size + 1 < w2.heap.size := E2.out.lt
    have hs2 : w2.heap.size ≤ w3.heap.size := by have := hb4.size; simpa using this
    have f0 : Blk w3 w.heap.size (bva k) 23 := (hb4.block _ (by omega)).trans (E0.out.other (g' := w1.heap.size) (by omega) 0 (.int .i64 pz))
    have f1 : Blk w3 w1.heap.size #[.int .i64 pz] 3 := (hb4.block _ (by omega)).trans (Ci.blk_cell E1.out)
    have f2 : Blk w3 (w1.heap.size + 1) #[.int .i64 0] 3 := (hb4.block _ (by omega)).trans (E2.out.other (g' := w1.heap.size) (by omega) 0 (.int .i64 pz))
    have fb : Below w.heap.size w w3 := (EB.out.setCell (p := ⟨w1.heap.size, 0, none⟩) hgp (.int .i64 pz)).trans (hb4.mono EB.out.size)
    have fw : Rd w2.heap.size w3 A0 (bv l) := (Ci.rd_far (v := .int .i64 pz) (k := 0) EO.out (by omega)).below hb4
    have hxl : (Ci.hidL l (Ci.litL k n)).length = m1 := own_blen ho1
    obtain ⟨x, hx⟩ : ∃ x, x = Ci.hidL l (Ci.litL k n) := ⟨_, rfl⟩
    have hx32 : m1 ≤ 32 := by rw [← hxl]; exact Ci.hidL_length _ _
    rw [← hx] at ho1 hxl
    have N0 := Lib.hid (own_max EO.out)
    have N1 := Lib.hid (own_max ho1)
    have HX := Lib.hid hx
    have HXL := Lib.hid hxl
    have F0 := Lib.hid f0
    have F1 := Lib.hid f1
    have F2 := Lib.hid f2
    have FB := Lib.hid fb
    have FW := Lib.hid fw
    have FO := Lib.hid ho1
    clear hb3 hb4 hbr f0 f1 f2 fb fw ho1 hxl hx E0 E1 E2 EB EO
    obtain ⟨L, hL⟩ : ∃ L, L = Ci.litL k n := ⟨_, rfl⟩
    have HL3 : Hid (L.length = 32) := by show _ = _; rw [hL, Ci.litL_length]
    have HLL := Lib.hid hL
    clear hL
    go_wp2_with (refine wpList_load_row rfl 23 (.tmp 3) rfl w.heap.size rfl 23 (bva k) (0, 0) _ F0.out Try.underlying23 rfl HI.out ?_)
    refine (Ci.litpad_any k HK.out n _).mono ?_
    rintro e w4 ⟨rfl, bw⟩
    rw [← HLL.out]
    have G0 := Lib.hid (F0.out.below bw)
    have G1 := Lib.hid (F1.out.below bw)
    have G2 := Lib.hid (F2.out.below bw)
    have GB := Lib.hid (FB.out.trans (bw.mono FB.out.size))
    have GW := Lib.hid (FW.out.below (bw.mono hs2))
    have GO := Lib.hid (own_below FO.out bw)
    have hs34 := bw.size
    clear bw F0 F1 F2 FB FW FO
    go_wp2_with fail
    refine (Ci.refhide2 L HL3.out A m c l _ HL.out ((HR.out.below GB.out).more GB.out.size)).mono ?_
    rintro e w5 ⟨A2, m2, c2, rfl, ho2, bw⟩
    rw [HLL.out, ← HX.out] at ho2
    have hm2 : m1 = m2 := by rw [← own_blen ho2, HXL.out]
    obtain rfl : m1 = m2 := hm2
    have N2 := Lib.hid (own_max ho2)
    have R2 := Lib.hid (Rd.own ho2)
    have hs4 : w2.heap.size ≤ w4.heap.size := by have h1 := bw.size; have h2 := GB.out.size; have h3 := G2.out.lt; exact Nat.le_trans hs2 hs34
    have H0 := Lib.hid (G0.out.below bw)
    have H1 := Lib.hid (G1.out.below bw)
    have H2 := Lib.hid (G2.out.below bw)
    have HB := Lib.hid (GB.out.trans (bw.mono GB.out.size))
    have HW := Lib.hid (GW.out.below (bw.mono hs4))
    have HO := Lib.hid (own_below GO.out bw)
    have hs5 : w2.heap.size ≤ w5.heap.size := Nat.le_trans hs4 bw.size
    clear bw ho2 G0 G1 G2 GB GW GO
    go_wp2_with fail
    refine (same_r (b := true) (by rw [decide_eq_true rfl]) HXL.out HXL.out (Rd.own HO.out) R2.out N1.out N2.out).mono ?_
    rintro e w6 ⟨rfl, bw⟩
    have i1 := H1.out.below bw
    have i2 := H2.out.below bw
    have c1' := i1.cell 0
    have c2' := i2.cell 0
    have I0 := Lib.hid (H0.out.below bw)
    have IB := Lib.hid (HB.out.trans (bw.mono HB.out.size))
    have IW := Lib.hid (HW.out.below (bw.mono hs5))
    have IO := Lib.hid (own_below HO.out bw)
    have hs6 : w2.heap.size ≤ w6.heap.size := Nat.le_trans hs5 bw.size
    have hdp : decide ((1 : Int) < pz) = false := by simp; omega
    clear bw i1 i2 H0 H1 H2 HB HW HO R2
    go_wp2_with (refine Ci.wpList_load_if (by rfl) 23 (.tmp 3) rfl (g := w.heap.size) (cs := bva k) (A := 23) rfl I0.out Try.underlying23 rfl HI.out ?_)
    refine (Ci.hide_nil k n A m c _).mono ?_
    rintro e w7 ⟨rfl, bw⟩
    have JB := Lib.hid (IB.out.trans (bw.mono IB.out.size))
    have JW := Lib.hid (IW.out.below (bw.mono hs6))
    have JO := Lib.hid (own_below IO.out bw)
    have hs7 : w2.heap.size ≤ w7.heap.size := Nat.le_trans hs6 bw.size
    clear bw c1' c2' I0 IB IW IO
    go_wp2_with fail
    have hbase : w.heap.size ≤ w3'.heap.size := Nat.le_trans (by omega : w.heap.size ≤ w2.heap.size) hs3
    go_loopw [11] (fun i wr => ∃ j : Nat, j ≤ m1 ∧ i = .int .i64 j ∧ Below w3'.heap.size w7 wr ∧ ∃ ys : List UInt8, ys.length = m1 ∧ wr.ownsRow w3'.heap.size 5 1 (.slice A1 m1 c1) m1 (bv ys)) (fun i _ => m1 - (intOf i).toNat)
    case atStart => exact ⟨0, by omega, rfl, Below.refl _ _, x, HXL.out, JO.out⟩
    case round =>
      clear JO
      obtain ⟨j, hj, rfl, hbw, ys, hys, how⟩ := hrel
      by_cases hlt : j < m1
      · obtain ⟨g, hA, hgb, _, _⟩ := own_addr how (by omega)
        subst hA
        have hc := how.cellAt j (by omega)
        have hf := how.frozenAt j
        rw [bv_get (by omega)] at hc
        obtain ⟨Y, hY⟩ : ∃ Y, Y = ys[j] := ⟨_, rfl⟩
        rw [← hY] at hc
        have j0 : (0 : Int) ≤ (j : Int) := by omega
        have j1 : (j : Int) < (m1 : Int) := by omega
        have HB' := Lib.hid hbw
        have HS := Lib.hid (fun v => (how.stored j v).1)
        clear hY hbw how
        go_wp2
        go_roundw
        case rel =>
          have ev : Value.int .u8 (((Y.toNat : Int) + 1) % 256) = .int .u8 (((Y + 1).toNat : Int)) := int_eq (by rw [UInt8.toNat_add]; show _ = (((Y.toNat + 1) % 256 : Nat) : Int); omega)
          exact ⟨j + 1, by omega, by go_num, by exact HB'.out.setCell hgb _, ys.set j (Y + 1), by rw [List.length_set]; exact hys, by rw [ev, bv_set ys j (Y + 1)]; exact HS.out _⟩
        case measure => simp [intOf]; omega
      · obtain rfl : j = m1 := by omega
        go_wp2_with fail
        refine (same_r (b := true) (by rw [decide_eq_true rfl]) HL.out HL.out ((HR.out.below JB.out).below (hbw.mono hbase)) (JW.out.below (hbw.mono hs3)) NM.out N0.out).mono ?_
        rintro e w8 ⟨rfl, bw⟩
        have KB := Lib.hid ((JB.out.trans (hbw.mono hbase)).trans (bw.mono (Nat.le_trans JB.out.size hbw.size)))
        clear bw
        go_wp2_with fail
        go_ret
        exact ⟨rfl, KB.out⟩
  · have hd : decide ((100 : Int) < (m : Int)) = true := by simp; omega
    go_enter Try.func5, Try.ntmps5
    go_wp2_with fail
    refine (Ci.ciAwake_any _).mono ?_
    rintro e w1 ⟨rfl, bw⟩
    have CB := Lib.hid (BB.out.trans (bw.mono BB.out.size))
    clear bw B1 BB
    go_wp2_with fail
    go_ret
    exact ⟨rfl, CB.out⟩
theorem cipherHides_own : ownKnob Try.prog.godebug = none := by kernel_rfl
theorem cipherHides_laid : laidOutB Try.prog = true := by kernel_rfl

set_option maxRecDepth 100000 in
theorem cipherHides_lifted (os : Os) (started : os.Started) (H : Type) (enc : TypeId × Value → H) :
    ReturnsInHanded {} Try.checked os 5 .any (Rows.cipherHidesSpec.pre6 enc Try.prog Try.f5 Rows.cipherHidesRow.domain false) (Rows.cipherHidesSpec.post enc Try.prog Try.f5 false true false false) := by
  refine returnsInHanded_of_change (C := Try.checked) cipherHides_own started (by kernel_rfl) Try.func5
    (ChangeSpec.witness6 (enc := enc) (C := Try.checked) false ⟨#[], #[.agg #[.int .u8 0, .int .u8 0, .int .u8 0, .int .u8 0, .int .u8 0, .int .u8 0, .int .u8 0, .int .u8 0, .int .u8 0, .int .u8 0, .int .u8 0, .int .u8 0, .int .u8 0, .int .u8 0, .int .u8 0, .int .u8 0, .int .u8 0, .int .u8 0, .int .u8 0, .int .u8 0, .int .u8 0, .int .u8 0, .int .u8 0, .int .u8 0, .int .u8 0, .int .u8 0, .int .u8 0, .int .u8 0, .int .u8 0, .int .u8 0, .int .u8 0, .int .u8 0], .int .u64 0, .slice none 0 0], []⟩ 8 (by kernel_rfl) (by kernel_rfl) (by kernel_rfl) (by kernel_rfl)) ?_
  intro W base args ds gs before hval0 hW _ _
  have hval : ∀ (j : Nat) t v, Try.f5.params[j]? = some t → args[j]? = some v → Value.okWide Try.prog W .any base t v := hval0
  have hW' := hW
  obtain ⟨p, q, hA0, hV, rfl, hfz, hnd⟩ := hW
  have hA : DataW.TrodAll enc Try.prog W 0 (fun _ => true) true Try.f5.params.toList args.toList ds p := hA0
  rw [Try.params5] at hA hval
  obtain ⟨v0, vs0, d0, ds0, p0, q0, hargs, rfl, rfl, h0, r0⟩ := trodAll_cons hA
  obtain ⟨v1, vs1, d1, ds1, p1, q1, rfl, rfl, rfl, h1, r1⟩ := trodAll_cons r0
  obtain ⟨v2, vs2, d2, ds2, p2, q2, rfl, rfl, rfl, h2, r2⟩ := trodAll_cons r1
  obtain ⟨rfl, rfl, rfl⟩ := trodAll_nil r2
  obtain rfl : args = #[v0, v1, v2] := by cases args; simp_all
  obtain ⟨rfl, rfl⟩ := trodVars_none hV
  have lt0 : ∀ x ∈ p0, x.block < W.heap.size := by obtain ⟨m, hm⟩ := h0; exact DataW.trod_lt m _ _ _ hm
  obtain ⟨l0, hl0, rfl⟩ := open_u8s Try.underlying23 Try.underlying5 (by kernel_rfl) (by kernel_rfl) (hval 0 23 v0 rfl rfl) h0
  obtain ⟨a1, rfl, rfl, rfl, w1⟩ := open_int Try.underlying24 (hval 1 24 v1 rfl rfl) h1
  have b1 := bounds_u64 w1
  obtain ⟨a2, n2, c2, rfl⟩ := okWide_slice Try.underlying33 (hval 2 33 v2 rfl rfl)
  have lt2 : ∀ x ∈ p2, x.block < W.heap.size := by obtain ⟨m, hm⟩ := h2; exact DataW.trod_lt m _ _ _ hm
  obtain ⟨l2, hl2, hc2, hm2, hr2⟩ := open_bytes Try.underlying33 Try.underlying5 (by kernel_rfl) h2
  clear hA0 hval0
  refine (cipherHides_any W l0 hl0 a1 b1 a2 n2 c2 l2 hl2 hc2 hm2 hr2).mono fun e W' ⟨he, bel⟩ => ?_
  subst he
  exact ⟨_, rfl, _, _, _, [], _, [], hW', trodAll_mk1 (shut_bool Try.underlying4 _), (trodAll_cons_mk (Below.trod cipherHides_laid (by kernel_rfl) (of_decide_eq_true (by kernel_rfl)) h0 bel lt0) (trodAll_cons_mk (shut_int Try.underlying24 w1) (trodAll_cons_mk (Below.trod cipherHides_laid (by kernel_rfl) (of_decide_eq_true (by kernel_rfl)) h2 bel lt2) trodAll_mk0))), rfl, bel.frame _, fun h => by cases h⟩

theorem cipherHides_holds : Rows.CipherHidesSaid :=
  OpenClaim.holds_of_wide 5 Try.f5 rfl rfl rfl rfl rfl rfl rfl ⟨rfl, rfl, rfl, rfl, rfl⟩ rfl rfl rfl rfl rfl (by kernel_rfl) Try.func5 (by kernel_rfl)
    (of_decide_eq_true (by kernel_rfl)) (by unfold Func.isWrapper; rw [if_neg (of_decide_eq_false (by kernel_rfl))]; exact ⟨rfl, rfl⟩)
    (fun os started H enc _ => cipherHides_lifted os started H enc)

#print axioms cipherHides_holds

end Go.Proofs.Ytobkkbpeoohfkaa
