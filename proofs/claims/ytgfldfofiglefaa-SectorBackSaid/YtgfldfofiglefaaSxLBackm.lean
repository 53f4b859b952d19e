/-
  SectorBack holds: of every place, number and body (any length) the law returns true, and its arguments read as they did.
-/
import Derived.Test.YtgfldfofiglefaaMa3
import Derived.Test.YtgfldfofiglefaaRows
import Derived.ProofKit
import Derived.OpenShut
import Derived.ShutString
import Derived.ChangeOld
namespace Go.Proofs.Ytgfldfofiglefaa
open Go.RowKit Kd Sx Go.ChangeShapes Go.WideShapes Go.ChangeAt
attribute [local go_sem ↓] Go.wp_at_zero Go.wp_at_succ
theorem bv_setS (m : List UInt8) (j : Nat) (b : UInt8) : (bv m).set j (.int .u8 (b.toNat : Int)) = bv (m.set j b) := by rw [bv, bv, List.map_set]
set_option maxRecDepth 100000 in
set_option maxHeartbeats 12800000 in
theorem sectorBack_any (w : World) (a : Int) (ha : 0 ≤ a ∧ a ≤ 65535) (gi : Int) (hgi : 0 ≤ gi ∧ gi ≤ 18446744073709551615) (A : Option Addr) (n c : Nat) (l : List UInt8) (hl : l.length = n) (_ : n ≤ c) (_ : c ≤ maxLen) (hr : Rd w.heap.size w A (bv l)) :
    Calls Try.prog 10 #[.int .u16 a, .int .u64 gi, .slice A n c] w (RetB (.bool true) w) := by
  obtain ⟨g, rfl⟩ := Int.eq_ofNat_of_zero_le hgi.1
  have HG := Lib.hid (show U64 g from by unfold U64; omega)
  have HL := Lib.hid hl
  have RA := Lib.hid hr
  have OA3 := Lib.hid hl
  clear hgi hl hr
  obtain ⟨z, hz0⟩ : ∃ z : List UInt8, z = zeroS := ⟨_, rfl⟩
  have hz : ∀ W, (zeroValue 38).run Try.prog W = .ok (.agg (bva z)) W := fun _ => by rw [hz0]; kernel_rfl
  have HZ0 := Lib.hid hz0
  have HZ3 := Lib.hid (show z.length = 128 by rw [hz0]; exact zeroS_length)
  have HIZ : Hid ((Try.prog.info? 38).map (·.size) = some (bva z).size) := by rw [bva_size, HZ3.out]; exact info_sec
  have HLIT := Lib.hid (show Try.zeroCells98 = zeroLit by kernel_rfl)
  clear hz0
  by_cases hbig : 103 < n
  · have hd : decide ((103 : Int) < (n : Int)) = true := by simp; omega
    clear hbig
    go_enter Try.func10, Try.ntmps10
    go_wp2_with fail
    refine (awake_any _).mono ?_
    rintro e w1 ⟨rfl, bw⟩
    go_wp2_with fail
    go_ret
    exact ⟨rfl, bw⟩
  have hd : decide ((103 : Int) < (n : Int)) = false := by simp; omega
  have HN := Lib.hid (show n ≤ 103 by omega)
  obtain ⟨k, hk⟩ : ∃ k : Nat, (k : Int) = a % 4096 := ⟨(a % 4096).toNat, by omega⟩
  have HK := Lib.hid (show k < 4096 by omega)
  have a0 := ha.1
  have a1 := ha.2
  have ek : a % 4096 = (k : Int) := hk.symm
  have hmay := Lib.hid (show mayS (k : Int) l = true from decide_eq_true ⟨by omega, by omega, by have := HL.out; omega⟩)
  obtain ⟨s, hs⟩ : ∃ s, s = sealedS litSumL k g l := ⟨_, rfl⟩
  have S3 := Lib.hid (show s.length = 128 by rw [hs]; exact sealedS_length litSumL_length (by have := HL.out; omega))
  have HIS : Hid ((Try.prog.info? 38).map (·.size) = some (bva s).size) := by rw [bva_size, S3.out]; exact info_sec
  have HCP := Lib.hid (show ∀ W, Rd W.heap.size W A (bv l) → Calls Try.prog 51 #[.iface 98 (.agg Try.zeroCells98), .int .i64 k, .int .u64 g, .slice A n c] W (RetB (.tuple #[.agg (bva s), .bool true]) W) from fun W hr => by
    have h := pack_any litS k g HG.out A n c l W HL.out hr
    rw [hmay.out, packS, hmay.out, if_pos rfl] at h
    rw [HLIT.out, hs]; exact h)
  have HCU := Lib.hid (show ∀ W, Calls Try.prog 54 #[.iface 98 (.agg Try.zeroCells98), .int .i64 k, .agg (bva s)] W (RetU g l true W) from fun W => by
    have h := unpack_any litS k s S3.out W
    rw [show litS.f = litSumL from rfl, hs, unpack_sealed litSumL_length hmay.out HG.out, ok_sealed litSumL_length hmay.out HG.out] at h
    rw [HLIT.out, hs]; exact h)
  clear hk hs hbig ha hmay
  have BEL := Lib.hid (Below.refl w.heap.size w)
  go_enter Try.func10, Try.ntmps10
  go_wp2_with fail
  refine (awake_any _).mono ?_
  rintro e w1 ⟨rfl, bw⟩
  have RA' := Lib.hid (RA.out.below (bw.mono BEL.out.size))
  have BEL' := Lib.hid (BEL.out.trans (bw.mono BEL.out.size))
  clear RA BEL
  have RA := Lib.hid RA'.out
  have BEL := Lib.hid BEL'.out
  clear RA' BEL'
  clear bw
  go_wp2_with fail
  refine (HCP.out _ (RA.out.more BEL.out.size)).mono ?_
  rintro e w2 ⟨rfl, bw⟩
  have RA' := Lib.hid (RA.out.below (bw.mono BEL.out.size))
  have BEL' := Lib.hid (BEL.out.trans (bw.mono BEL.out.size))
  clear RA BEL
  have RA := Lib.hid RA'.out
  have BEL := Lib.hid BEL'.out
  clear RA' BEL'
  clear bw
  go_wp2_with (first
    | (show wpList _ _ _ ({ dst := none, op := .store 38 (.tmp 8) (.tmp 32), type := _, pos := _, after := _, guard := _ } :: _) _ _; apply Classical.byContradiction; intro hneg))
  refine hneg ?_
  clear hneg
  refine wpList_store_row rfl 38 (.tmp 8) (.tmp 32) rfl w2.heap.size (bva s) rfl rfl 38 (bva z) (heap_alloc_new _ _) HIS.out (by rw [bva_size, bva_size, S3.out, HZ3.out]) (bva_one _) ?_
  obtain ⟨w3, hw3⟩ : ∃ x, x = (w2.alloc (.cells (bva z) 38)).setRow w2.heap.size (bva s) := ⟨_, rfl⟩
  rw [← hw3]
  obtain ⟨g3, hg3⟩ : ∃ x, x = w2.heap.size := ⟨_, rfl⟩
  have bn : Below w2.heap.size w2 w3 := by rw [hw3]; exact below_new (Below.refl _ _) (Nat.le_refl _)
  have B1 := Lib.hid (show Blk w3 g3 (bva s) 38 from by rw [hw3, hg3]; exact blk_new _)
  rw [← hg3]
  clear hw3 hg3
  have RA' := Lib.hid (RA.out.below (bn.mono BEL.out.size))
  have BEL' := Lib.hid (BEL.out.trans (bn.mono BEL.out.size))
  clear RA BEL
  have RA := Lib.hid RA'.out
  have BEL := Lib.hid BEL'.out
  clear RA' BEL'
  clear bn
  go_wp2_with (refine wpList_load_row rfl 38 (.tmp 8) rfl g3 rfl 38 (bva s) (0, 0) _ B1.out Try.underlying38 rfl HIS.out ?_)
  have hgl : g3 < w3.heap.size := B1.out.lt
  refine (HCU.out _).mono ?_
  rintro e w4 ⟨A4, n4, c4, rfl, ho, bw⟩
  obtain rfl : n = n4 := by have h1 := own_blen ho; have h2 := OA3.out; omega
  have HBS := Lib.hid (show w.heap.size ≤ w3.heap.size from BEL.out.size)
  obtain ⟨bs, hbs⟩ : ∃ bs, bs = w3.heap.size := ⟨_, rfl⟩
  have OA := Lib.hid (show w4.ownsRow bs 5 1 (.slice A4 n c4) n (bv l) from by rw [hbs]; exact ho)
  rw [← hbs] at HBS hgl
  have HGL := Lib.hid hgl
  have RA' := Lib.hid (RA.out.below (bw.mono BEL.out.size))
  have BEL' := Lib.hid (BEL.out.trans (bw.mono BEL.out.size))
  have B1' := Lib.hid (Blk.below B1.out bw)
  clear RA BEL B1
  have RA := Lib.hid RA'.out
  have BEL := Lib.hid BEL'.out
  have B1 := Lib.hid B1'.out
  clear RA' BEL' B1'
  clear ho bw hbs hgl
  go_wp2_with fail
  refine (same_any A4 A n n c4 c l l _ HL.out HL.out (Rd.own OA.out) RA.out).mono ?_
  rintro e w5 ⟨rfl, rfl⟩
  rw [decide_eq_true (rfl : l = l)]
  go_wp2_with fail
  go_loopw [62] (fun i wr => ∃ j : Nat, j ≤ n ∧ i = .int .i64 j ∧ (∃ m : List UInt8, wr.ownsRow bs 5 1 (.slice A4 n c4) n (bv m)) ∧ Blk wr g3 (bva s) 38 ∧ Below w.heap.size w wr ∧ Rd w.heap.size wr A (bv l)) (fun i _ => n - (intOf i).toNat)
  case atStart => exact ⟨0, Nat.zero_le _, rfl, ⟨l, OA.out⟩, B1.out, BEL.out, RA.out⟩
  case round =>
    clear OA B1 BEL RA
    obtain ⟨j, hj, rfl, ⟨m, hom⟩, hb1, hbel, hra⟩ := hrel
    by_cases hlt : j < n
    · have k0 : (0 : Int) ≤ (j : Int) := by omega
      have k1 : (j : Int) < (n : Int) := by omega
      have wj : IntKind.i64.wrap ((j : Int) + 1) = ((j + 1 : Nat) : Int) := IntWalk.i64_in _ (by have := HN.out; omega)
      have hml : m.length = n := own_blen hom
      obtain ⟨q, cap, hv, hqb, hql⟩ := hom.form (by omega)
      injection hv with hv1 _ hv2
      subst hv1 hv2
      obtain ⟨x, hx⟩ : ∃ x, x = m[j]'(by omega) := ⟨_, rfl⟩
      have hc := hom.cellAt j (by omega)
      rw [bv_get (show j < m.length by omega), ← hx] at hc
      have hf := hom.frozenAt j
      have hs0 := (hom.stored j (.int .u8 (((x.toNat : Int) + 1) % 256))).1
      have HXV := Lib.hid (show (((x.toNat : Int) + 1) % 256) = ((UInt8.ofNat (x.toNat + 1)).toNat : Int) by rw [UInt8.toNat_ofNat']; omega)
      rw [HXV.out, bv_setS] at hs0
      have HS := Lib.hid hs0
      have HML := Lib.hid hml
      have HQB := Lib.hid hqb
      have HB1 := Lib.hid hb1
      have HBEL := Lib.hid hbel
      have HRA := Lib.hid hra
      have HJ := Lib.hid hlt
      clear hx hml hom hb1 hbel hra hqb hql hs0 hj hlt
      go_wp2_with fail
      go_roundw
      case rel =>
        have hq1 := HQB.out
        have hq2 := HGL.out
        have hq3 := HBS.out
        rw [HXV.out]
        exact ⟨j + 1, HJ.out, by go_num, ⟨_, HS.out⟩, HB1.out.other (by omega) _ _, HBEL.out.setCell (by simp only []; omega) _, HRA.out.below ((Below.refl _ _).setCell (by simp only []; omega) _)⟩
      case measure => (have := HJ.out; simp [intOf]; omega)
    · obtain rfl : j = n := by omega
      have B1 := Lib.hid hb1
      have BEL := Lib.hid hbel
      have RA := Lib.hid hra
      clear hom hb1 hbel hra hlt hj
      go_wp2_with (refine wpList_load_row rfl 38 (.tmp 8) rfl g3 rfl 38 (bva s) (0, 0) _ B1.out Try.underlying38 rfl HIS.out ?_)
      refine (HCU.out _).mono ?_
      rintro e w6 ⟨A6, n6, c6, rfl, ho, bw⟩
      obtain rfl : j = n6 := by have h1 := own_blen ho; have h2 := OA3.out; omega
      have B1' := Lib.hid (Blk.below B1.out bw)
      have BEL' := Lib.hid (BEL.out.trans (bw.mono BEL.out.size))
      have RA' := Lib.hid (RA.out.below (bw.mono BEL.out.size))
      clear B1 BEL RA
      have B1 := Lib.hid B1'.out
      have BEL := Lib.hid BEL'.out
      have RA := Lib.hid RA'.out
      clear B1' BEL' RA'
      have OC := Lib.hid (show w6.ownsRow 0 5 1 (.slice A6 j c6) j _ from own_more ho (Nat.zero_le _))
      clear ho bw
      go_wp2_with fail
      refine (same_any A6 A j j c6 c l l _ HL.out HL.out (Rd.own OC.out) RA.out).mono ?_
      rintro e w7 ⟨rfl, rfl⟩
      rw [decide_eq_true (rfl : l = l)]
      go_wp2_with fail
      go_ret
      exact ⟨rfl, BEL.out⟩
theorem sectorBack_own : ownKnob Try.prog.godebug = none := by kernel_rfl
theorem sectorBack_laid : laidOutB Try.prog = true := by kernel_rfl

set_option maxRecDepth 100000 in
theorem sectorBack_lifted (os : Os) (started : os.Started) (H : Type) (enc : TypeId × Value → H) :
    ReturnsInHanded {} Try.checked os 10 .any (Rows.sectorBackSpec.pre6 enc Try.prog Try.f10 Rows.sectorBackRow.domain false) (Rows.sectorBackSpec.post enc Try.prog Try.f10 false true false false) := by
  refine returnsInHanded_of_change (C := Try.checked) sectorBack_own started (by kernel_rfl) Try.func10
    (ChangeSpec.witness6 (enc := enc) (C := Try.checked) false ⟨#[], #[.int .u16 0, .int .u64 0, .slice none 0 0], []⟩ 8 (by kernel_rfl) (by kernel_rfl) (by kernel_rfl) (by kernel_rfl)) ?_
  intro W base args ds gs before hval0 hW _ _
  have hval : ∀ (j : Nat) t v, Try.f10.params[j]? = some t → args[j]? = some v → Value.okWide Try.prog W .any base t v := hval0
  have hW' := hW
  obtain ⟨p, q, hA0, hV, rfl, hfz, hnd⟩ := hW
  have hA : DataW.TrodAll enc Try.prog W 0 (fun _ => true) true Try.f10.params.toList args.toList ds p := hA0
  rw [Try.params10] at hA hval
  obtain ⟨v0, vs0, d0, ds0, p0, q0, hargs, rfl, rfl, h0, r0⟩ := trodAll_cons hA
  obtain ⟨v1, vs1, d1, ds1, p1, q1, rfl, rfl, rfl, h1, r1⟩ := trodAll_cons r0
  obtain ⟨v2, vs2, d2, ds2, p2, q2, rfl, rfl, rfl, h2, r2⟩ := trodAll_cons r1
  obtain ⟨rfl, rfl, rfl⟩ := trodAll_nil r2
  obtain rfl : args = #[v0, v1, v2] := by cases args; simp_all
  obtain ⟨rfl, rfl⟩ := trodVars_none hV
  obtain ⟨a0, rfl, rfl, rfl, w0⟩ := open_int Try.underlying105 (hval 0 105 v0 rfl rfl) h0
  have b0 := bounds_u16 w0
  obtain ⟨a1, rfl, rfl, rfl, w1⟩ := open_int Try.underlying91 (hval 1 91 v1 rfl rfl) h1
  have b1 := bounds_u64 w1
  obtain ⟨a2, n2, c2, rfl⟩ := okWide_slice Try.underlying71 (hval 2 71 v2 rfl rfl)
  have lt2 : ∀ x ∈ p2, x.block < W.heap.size := by obtain ⟨m, hm⟩ := h2; exact DataW.trod_lt m _ _ _ hm
  obtain ⟨l2, hl2, hc2, hm2, hr2⟩ := open_bytes Try.underlying71 Try.underlying5 (by kernel_rfl) h2
  clear hA0 hval0
  refine (sectorBack_any W a0 b0 a1 b1 a2 n2 c2 l2 hl2 hc2 hm2 hr2).mono fun e W' ⟨he, bel⟩ => ?_
  subst he
  exact ⟨_, rfl, _, _, _, [], _, [], hW', trodAll_mk1 (shut_bool Try.underlying4 _), (trodAll_cons_mk (shut_int Try.underlying105 w0) (trodAll_cons_mk (shut_int Try.underlying91 w1) (trodAll_cons_mk (Below.trod sectorBack_laid (by kernel_rfl) (of_decide_eq_true (by kernel_rfl)) h2 bel lt2) trodAll_mk0))), rfl, bel.frame _, fun h => by cases h⟩

theorem sectorBack_holds : Rows.SectorBackSaid :=
  OpenClaim.holds_of_wide 10 Try.f10 rfl rfl rfl rfl rfl rfl rfl ⟨rfl, rfl, rfl, rfl, rfl⟩ rfl rfl rfl rfl rfl (by kernel_rfl) Try.func10 (by kernel_rfl)
    (of_decide_eq_true (by kernel_rfl)) (by unfold Func.isWrapper; rw [if_neg (of_decide_eq_false (by kernel_rfl))]; exact ⟨rfl, rfl⟩)
    (fun os started H enc _ => sectorBack_lifted os started H enc)

#print axioms sectorBack_holds

end Go.Proofs.Ytgfldfofiglefaa
