/-
  SectorUnpacks holds: of every place and sector the law returns true, and its arguments read as they did.
-/
import Derived.Test.YtgfldfofiglefaaMa3
import Derived.Test.YtgfldfofiglefaaRows
import Derived.ProofKit
import Derived.OpenShut
import Derived.ShutString
import Derived.ChangeOld
namespace Go.Proofs.Ytgfldfofiglefaa
open Go.RowKit Kd Sx Go.ChangeShapes Go.WideShapes Go.ChangeAt
attribute [local go_sem ↓] Go.wp_at_zero Go.wp_at_succ
set_option maxRecDepth 100000 in
set_option maxHeartbeats 12800000 in
theorem sectorUnpacks_any (w : World) (a : Int) (_ : -9223372036854775808 ≤ a ∧ a ≤ 9223372036854775807) (s : List UInt8) (hs : s.length = 128) :
    Calls Try.prog 9 #[.int .i64 a, .agg (bva s)] w (RetB (.bool true) w) := by
  obtain ⟨z, hz0⟩ : ∃ z : List UInt8, z = zeroS := ⟨_, rfl⟩
  have hz : ∀ W, (zeroValue 38).run Try.prog W = .ok (.agg (bva z)) W := fun _ => by rw [hz0]; kernel_rfl
  have HZ0 := Lib.hid hz0
  have HZ3 := Lib.hid (show z.length = 128 by rw [hz0]; exact zeroS_length)
  have HIZ : Hid ((Try.prog.info? 38).map (·.size) = some (bva z).size) := by rw [bva_size, HZ3.out]; exact info_sec
  have HLIT := Lib.hid (show Try.zeroCells98 = zeroLit by kernel_rfl)
  clear hz0
  have S3 := Lib.hid hs
  have HS3 := Lib.hid hs
  clear hs
  have HIS : Hid ((Try.prog.info? 38).map (·.size) = some (bva s).size) := by rw [bva_size, S3.out]; exact info_sec
  obtain ⟨w0, hw0⟩ : ∃ w0, w0 = w.alloc (.cells (bva s) 38) := ⟨_, rfl⟩
  have B0 := Lib.hid (show Blk w0 w.heap.size (bva s) 38 from by rw [hw0]; exact heap_alloc_new _ _)
  have BEL := Lib.hid (show Below w.heap.size w w0 from by rw [hw0]; exact (Below.refl _ _).alloc (Nat.le_refl _) _)
  have HCN := Lib.hid (show ∀ W, Calls Try.prog 54 #[.nilIface, .int .i64 a, .agg (bva s)] W (RetU 0 [] false W) from fun W => unpack_nil a s S3.out W)
  have heq : ∀ W, (Op.equalIn 10000 38 (.agg (bva s)) (.agg (bva s))).run Try.prog W = .ok true W := fun W => by rw [eq_sec s s S3.out S3.out, decide_eq_true rfl]
  cases hok : okS litSumL a s with
  | true =>
    obtain ⟨g, hg⟩ : ∃ g, g = genS s := ⟨_, rfl⟩
    obtain ⟨b, hb⟩ : ∃ b, b = bodyS s := ⟨_, rfl⟩
    have hu : unpackS litSumL a s = (g, b) := by rw [unpackS, hok, if_pos rfl, hg, hb]
    obtain ⟨n, hn⟩ : ∃ n, n = b.length := ⟨_, rfl⟩
    have OA3 := Lib.hid (show b.length = n from hn.symm)
    have OB3 := Lib.hid (show b.length = n from hn.symm)
    have HCP := Lib.hid (show ∀ W A c, Rd W.heap.size W A (bv b) → Calls Try.prog 51 #[.iface 98 (.agg Try.zeroCells98), .int .i64 a, .int .u64 g, .slice A n c] W (RetB (.tuple #[.agg (bva s), .bool true]) W) from fun W A c hr => by
      have h := pack_any litS a g (by rw [hg]; exact genS_lt s) A n c b W hn.symm hr
      rw [show litS.f = litSumL from rfl, hg, hb, pack_ok hok, (ok_may hok).1] at h
      rw [HLIT.out, hg]; exact h)
    have HCU := Lib.hid (show ∀ W, Calls Try.prog 54 #[.iface 98 (.agg Try.zeroCells98), .int .i64 a, .agg (bva s)] W (RetU g b true W) from fun W => by
      have h := unpack_any litS a s S3.out W
      rw [show litS.f = litSumL from rfl, hu, hok] at h
      rw [HLIT.out]; exact h)
    have HCR := Lib.hid (show ∀ W, Calls Try.prog 55 #[.int .i64 a, .agg (bva s)] W (RetU g b true W) from fun W => by
      have h := runpack_any a s S3.out W
      rw [hu, hok] at h; exact h)
    clear hu hok hg hb hn
    go_enter Try.func9, Try.ntmps9
    go_wp2_with fail
    rw [← hw0]
    clear hw0
    refine (awake_any _).mono ?_
    rintro e w1 ⟨rfl, bw⟩
    have B0' := Lib.hid (Blk.below B0.out bw)
    have BEL' := Lib.hid (BEL.out.trans (bw.mono BEL.out.size))
    clear B0 BEL
    have B0 := Lib.hid B0'.out
    have BEL := Lib.hid BEL'.out
    clear B0' BEL'
    clear bw
    go_wp2_with (refine wpList_load_row rfl 38 (.tmp 3) rfl w.heap.size rfl 38 (bva s) (0, 0) _ B0.out Try.underlying38 rfl HIS.out ?_)
    refine (HCU.out _).mono ?_
    rintro e w2 ⟨A2, n2, c2, rfl, ho, bw⟩
    obtain rfl : n = n2 := by have h1 := own_blen ho; have h2 := OA3.out; omega
    have B0' := Lib.hid (Blk.below B0.out bw)
    have BEL' := Lib.hid (BEL.out.trans (bw.mono BEL.out.size))
    clear B0 BEL
    have B0 := Lib.hid B0'.out
    have BEL := Lib.hid BEL'.out
    clear B0' BEL'
    have OA := Lib.hid (show w2.ownsRow 0 5 1 (.slice A2 n c2) n _ from own_more ho (Nat.zero_le _))
    clear ho bw
    go_wp2_with (refine wpList_load_row rfl 38 (.tmp 3) rfl w.heap.size rfl 38 (bva s) (0, 0) _ B0.out Try.underlying38 rfl HIS.out ?_)
    refine (HCR.out _).mono ?_
    rintro e w3 ⟨A3, n3, c3, rfl, ho, bw⟩
    obtain rfl : n = n3 := by have h1 := own_blen ho; have h2 := OB3.out; omega
    have B0' := Lib.hid (Blk.below B0.out bw)
    have BEL' := Lib.hid (BEL.out.trans (bw.mono BEL.out.size))
    have OA' := Lib.hid (own_below OA.out bw)
    clear B0 BEL OA
    have B0 := Lib.hid B0'.out
    have BEL := Lib.hid BEL'.out
    have OA := Lib.hid OA'.out
    clear B0' BEL' OA'
    have OB := Lib.hid (show w3.ownsRow 0 5 1 (.slice A3 n c3) n _ from own_more ho (Nat.zero_le _))
    clear ho bw
    go_wp2_with (refine wpList_load_row rfl 38 (.tmp 3) rfl w.heap.size rfl 38 (bva s) (0, 0) _ B0.out Try.underlying38 rfl HIS.out ?_)
    refine (HCN.out _).mono ?_
    rintro e w4 ⟨A4, n4, c4, rfl, ho, bw⟩
    have B0' := Lib.hid (Blk.below B0.out bw)
    have BEL' := Lib.hid (BEL.out.trans (bw.mono BEL.out.size))
    have OA' := Lib.hid (own_below OA.out bw)
    have OB' := Lib.hid (own_below OB.out bw)
    clear B0 BEL OA OB
    have B0 := Lib.hid B0'.out
    have BEL := Lib.hid BEL'.out
    have OA := Lib.hid OA'.out
    have OB := Lib.hid OB'.out
    clear B0' BEL' OA' OB'
    have OC := Lib.hid (show w4.ownsRow 0 5 1 (.slice A4 n4 c4) n4 _ from own_more ho (Nat.zero_le _))
    clear ho bw
    go_wp2_with fail
    refine (same_any A2 A3 n n c2 c3 b b _ OA3.out OB3.out (Rd.own OA.out) (Rd.own OB.out)).mono ?_
    rintro e w5 ⟨rfl, rfl⟩
    rw [decide_eq_true (rfl : b = b)]
    go_wp2_with fail
    refine (HCP.out _ A2 c2 (Rd.own OA.out)).mono ?_
    rintro e w6 ⟨rfl, bw⟩
    have B0' := Lib.hid (Blk.below B0.out bw)
    have BEL' := Lib.hid (BEL.out.trans (bw.mono BEL.out.size))
    have OA' := Lib.hid (own_below OA.out bw)
    have OB' := Lib.hid (own_below OB.out bw)
    have OC' := Lib.hid (own_below OC.out bw)
    clear B0 BEL OA OB OC
    have B0 := Lib.hid B0'.out
    have BEL := Lib.hid BEL'.out
    have OA := Lib.hid OA'.out
    have OB := Lib.hid OB'.out
    have OC := Lib.hid OC'.out
    clear B0' BEL' OA' OB' OC'
    clear bw
    go_wp2_with (first
      | (show wpList _ _ _ ({ dst := none, op := .store 38 (.tmp 14) (.tmp 70), type := _, pos := _, after := _, guard := _ } :: _) _ _; apply Classical.byContradiction; intro hneg))
    refine hneg ?_
    clear hneg
    refine wpList_store_row rfl 38 (.tmp 14) (.tmp 70) rfl w6.heap.size (bva s) rfl rfl 38 (bva z) (heap_alloc_new _ _) HIS.out (by rw [bva_size, bva_size, S3.out, HZ3.out]) (bva_one _) ?_
    obtain ⟨w7, hw7⟩ : ∃ x, x = (w6.alloc (.cells (bva z) 38)).setRow w6.heap.size (bva s) := ⟨_, rfl⟩
    rw [← hw7]
    obtain ⟨g7, hg7⟩ : ∃ x, x = w6.heap.size := ⟨_, rfl⟩
    have bn : Below w6.heap.size w6 w7 := by rw [hw7]; exact below_new (Below.refl _ _) (Nat.le_refl _)
    have B1 := Lib.hid (show Blk w7 g7 (bva s) 38 from by rw [hw7, hg7]; exact blk_new _)
    rw [← hg7]
    clear hw7 hg7
    have B0' := Lib.hid (Blk.below B0.out bn)
    have BEL' := Lib.hid (BEL.out.trans (bn.mono BEL.out.size))
    have OA' := Lib.hid (own_below OA.out bn)
    have OB' := Lib.hid (own_below OB.out bn)
    have OC' := Lib.hid (own_below OC.out bn)
    clear B0 BEL OA OB OC
    have B0 := Lib.hid B0'.out
    have BEL := Lib.hid BEL'.out
    have OA := Lib.hid OA'.out
    have OB := Lib.hid OB'.out
    have OC := Lib.hid OC'.out
    clear B0' BEL' OA' OB' OC'
    clear bn
    go_wp2_with (first
      | (refine wpList_execg8 (o := { dst := some 74, op := .load 38 (.tmp 14), type := _, pos := _, after := _, guard := _ }) (v := .agg (bva s)) (w' := w7) rfl ?hl74 ?_; case hl74 => exact exec_load 38 (.tmp 14) rfl rfl B1.out Try.underlying38 rfl HIS.out)
      | (refine wpList_execg8 (o := { dst := some 75, op := .load 38 (.tmp 3), type := _, pos := _, after := _, guard := _ }) (v := .agg (bva s)) (w' := w7) rfl ?hl75 ?_; case hl75 => exact exec_load 38 (.tmp 3) rfl rfl B0.out Try.underlying38 rfl HIS.out))
    go_ret
    exact ⟨rfl, BEL.out⟩
  | false =>
    have hu : unpackS litSumL a s = (0, []) := by rw [unpackS, hok, if_neg (by simp)]
    have OA3 := Lib.hid (show ([] : List UInt8).length = 0 from rfl)
    have OB3 := Lib.hid (show ([] : List UInt8).length = 0 from rfl)
    have HCU := Lib.hid (show ∀ W, Calls Try.prog 54 #[.iface 98 (.agg Try.zeroCells98), .int .i64 a, .agg (bva s)] W (RetU 0 [] false W) from fun W => by
      have h := unpack_any litS a s S3.out W
      rw [show litS.f = litSumL from rfl, hu, hok] at h
      rw [HLIT.out]; exact h)
    have HCR := Lib.hid (show ∀ W, Calls Try.prog 55 #[.int .i64 a, .agg (bva s)] W (RetU 0 [] false W) from fun W => by
      have h := runpack_any a s S3.out W
      rw [hu, hok] at h; exact h)
    clear hu hok
    go_enter Try.func9, Try.ntmps9
    go_wp2_with fail
    rw [← hw0]
    clear hw0
    refine (awake_any _).mono ?_
    rintro e w8 ⟨rfl, bw⟩
    have B0' := Lib.hid (Blk.below B0.out bw)
    have BEL' := Lib.hid (BEL.out.trans (bw.mono BEL.out.size))
    clear B0 BEL
    have B0 := Lib.hid B0'.out
    have BEL := Lib.hid BEL'.out
    clear B0' BEL'
    clear bw
    go_wp2_with (refine wpList_load_row rfl 38 (.tmp 3) rfl w.heap.size rfl 38 (bva s) (0, 0) _ B0.out Try.underlying38 rfl HIS.out ?_)
    refine (HCU.out _).mono ?_
    rintro e w9 ⟨A9, n9, c9, rfl, ho, bw⟩
    obtain rfl : 0 = n9 := by have h1 := own_blen ho; have h2 := OA3.out; omega
    have B0' := Lib.hid (Blk.below B0.out bw)
    have BEL' := Lib.hid (BEL.out.trans (bw.mono BEL.out.size))
    clear B0 BEL
    have B0 := Lib.hid B0'.out
    have BEL := Lib.hid BEL'.out
    clear B0' BEL'
    have OA := Lib.hid (show w9.ownsRow 0 5 1 (.slice A9 0 c9) 0 _ from own_more ho (Nat.zero_le _))
    clear ho bw
    go_wp2_with (refine wpList_load_row rfl 38 (.tmp 3) rfl w.heap.size rfl 38 (bva s) (0, 0) _ B0.out Try.underlying38 rfl HIS.out ?_)
    refine (HCR.out _).mono ?_
    rintro e w10 ⟨A10, n10, c10, rfl, ho, bw⟩
    obtain rfl : 0 = n10 := by have h1 := own_blen ho; have h2 := OB3.out; omega
    have B0' := Lib.hid (Blk.below B0.out bw)
    have BEL' := Lib.hid (BEL.out.trans (bw.mono BEL.out.size))
    have OA' := Lib.hid (own_below OA.out bw)
    clear B0 BEL OA
    have B0 := Lib.hid B0'.out
    have BEL := Lib.hid BEL'.out
    have OA := Lib.hid OA'.out
    clear B0' BEL' OA'
    have OB := Lib.hid (show w10.ownsRow 0 5 1 (.slice A10 0 c10) 0 _ from own_more ho (Nat.zero_le _))
    clear ho bw
    go_wp2_with (refine wpList_load_row rfl 38 (.tmp 3) rfl w.heap.size rfl 38 (bva s) (0, 0) _ B0.out Try.underlying38 rfl HIS.out ?_)
    refine (HCN.out _).mono ?_
    rintro e w11 ⟨A11, n11, c11, rfl, ho, bw⟩
    have B0' := Lib.hid (Blk.below B0.out bw)
    have BEL' := Lib.hid (BEL.out.trans (bw.mono BEL.out.size))
    have OA' := Lib.hid (own_below OA.out bw)
    have OB' := Lib.hid (own_below OB.out bw)
    clear B0 BEL OA OB
    have B0 := Lib.hid B0'.out
    have BEL := Lib.hid BEL'.out
    have OA := Lib.hid OA'.out
    have OB := Lib.hid OB'.out
    clear B0' BEL' OA' OB'
    have OC := Lib.hid (show w11.ownsRow 0 5 1 (.slice A11 n11 c11) n11 _ from own_more ho (Nat.zero_le _))
    clear ho bw
    go_wp2_with fail
    refine (same_any A9 A10 0 0 c9 c10 ([] : List UInt8) ([] : List UInt8) _ OA3.out OB3.out (Rd.own OA.out) (Rd.own OB.out)).mono ?_
    rintro e w12 ⟨rfl, rfl⟩
    rw [decide_eq_true (rfl : ([] : List UInt8) = ([] : List UInt8))]
    go_wp2_with fail
    go_ret
    exact ⟨rfl, BEL.out⟩
theorem sectorUnpacks_own : ownKnob Try.prog.godebug = none := by kernel_rfl
theorem sectorUnpacks_laid : laidOutB Try.prog = true := by kernel_rfl

set_option maxRecDepth 100000 in
theorem sectorUnpacks_lifted (os : Os) (started : os.Started) (H : Type) (enc : TypeId × Value → H) :
    ReturnsInHanded {} Try.checked os 9 .any (Rows.sectorUnpacksSpec.pre6 enc Try.prog Try.f9 Rows.sectorUnpacksRow.domain false) (Rows.sectorUnpacksSpec.post enc Try.prog Try.f9 false true false false) := by
  refine returnsInHanded_of_change (C := Try.checked) sectorUnpacks_own started (by kernel_rfl) Try.func9
    (ChangeSpec.witness6 (enc := enc) (C := Try.checked) false ⟨#[], #[.int .i64 0, .agg #[.int .u8 0, .int .u8 0, .int .u8 0, .int .u8 0, .int .u8 0, .int .u8 0, .int .u8 0, .int .u8 0, .int .u8 0, .int .u8 0, .int .u8 0, .int .u8 0, .int .u8 0, .int .u8 0, .int .u8 0, .int .u8 0, .int .u8 0, .int .u8 0, .int .u8 0, .int .u8 0, .int .u8 0, .int .u8 0, .int .u8 0, .int .u8 0, .int .u8 0, .int .u8 0, .int .u8 0, .int .u8 0, .int .u8 0, .int .u8 0, .int .u8 0, .int .u8 0, .int .u8 0, .int .u8 0, .int .u8 0, .int .u8 0, .int .u8 0, .int .u8 0, .int .u8 0, .int .u8 0, .int .u8 0, .int .u8 0, .int .u8 0, .int .u8 0, .int .u8 0, .int .u8 0, .int .u8 0, .int .u8 0, .int .u8 0, .int .u8 0, .int .u8 0, .int .u8 0, .int .u8 0, .int .u8 0, .int .u8 0, .int .u8 0, .int .u8 0, .int .u8 0, .int .u8 0, .int .u8 0, .int .u8 0, .int .u8 0, .int .u8 0, .int .u8 0, .int .u8 0, .int .u8 0, .int .u8 0, .int .u8 0, .int .u8 0, .int .u8 0, .int .u8 0, .int .u8 0, .int .u8 0, .int .u8 0, .int .u8 0, .int .u8 0, .int .u8 0, .int .u8 0, .int .u8 0, .int .u8 0, .int .u8 0, .int .u8 0, .int .u8 0, .int .u8 0, .int .u8 0, .int .u8 0, .int .u8 0, .int .u8 0, .int .u8 0, .int .u8 0, .int .u8 0, .int .u8 0, .int .u8 0, .int .u8 0, .int .u8 0, .int .u8 0, .int .u8 0, .int .u8 0, .int .u8 0, .int .u8 0, .int .u8 0, .int .u8 0, .int .u8 0, .int .u8 0, .int .u8 0, .int .u8 0, .int .u8 0, .int .u8 0, .int .u8 0, .int .u8 0, .int .u8 0, .int .u8 0, .int .u8 0, .int .u8 0, .int .u8 0, .int .u8 0, .int .u8 0, .int .u8 0, .int .u8 0, .int .u8 0, .int .u8 0, .int .u8 0, .int .u8 0, .int .u8 0, .int .u8 0, .int .u8 0, .int .u8 0, .int .u8 0]], []⟩ 8 (by kernel_rfl) (by kernel_rfl) (by kernel_rfl) (by kernel_rfl)) ?_
  intro W base args ds gs before hval0 hW _ _
  have hval : ∀ (j : Nat) t v, Try.f9.params[j]? = some t → args[j]? = some v → Value.okWide Try.prog W .any base t v := hval0
  have hW' := hW
  obtain ⟨p, q, hA0, hV, rfl, hfz, hnd⟩ := hW
  have hA : DataW.TrodAll enc Try.prog W 0 (fun _ => true) true Try.f9.params.toList args.toList ds p := hA0
  rw [Try.params9] at hA hval
  obtain ⟨v0, vs0, d0, ds0, p0, q0, hargs, rfl, rfl, h0, r0⟩ := trodAll_cons hA
  obtain ⟨v1, vs1, d1, ds1, p1, q1, rfl, rfl, rfl, h1, r1⟩ := trodAll_cons r0
  obtain ⟨rfl, rfl, rfl⟩ := trodAll_nil r1
  obtain rfl : args = #[v0, v1] := by cases args; simp_all
  obtain ⟨rfl, rfl⟩ := trodVars_none hV
  obtain ⟨a0, rfl, rfl, rfl, w0⟩ := open_int Try.underlying3 (hval 0 3 v0 rfl rfl) h0
  have b0 := bounds_i64 w0
  have lt1 : ∀ x ∈ p1, x.block < W.heap.size := by obtain ⟨m, hm⟩ := h1; exact DataW.trod_lt m _ _ _ hm
  obtain ⟨l1, hl1, rfl⟩ := open_u8s Try.underlying38 Try.underlying5 (by kernel_rfl) (by kernel_rfl) (hval 1 38 v1 rfl rfl) h1
  clear hA0 hval0
  refine (sectorUnpacks_any W a0 b0 l1 hl1).mono fun e W' ⟨he, bel⟩ => ?_
  subst he
  exact ⟨_, rfl, _, _, _, [], _, [], hW', trodAll_mk1 (shut_bool Try.underlying4 _), (trodAll_cons_mk (shut_int Try.underlying3 w0) (trodAll_cons_mk (Below.trod sectorUnpacks_laid (by kernel_rfl) (of_decide_eq_true (by kernel_rfl)) h1 bel lt1) trodAll_mk0)), rfl, bel.frame _, fun h => by cases h⟩

theorem sectorUnpacks_holds : Rows.SectorUnpacksSaid :=
  OpenClaim.holds_of_wide 9 Try.f9 rfl rfl rfl rfl rfl rfl rfl ⟨rfl, rfl, rfl, rfl, rfl⟩ rfl rfl rfl rfl rfl (by kernel_rfl) Try.func9 (by kernel_rfl)
    (of_decide_eq_true (by kernel_rfl)) (by unfold Func.isWrapper; rw [if_neg (of_decide_eq_false (by kernel_rfl))]; exact ⟨rfl, rfl⟩)
    (fun os started H enc _ => sectorUnpacks_lifted os started H enc)

#print axioms sectorUnpacks_holds

end Go.Proofs.Ytgfldfofiglefaa
