/-
  SectorGood holds: of every place, sector and number the law returns true, and its arguments read as they did.
-/
import Derived.Test.YtgfldfofiglefaaMa3
import Derived.Test.YtgfldfofiglefaaRows
import Derived.ProofKit
import Derived.OpenShut
import Derived.ShutString
import Derived.ChangeOld
namespace Go.Proofs.Ytgfldfofiglefaa
open Go.RowKit Kd Sx Go.ChangeShapes Go.WideShapes Go.ChangeAt
attribute [local go_sem ↓] Go.wp_at_zero Go.wp_at_succ
set_option maxRecDepth 100000 in
set_option maxHeartbeats 12800000 in
theorem sectorGood_any (w : World) (a : Int) (_ : -9223372036854775808 ≤ a ∧ a ≤ 9223372036854775807) (s : List UInt8) (hs : s.length = 128) (gi : Int) (hgi : 0 ≤ gi ∧ gi ≤ 18446744073709551615) :
    Calls Try.prog 12 #[.int .i64 a, .agg (bva s), .int .u64 gi] w (RetB (.bool true) w) := by
  obtain ⟨g, rfl⟩ := Int.eq_ofNat_of_zero_le hgi.1
  have HG := Lib.hid (show U64 g from by unfold U64; omega)
  clear hgi
  obtain ⟨z, hz0⟩ : ∃ z : List UInt8, z = zeroS := ⟨_, rfl⟩
  have hz : ∀ W, (zeroValue 38).run Try.prog W = .ok (.agg (bva z)) W := fun _ => by rw [hz0]; kernel_rfl
  have HZ0 := Lib.hid hz0
  have HZ3 := Lib.hid (show z.length = 128 by rw [hz0]; exact zeroS_length)
  have HIZ : Hid ((Try.prog.info? 38).map (·.size) = some (bva z).size) := by rw [bva_size, HZ3.out]; exact info_sec
  have HLIT := Lib.hid (show Try.zeroCells98 = zeroLit by kernel_rfl)
  clear hz0
  have S3 := Lib.hid hs
  have HIS : Hid ((Try.prog.info? 38).map (·.size) = some (bva s).size) := by rw [bva_size, S3.out]; exact info_sec
  obtain ⟨w0, hw0⟩ : ∃ w0, w0 = w.alloc (.cells (bva s) 38) := ⟨_, rfl⟩
  have B0 := Lib.hid (show Blk w0 w.heap.size (bva s) 38 from by rw [hw0]; exact heap_alloc_new _ _)
  have BEL := Lib.hid (show Below w.heap.size w w0 from by rw [hw0]; exact (Below.refl _ _).alloc (Nat.le_refl _) _)
  obtain ⟨ok, hok⟩ : ∃ ok, ok = okS litSumL a s := ⟨_, rfl⟩
  obtain ⟨U1, hU1⟩ : ∃ x, x = (unpackS litSumL a s).1 := ⟨_, rfl⟩
  obtain ⟨U2, hU2⟩ : ∃ x, x = (unpackS litSumL a s).2 := ⟨_, rfl⟩
  have HCR := Lib.hid (show ∀ W, Calls Try.prog 55 #[.int .i64 a, .agg (bva s)] W (RetU U1 U2 ok W) from fun W => by
    rw [hU1, hU2, hok]; exact runpack_any a s S3.out W)
  have HCS := Lib.hid (show ∀ W b, Blk W b #[.iface 98 (.agg Try.zeroCells98)] 159 → Calls Try.prog 106 #[.int .i64 a, .agg (bva s), .pointer (some ⟨b, 0, none⟩)] W (RetB (.bool ok) W) from fun W b hb => by
    rw [hok]; exact goodf_any _ _ a s S3.out b W hb _ _ (fun W => by rw [HLIT.out]; exact unpack_any litS a s S3.out W))
  have HCN := Lib.hid (show ∀ W b, Blk W b #[.nilIface] 159 → Calls Try.prog 106 #[.int .i64 a, .agg (bva s), .pointer (some ⟨b, 0, none⟩)] W (RetB (.bool false) W) from fun W b hb =>
    goodf_any _ _ a s S3.out b W hb _ _ (fun W => unpack_nil a s S3.out W))
  obtain ⟨q, hq⟩ : ∃ q, q = s.take 9 := ⟨_, rfl⟩
  have HQ3 := Lib.hid (show q.length = 9 by rw [hq, List.length_take, hs]; rfl)
  have HQR := Lib.hid (show ∀ W, Blk W w.heap.size (bva s) 38 → Rd W.heap.size W (some ⟨w.heap.size, 0, none⟩) (bv q) from fun W hW => by
    rw [hq]; exact rd_takeS (rd_part hW 0) 9)
  obtain ⟨p, hp⟩ : ∃ p, p = packS litSumL a g q := ⟨_, rfl⟩
  have P3 := Lib.hid (show p.length = 128 by rw [hp]; exact packS_length litSumL_length)
  have HIP : Hid ((Try.prog.info? 38).map (·.size) = some (bva p).size) := by rw [bva_size, P3.out]; exact info_sec
  obtain ⟨may, hmay⟩ : ∃ may, may = mayS a q := ⟨_, rfl⟩
  have HCQ := Lib.hid (show ∀ W c, Blk W w.heap.size (bva s) 38 → Calls Try.prog 52 #[.int .i64 a, .int .u64 g, .slice (some ⟨w.heap.size, 0, none⟩) 9 c] W (RetB (.tuple #[.agg (bva p), .bool may]) W) from fun W c hW => by
    rw [hp, hmay]; exact rpack_any a g HG.out _ 9 c q W HQ3.out (HQR.out W hW))
  have hpm : okS litSumL a p = may := by
    cases hm : mayS a q with
    | true => rw [hmay, hm, hp, packS, hm, if_pos rfl]; exact ok_sealed litSumL_length hm HG.out
    | false =>
      rw [hmay, hm]
      have h9 : ¬ (0 ≤ a ∧ a < 4096) := fun h => by
        have := of_decide_eq_false hm
        have := HQ3.out
        omega
      refine ok_not (decide_eq_false fun h => h9 ⟨h.1, h.2.1⟩)
  have HCX := Lib.hid (show ∀ W b, Blk W b #[.iface 98 (.agg Try.zeroCells98)] 159 → Calls Try.prog 106 #[.int .i64 a, .agg (bva p), .pointer (some ⟨b, 0, none⟩)] W (RetB (.bool may) W) from fun W b hb => by
    rw [← hpm]; exact goodf_any _ _ a p P3.out b W hb _ _ (fun W => by rw [HLIT.out]; exact unpack_any litS a p P3.out W))
  have hfn : ∀ (c : Array Value) W, (binOp .eql 56 (.func (.func 106) #[] c) .nilFunc).run Try.prog W = .ok (.bool false) W := fun c W => by kernel_rfl
  have hce := goodf_enter
  clear hs hok hU1 hU2 hq hp hmay hpm
  go_enter Try.func12, Try.ntmps12
  go_wp2_with fail
  rw [← hw0]
  clear hw0
  refine (awake_any _).mono ?_
  rintro e w1 ⟨rfl, bw⟩
  have B0' := Lib.hid (Blk.below B0.out bw)
  have BEL' := Lib.hid (BEL.out.trans (bw.mono BEL.out.size))
  clear B0 BEL
  have B0 := Lib.hid B0'.out
  have BEL := Lib.hid BEL'.out
  clear B0' BEL'
  clear bw
  go_wp2_with fail
  refine (good_iface _ _ _).mono ?_
  rintro e w2 ⟨rfl, hw2⟩
  have bw : Below w1.heap.size w1 w2 := by rw [hw2]; exact (Below.refl _ _).alloc (Nat.le_refl _) _
  obtain ⟨f1, hf1⟩ : ∃ f1, f1 = w1.heap.size := ⟨_, rfl⟩
  have F1 := Lib.hid (show Blk w2 f1 #[.iface 98 (.agg Try.zeroCells98)] 159 from by rw [hw2, hf1]; exact heap_alloc_new _ _)
  rw [← hf1]
  clear hw2 hf1
  have B0' := Lib.hid (Blk.below B0.out bw)
  have BEL' := Lib.hid (BEL.out.trans (bw.mono BEL.out.size))
  clear B0 BEL
  have B0 := Lib.hid B0'.out
  have BEL := Lib.hid BEL'.out
  clear B0' BEL'
  clear bw
  go_wp2_with fail
  refine (good_nil _).mono ?_
  rintro e w3 ⟨rfl, hw3⟩
  have bw : Below w2.heap.size w2 w3 := by rw [hw3]; exact (Below.refl _ _).alloc (Nat.le_refl _) _
  obtain ⟨f2, hf2⟩ : ∃ f2, f2 = w2.heap.size := ⟨_, rfl⟩
  have F2 := Lib.hid (show Blk w3 f2 #[.nilIface] 159 from by rw [hw3, hf2]; exact heap_alloc_new _ _)
  rw [← hf2]
  clear hw3 hf2
  have B0' := Lib.hid (Blk.below B0.out bw)
  have BEL' := Lib.hid (BEL.out.trans (bw.mono BEL.out.size))
  have F1' := Lib.hid (Blk.below F1.out bw)
  clear B0 BEL F1
  have B0 := Lib.hid B0'.out
  have BEL := Lib.hid BEL'.out
  have F1 := Lib.hid F1'.out
  clear B0' BEL' F1'
  clear bw
  go_wp2_with (refine wpList_load_row rfl 38 (.tmp 4) rfl w.heap.size rfl 38 (bva s) (0, 0) _ B0.out Try.underlying38 rfl HIS.out ?_)
  refine (HCR.out _).mono ?_
  rintro e w4 ⟨A4, n4, c4, rfl, ho, bw⟩
  have B0' := Lib.hid (Blk.below B0.out bw)
  have BEL' := Lib.hid (BEL.out.trans (bw.mono BEL.out.size))
  have F1' := Lib.hid (Blk.below F1.out bw)
  have F2' := Lib.hid (Blk.below F2.out bw)
  clear B0 BEL F1 F2
  have B0 := Lib.hid B0'.out
  have BEL := Lib.hid BEL'.out
  have F1 := Lib.hid F1'.out
  have F2 := Lib.hid F2'.out
  clear B0' BEL' F1' F2'
  have OA := Lib.hid (show w4.ownsRow 0 5 1 (.slice A4 n4 c4) n4 _ from own_more ho (Nat.zero_le _))
  clear ho bw
  go_wp2_with fail
  refine (HCQ.out _ _ B0.out).mono ?_
  rintro e w5 ⟨rfl, bw⟩
  have B0' := Lib.hid (Blk.below B0.out bw)
  have BEL' := Lib.hid (BEL.out.trans (bw.mono BEL.out.size))
  have F1' := Lib.hid (Blk.below F1.out bw)
  have F2' := Lib.hid (Blk.below F2.out bw)
  have OA' := Lib.hid (own_below OA.out bw)
  clear B0 BEL F1 F2 OA
  have B0 := Lib.hid B0'.out
  have BEL := Lib.hid BEL'.out
  have F1 := Lib.hid F1'.out
  have F2 := Lib.hid F2'.out
  have OA := Lib.hid OA'.out
  clear B0' BEL' F1' F2' OA'
  clear bw
  go_wp2_with (first
    | (show wpList _ _ _ ({ dst := none, op := .store 38 (.tmp 12) (.tmp 38), type := _, pos := _, after := _, guard := _ } :: _) _ _; apply Classical.byContradiction; intro hneg))
  refine hneg ?_
  clear hneg
  refine wpList_store_row rfl 38 (.tmp 12) (.tmp 38) rfl w5.heap.size (bva p) rfl rfl 38 (bva z) (heap_alloc_new _ _) HIP.out (by rw [bva_size, bva_size, P3.out, HZ3.out]) (bva_one _) ?_
  obtain ⟨w6, hw6⟩ : ∃ x, x = (w5.alloc (.cells (bva z) 38)).setRow w5.heap.size (bva p) := ⟨_, rfl⟩
  rw [← hw6]
  obtain ⟨g6, hg6⟩ : ∃ x, x = w5.heap.size := ⟨_, rfl⟩
  have bn : Below w5.heap.size w5 w6 := by rw [hw6]; exact below_new (Below.refl _ _) (Nat.le_refl _)
  have B1 := Lib.hid (show Blk w6 g6 (bva p) 38 from by rw [hw6, hg6]; exact blk_new _)
  rw [← hg6]
  clear hw6 hg6
  have B0' := Lib.hid (Blk.below B0.out bn)
  have BEL' := Lib.hid (BEL.out.trans (bn.mono BEL.out.size))
  have F1' := Lib.hid (Blk.below F1.out bn)
  have F2' := Lib.hid (Blk.below F2.out bn)
  have OA' := Lib.hid (own_below OA.out bn)
  clear B0 BEL F1 F2 OA
  have B0 := Lib.hid B0'.out
  have BEL := Lib.hid BEL'.out
  have F1 := Lib.hid F1'.out
  have F2 := Lib.hid F2'.out
  have OA := Lib.hid OA'.out
  clear B0' BEL' F1' F2' OA'
  clear bn
  cases ok
  ·
    cases may
    ·
      go_wp2_with (refine wpList_load_row rfl 38 (.tmp 4) rfl w.heap.size rfl 38 (bva s) (0, 0) _ B0.out Try.underlying38 rfl HIS.out ?_)
      refine (HCS.out _ f1 F1.out).mono ?_
      rintro e w27 ⟨rfl, bw⟩
      have B0' := Lib.hid (Blk.below B0.out bw)
      have BEL' := Lib.hid (BEL.out.trans (bw.mono BEL.out.size))
      have F1' := Lib.hid (Blk.below F1.out bw)
      have F2' := Lib.hid (Blk.below F2.out bw)
      have OA' := Lib.hid (own_below OA.out bw)
      have B1' := Lib.hid (Blk.below B1.out bw)
      clear B0 BEL F1 F2 OA B1
      have B0 := Lib.hid B0'.out
      have BEL := Lib.hid BEL'.out
      have F1 := Lib.hid F1'.out
      have F2 := Lib.hid F2'.out
      have OA := Lib.hid OA'.out
      have B1 := Lib.hid B1'.out
      clear B0' BEL' F1' F2' OA' B1'
      clear bw
      go_wp2_with (refine wpList_execg8 (o := { dst := some 49, op := .load 38 (.tmp 4), type := _, pos := _, after := _, guard := _ }) (v := .agg (bva s)) (w' := w27) rfl ?hl49 ?_; case hl49 => exact exec_load 38 (.tmp 4) rfl rfl B0.out Try.underlying38 rfl HIS.out)
      refine (HCN.out _ f2 F2.out).mono ?_
      rintro e w28 ⟨rfl, bw⟩
      have B0' := Lib.hid (Blk.below B0.out bw)
      have BEL' := Lib.hid (BEL.out.trans (bw.mono BEL.out.size))
      have F1' := Lib.hid (Blk.below F1.out bw)
      have F2' := Lib.hid (Blk.below F2.out bw)
      have OA' := Lib.hid (own_below OA.out bw)
      have B1' := Lib.hid (Blk.below B1.out bw)
      clear B0 BEL F1 F2 OA B1
      have B0 := Lib.hid B0'.out
      have BEL := Lib.hid BEL'.out
      have F1 := Lib.hid F1'.out
      have F2 := Lib.hid F2'.out
      have OA := Lib.hid OA'.out
      have B1 := Lib.hid B1'.out
      clear B0' BEL' F1' F2' OA' B1'
      clear bw
      go_wp2_with (refine wpList_execg8 (o := { dst := some 56, op := .load 38 (.tmp 12), type := _, pos := _, after := _, guard := _ }) (v := .agg (bva p)) (w' := w28) rfl ?hl56 ?_; case hl56 => exact exec_load 38 (.tmp 12) rfl rfl B1.out Try.underlying38 rfl HIP.out)
      refine (HCX.out _ f1 F1.out).mono ?_
      rintro e w29 ⟨rfl, bw⟩
      have B0' := Lib.hid (Blk.below B0.out bw)
      have BEL' := Lib.hid (BEL.out.trans (bw.mono BEL.out.size))
      have F1' := Lib.hid (Blk.below F1.out bw)
      have F2' := Lib.hid (Blk.below F2.out bw)
      have OA' := Lib.hid (own_below OA.out bw)
      have B1' := Lib.hid (Blk.below B1.out bw)
      clear B0 BEL F1 F2 OA B1
      have B0 := Lib.hid B0'.out
      have BEL := Lib.hid BEL'.out
      have F1 := Lib.hid F1'.out
      have F2 := Lib.hid F2'.out
      have OA := Lib.hid OA'.out
      have B1 := Lib.hid B1'.out
      clear B0' BEL' F1' F2' OA' B1'
      clear bw
      go_wp2_with (refine wpList_execg8 (o := { dst := some 64, op := .load 38 (.tmp 4), type := _, pos := _, after := _, guard := _ }) (v := .agg (bva s)) (w' := w29) rfl ?hl64 ?_; case hl64 => exact exec_load 38 (.tmp 4) rfl rfl B0.out Try.underlying38 rfl HIS.out)
      refine (HCS.out _ f1 F1.out).mono ?_
      rintro e w30 ⟨rfl, bw⟩
      have B0' := Lib.hid (Blk.below B0.out bw)
      have BEL' := Lib.hid (BEL.out.trans (bw.mono BEL.out.size))
      have F1' := Lib.hid (Blk.below F1.out bw)
      have F2' := Lib.hid (Blk.below F2.out bw)
      have OA' := Lib.hid (own_below OA.out bw)
      have B1' := Lib.hid (Blk.below B1.out bw)
      clear B0 BEL F1 F2 OA B1
      have B0 := Lib.hid B0'.out
      have BEL := Lib.hid BEL'.out
      have F1 := Lib.hid F1'.out
      have F2 := Lib.hid F2'.out
      have OA := Lib.hid OA'.out
      have B1 := Lib.hid B1'.out
      clear B0' BEL' F1' F2' OA' B1'
      clear bw
      go_wp2_with fail
      go_ret
      exact ⟨rfl, BEL.out⟩
    ·
      go_wp2_with (refine wpList_load_row rfl 38 (.tmp 4) rfl w.heap.size rfl 38 (bva s) (0, 0) _ B0.out Try.underlying38 rfl HIS.out ?_)
      refine (HCS.out _ f1 F1.out).mono ?_
      rintro e w27 ⟨rfl, bw⟩
      have B0' := Lib.hid (Blk.below B0.out bw)
      have BEL' := Lib.hid (BEL.out.trans (bw.mono BEL.out.size))
      have F1' := Lib.hid (Blk.below F1.out bw)
      have F2' := Lib.hid (Blk.below F2.out bw)
      have OA' := Lib.hid (own_below OA.out bw)
      have B1' := Lib.hid (Blk.below B1.out bw)
      clear B0 BEL F1 F2 OA B1
      have B0 := Lib.hid B0'.out
      have BEL := Lib.hid BEL'.out
      have F1 := Lib.hid F1'.out
      have F2 := Lib.hid F2'.out
      have OA := Lib.hid OA'.out
      have B1 := Lib.hid B1'.out
      clear B0' BEL' F1' F2' OA' B1'
      clear bw
      go_wp2_with (refine wpList_execg8 (o := { dst := some 49, op := .load 38 (.tmp 4), type := _, pos := _, after := _, guard := _ }) (v := .agg (bva s)) (w' := w27) rfl ?hl49 ?_; case hl49 => exact exec_load 38 (.tmp 4) rfl rfl B0.out Try.underlying38 rfl HIS.out)
      refine (HCN.out _ f2 F2.out).mono ?_
      rintro e w28 ⟨rfl, bw⟩
      have B0' := Lib.hid (Blk.below B0.out bw)
      have BEL' := Lib.hid (BEL.out.trans (bw.mono BEL.out.size))
      have F1' := Lib.hid (Blk.below F1.out bw)
      have F2' := Lib.hid (Blk.below F2.out bw)
      have OA' := Lib.hid (own_below OA.out bw)
      have B1' := Lib.hid (Blk.below B1.out bw)
      clear B0 BEL F1 F2 OA B1
      have B0 := Lib.hid B0'.out
      have BEL := Lib.hid BEL'.out
      have F1 := Lib.hid F1'.out
      have F2 := Lib.hid F2'.out
      have OA := Lib.hid OA'.out
      have B1 := Lib.hid B1'.out
      clear B0' BEL' F1' F2' OA' B1'
      clear bw
      go_wp2_with (refine wpList_execg8 (o := { dst := some 56, op := .load 38 (.tmp 12), type := _, pos := _, after := _, guard := _ }) (v := .agg (bva p)) (w' := w28) rfl ?hl56 ?_; case hl56 => exact exec_load 38 (.tmp 12) rfl rfl B1.out Try.underlying38 rfl HIP.out)
      refine (HCX.out _ f1 F1.out).mono ?_
      rintro e w29 ⟨rfl, bw⟩
      have B0' := Lib.hid (Blk.below B0.out bw)
      have BEL' := Lib.hid (BEL.out.trans (bw.mono BEL.out.size))
      have F1' := Lib.hid (Blk.below F1.out bw)
      have F2' := Lib.hid (Blk.below F2.out bw)
      have OA' := Lib.hid (own_below OA.out bw)
      have B1' := Lib.hid (Blk.below B1.out bw)
      clear B0 BEL F1 F2 OA B1
      have B0 := Lib.hid B0'.out
      have BEL := Lib.hid BEL'.out
      have F1 := Lib.hid F1'.out
      have F2 := Lib.hid F2'.out
      have OA := Lib.hid OA'.out
      have B1 := Lib.hid B1'.out
      clear B0' BEL' F1' F2' OA' B1'
      clear bw
      go_wp2_with (refine wpList_execg8 (o := { dst := some 64, op := .load 38 (.tmp 4), type := _, pos := _, after := _, guard := _ }) (v := .agg (bva s)) (w' := w29) rfl ?hl64 ?_; case hl64 => exact exec_load 38 (.tmp 4) rfl rfl B0.out Try.underlying38 rfl HIS.out)
      refine (HCS.out _ f1 F1.out).mono ?_
      rintro e w30 ⟨rfl, bw⟩
      have B0' := Lib.hid (Blk.below B0.out bw)
      have BEL' := Lib.hid (BEL.out.trans (bw.mono BEL.out.size))
      have F1' := Lib.hid (Blk.below F1.out bw)
      have F2' := Lib.hid (Blk.below F2.out bw)
      have OA' := Lib.hid (own_below OA.out bw)
      have B1' := Lib.hid (Blk.below B1.out bw)
      clear B0 BEL F1 F2 OA B1
      have B0 := Lib.hid B0'.out
      have BEL := Lib.hid BEL'.out
      have F1 := Lib.hid F1'.out
      have F2 := Lib.hid F2'.out
      have OA := Lib.hid OA'.out
      have B1 := Lib.hid B1'.out
      clear B0' BEL' F1' F2' OA' B1'
      clear bw
      go_wp2_with fail
      go_ret
      exact ⟨rfl, BEL.out⟩
  ·
    cases may
    ·
      go_wp2_with (refine wpList_load_row rfl 38 (.tmp 4) rfl w.heap.size rfl 38 (bva s) (0, 0) _ B0.out Try.underlying38 rfl HIS.out ?_)
      refine (HCS.out _ f1 F1.out).mono ?_
      rintro e w27 ⟨rfl, bw⟩
      have B0' := Lib.hid (Blk.below B0.out bw)
      have BEL' := Lib.hid (BEL.out.trans (bw.mono BEL.out.size))
      have F1' := Lib.hid (Blk.below F1.out bw)
      have F2' := Lib.hid (Blk.below F2.out bw)
      have OA' := Lib.hid (own_below OA.out bw)
      have B1' := Lib.hid (Blk.below B1.out bw)
      clear B0 BEL F1 F2 OA B1
      have B0 := Lib.hid B0'.out
      have BEL := Lib.hid BEL'.out
      have F1 := Lib.hid F1'.out
      have F2 := Lib.hid F2'.out
      have OA := Lib.hid OA'.out
      have B1 := Lib.hid B1'.out
      clear B0' BEL' F1' F2' OA' B1'
      clear bw
      go_wp2_with (refine wpList_execg8 (o := { dst := some 49, op := .load 38 (.tmp 4), type := _, pos := _, after := _, guard := _ }) (v := .agg (bva s)) (w' := w27) rfl ?hl49 ?_; case hl49 => exact exec_load 38 (.tmp 4) rfl rfl B0.out Try.underlying38 rfl HIS.out)
      refine (HCN.out _ f2 F2.out).mono ?_
      rintro e w28 ⟨rfl, bw⟩
      have B0' := Lib.hid (Blk.below B0.out bw)
      have BEL' := Lib.hid (BEL.out.trans (bw.mono BEL.out.size))
      have F1' := Lib.hid (Blk.below F1.out bw)
      have F2' := Lib.hid (Blk.below F2.out bw)
      have OA' := Lib.hid (own_below OA.out bw)
      have B1' := Lib.hid (Blk.below B1.out bw)
      clear B0 BEL F1 F2 OA B1
      have B0 := Lib.hid B0'.out
      have BEL := Lib.hid BEL'.out
      have F1 := Lib.hid F1'.out
      have F2 := Lib.hid F2'.out
      have OA := Lib.hid OA'.out
      have B1 := Lib.hid B1'.out
      clear B0' BEL' F1' F2' OA' B1'
      clear bw
      go_wp2_with (refine wpList_execg8 (o := { dst := some 56, op := .load 38 (.tmp 12), type := _, pos := _, after := _, guard := _ }) (v := .agg (bva p)) (w' := w28) rfl ?hl56 ?_; case hl56 => exact exec_load 38 (.tmp 12) rfl rfl B1.out Try.underlying38 rfl HIP.out)
      refine (HCX.out _ f1 F1.out).mono ?_
      rintro e w29 ⟨rfl, bw⟩
      have B0' := Lib.hid (Blk.below B0.out bw)
      have BEL' := Lib.hid (BEL.out.trans (bw.mono BEL.out.size))
      have F1' := Lib.hid (Blk.below F1.out bw)
      have F2' := Lib.hid (Blk.below F2.out bw)
      have OA' := Lib.hid (own_below OA.out bw)
      have B1' := Lib.hid (Blk.below B1.out bw)
      clear B0 BEL F1 F2 OA B1
      have B0 := Lib.hid B0'.out
      have BEL := Lib.hid BEL'.out
      have F1 := Lib.hid F1'.out
      have F2 := Lib.hid F2'.out
      have OA := Lib.hid OA'.out
      have B1 := Lib.hid B1'.out
      clear B0' BEL' F1' F2' OA' B1'
      clear bw
      go_wp2_with (refine wpList_execg8 (o := { dst := some 64, op := .load 38 (.tmp 4), type := _, pos := _, after := _, guard := _ }) (v := .agg (bva s)) (w' := w29) rfl ?hl64 ?_; case hl64 => exact exec_load 38 (.tmp 4) rfl rfl B0.out Try.underlying38 rfl HIS.out)
      refine (HCS.out _ f1 F1.out).mono ?_
      rintro e w30 ⟨rfl, bw⟩
      have B0' := Lib.hid (Blk.below B0.out bw)
      have BEL' := Lib.hid (BEL.out.trans (bw.mono BEL.out.size))
      have F1' := Lib.hid (Blk.below F1.out bw)
      have F2' := Lib.hid (Blk.below F2.out bw)
      have OA' := Lib.hid (own_below OA.out bw)
      have B1' := Lib.hid (Blk.below B1.out bw)
      clear B0 BEL F1 F2 OA B1
      have B0 := Lib.hid B0'.out
      have BEL := Lib.hid BEL'.out
      have F1 := Lib.hid F1'.out
      have F2 := Lib.hid F2'.out
      have OA := Lib.hid OA'.out
      have B1 := Lib.hid B1'.out
      clear B0' BEL' F1' F2' OA' B1'
      clear bw
      go_wp2_with fail
      go_ret
      exact ⟨rfl, BEL.out⟩
    ·
      go_wp2_with (refine wpList_load_row rfl 38 (.tmp 4) rfl w.heap.size rfl 38 (bva s) (0, 0) _ B0.out Try.underlying38 rfl HIS.out ?_)
      refine (HCS.out _ f1 F1.out).mono ?_
      rintro e w27 ⟨rfl, bw⟩
      have B0' := Lib.hid (Blk.below B0.out bw)
      have BEL' := Lib.hid (BEL.out.trans (bw.mono BEL.out.size))
      have F1' := Lib.hid (Blk.below F1.out bw)
      have F2' := Lib.hid (Blk.below F2.out bw)
      have OA' := Lib.hid (own_below OA.out bw)
      have B1' := Lib.hid (Blk.below B1.out bw)
      clear B0 BEL F1 F2 OA B1
      have B0 := Lib.hid B0'.out
      have BEL := Lib.hid BEL'.out
      have F1 := Lib.hid F1'.out
      have F2 := Lib.hid F2'.out
      have OA := Lib.hid OA'.out
      have B1 := Lib.hid B1'.out
      clear B0' BEL' F1' F2' OA' B1'
      clear bw
      go_wp2_with (refine wpList_execg8 (o := { dst := some 49, op := .load 38 (.tmp 4), type := _, pos := _, after := _, guard := _ }) (v := .agg (bva s)) (w' := w27) rfl ?hl49 ?_; case hl49 => exact exec_load 38 (.tmp 4) rfl rfl B0.out Try.underlying38 rfl HIS.out)
      refine (HCN.out _ f2 F2.out).mono ?_
      rintro e w28 ⟨rfl, bw⟩
      have B0' := Lib.hid (Blk.below B0.out bw)
      have BEL' := Lib.hid (BEL.out.trans (bw.mono BEL.out.size))
      have F1' := Lib.hid (Blk.below F1.out bw)
      have F2' := Lib.hid (Blk.below F2.out bw)
      have OA' := Lib.hid (own_below OA.out bw)
      have B1' := Lib.hid (Blk.below B1.out bw)
      clear B0 BEL F1 F2 OA B1
      have B0 := Lib.hid B0'.out
      have BEL := Lib.hid BEL'.out
      have F1 := Lib.hid F1'.out
      have F2 := Lib.hid F2'.out
      have OA := Lib.hid OA'.out
      have B1 := Lib.hid B1'.out
      clear B0' BEL' F1' F2' OA' B1'
      clear bw
      go_wp2_with (refine wpList_execg8 (o := { dst := some 56, op := .load 38 (.tmp 12), type := _, pos := _, after := _, guard := _ }) (v := .agg (bva p)) (w' := w28) rfl ?hl56 ?_; case hl56 => exact exec_load 38 (.tmp 12) rfl rfl B1.out Try.underlying38 rfl HIP.out)
      refine (HCX.out _ f1 F1.out).mono ?_
      rintro e w29 ⟨rfl, bw⟩
      have B0' := Lib.hid (Blk.below B0.out bw)
      have BEL' := Lib.hid (BEL.out.trans (bw.mono BEL.out.size))
      have F1' := Lib.hid (Blk.below F1.out bw)
      have F2' := Lib.hid (Blk.below F2.out bw)
      have OA' := Lib.hid (own_below OA.out bw)
      have B1' := Lib.hid (Blk.below B1.out bw)
      clear B0 BEL F1 F2 OA B1
      have B0 := Lib.hid B0'.out
      have BEL := Lib.hid BEL'.out
      have F1 := Lib.hid F1'.out
      have F2 := Lib.hid F2'.out
      have OA := Lib.hid OA'.out
      have B1 := Lib.hid B1'.out
      clear B0' BEL' F1' F2' OA' B1'
      clear bw
      go_wp2_with (refine wpList_execg8 (o := { dst := some 64, op := .load 38 (.tmp 4), type := _, pos := _, after := _, guard := _ }) (v := .agg (bva s)) (w' := w29) rfl ?hl64 ?_; case hl64 => exact exec_load 38 (.tmp 4) rfl rfl B0.out Try.underlying38 rfl HIS.out)
      refine (HCS.out _ f1 F1.out).mono ?_
      rintro e w30 ⟨rfl, bw⟩
      have B0' := Lib.hid (Blk.below B0.out bw)
      have BEL' := Lib.hid (BEL.out.trans (bw.mono BEL.out.size))
      have F1' := Lib.hid (Blk.below F1.out bw)
      have F2' := Lib.hid (Blk.below F2.out bw)
      have OA' := Lib.hid (own_below OA.out bw)
      have B1' := Lib.hid (Blk.below B1.out bw)
      clear B0 BEL F1 F2 OA B1
      have B0 := Lib.hid B0'.out
      have BEL := Lib.hid BEL'.out
      have F1 := Lib.hid F1'.out
      have F2 := Lib.hid F2'.out
      have OA := Lib.hid OA'.out
      have B1 := Lib.hid B1'.out
      clear B0' BEL' F1' F2' OA' B1'
      clear bw
      go_wp2_with fail
      go_ret
      exact ⟨rfl, BEL.out⟩
theorem sectorGood_own : ownKnob Try.prog.godebug = none := by kernel_rfl
theorem sectorGood_laid : laidOutB Try.prog = true := by kernel_rfl

set_option maxRecDepth 100000 in
theorem sectorGood_lifted (os : Os) (started : os.Started) (H : Type) (enc : TypeId × Value → H) :
    ReturnsInHanded {} Try.checked os 12 .any (Rows.sectorGoodSpec.pre6 enc Try.prog Try.f12 Rows.sectorGoodRow.domain false) (Rows.sectorGoodSpec.post enc Try.prog Try.f12 false true false false) := by
  refine returnsInHanded_of_change (C := Try.checked) sectorGood_own started (by kernel_rfl) Try.func12
    (ChangeSpec.witness6 (enc := enc) (C := Try.checked) false ⟨#[], #[.int .i64 0, .agg #[.int .u8 0, .int .u8 0, .int .u8 0, .int .u8 0, .int .u8 0, .int .u8 0, .int .u8 0, .int .u8 0, .int .u8 0, .int .u8 0, .int .u8 0, .int .u8 0, .int .u8 0, .int .u8 0, .int .u8 0, .int .u8 0, .int .u8 0, .int .u8 0, .int .u8 0, .int .u8 0, .int .u8 0, .int .u8 0, .int .u8 0, .int .u8 0, .int .u8 0, .int .u8 0, .int .u8 0, .int .u8 0, .int .u8 0, .int .u8 0, .int .u8 0, .int .u8 0, .int .u8 0, .int .u8 0, .int .u8 0, .int .u8 0, .int .u8 0, .int .u8 0, .int .u8 0, .int .u8 0, .int .u8 0, .int .u8 0, .int .u8 0, .int .u8 0, .int .u8 0, .int .u8 0, .int .u8 0, .int .u8 0, .int .u8 0, .int .u8 0, .int .u8 0, .int .u8 0, .int .u8 0, .int .u8 0, .int .u8 0, .int .u8 0, .int .u8 0, .int .u8 0, .int .u8 0, .int .u8 0, .int .u8 0, .int .u8 0, .int .u8 0, .int .u8 0, .int .u8 0, .int .u8 0, .int .u8 0, .int .u8 0, .int .u8 0, .int .u8 0, .int .u8 0, .int .u8 0, .int .u8 0, .int .u8 0, .int .u8 0, .int .u8 0, .int .u8 0, .int .u8 0, .int .u8 0, .int .u8 0, .int .u8 0, .int .u8 0, .int .u8 0, .int .u8 0, .int .u8 0, .int .u8 0, .int .u8 0, .int .u8 0, .int .u8 0, .int .u8 0, .int .u8 0, .int .u8 0, .int .u8 0, .int .u8 0, .int .u8 0, .int .u8 0, .int .u8 0, .int .u8 0, .int .u8 0, .int .u8 0, .int .u8 0, .int .u8 0, .int .u8 0, .int .u8 0, .int .u8 0, .int .u8 0, .int .u8 0, .int .u8 0, .int .u8 0, .int .u8 0, .int .u8 0, .int .u8 0, .int .u8 0, .int .u8 0, .int .u8 0, .int .u8 0, .int .u8 0, .int .u8 0, .int .u8 0, .int .u8 0, .int .u8 0, .int .u8 0, .int .u8 0, .int .u8 0, .int .u8 0, .int .u8 0, .int .u8 0, .int .u8 0], .int .u64 0], []⟩ 8 (by kernel_rfl) (by kernel_rfl) (by kernel_rfl) (by kernel_rfl)) ?_
  intro W base args ds gs before hval0 hW _ _
  have hval : ∀ (j : Nat) t v, Try.f12.params[j]? = some t → args[j]? = some v → Value.okWide Try.prog W .any base t v := hval0
  have hW' := hW
  obtain ⟨p, q, hA0, hV, rfl, hfz, hnd⟩ := hW
  have hA : DataW.TrodAll enc Try.prog W 0 (fun _ => true) true Try.f12.params.toList args.toList ds p := hA0
  rw [Try.params12] at hA hval
  obtain ⟨v0, vs0, d0, ds0, p0, q0, hargs, rfl, rfl, h0, r0⟩ := trodAll_cons hA
  obtain ⟨v1, vs1, d1, ds1, p1, q1, rfl, rfl, rfl, h1, r1⟩ := trodAll_cons r0
  obtain ⟨v2, vs2, d2, ds2, p2, q2, rfl, rfl, rfl, h2, r2⟩ := trodAll_cons r1
  obtain ⟨rfl, rfl, rfl⟩ := trodAll_nil r2
  obtain rfl : args = #[v0, v1, v2] := by cases args; simp_all
  obtain ⟨rfl, rfl⟩ := trodVars_none hV
  obtain ⟨a0, rfl, rfl, rfl, w0⟩ := open_int Try.underlying3 (hval 0 3 v0 rfl rfl) h0
  have b0 := bounds_i64 w0
  have lt1 : ∀ x ∈ p1, x.block < W.heap.size := by obtain ⟨m, hm⟩ := h1; exact DataW.trod_lt m _ _ _ hm
  obtain ⟨l1, hl1, rfl⟩ := open_u8s Try.underlying38 Try.underlying5 (by kernel_rfl) (by kernel_rfl) (hval 1 38 v1 rfl rfl) h1
  obtain ⟨a2, rfl, rfl, rfl, w2⟩ := open_int Try.underlying91 (hval 2 91 v2 rfl rfl) h2
  have b2 := bounds_u64 w2
  clear hA0 hval0
  refine (sectorGood_any W a0 b0 l1 hl1 a2 b2).mono fun e W' ⟨he, bel⟩ => ?_
  subst he
  exact ⟨_, rfl, _, _, _, [], _, [], hW', trodAll_mk1 (shut_bool Try.underlying4 _), (trodAll_cons_mk (shut_int Try.underlying3 w0) (trodAll_cons_mk (Below.trod sectorGood_laid (by kernel_rfl) (of_decide_eq_true (by kernel_rfl)) h1 bel lt1) (trodAll_cons_mk (shut_int Try.underlying91 w2) trodAll_mk0))), rfl, bel.frame _, fun h => by cases h⟩

theorem sectorGood_holds : Rows.SectorGoodSaid :=
  OpenClaim.holds_of_wide 12 Try.f12 rfl rfl rfl rfl rfl rfl rfl ⟨rfl, rfl, rfl, rfl, rfl⟩ rfl rfl rfl rfl rfl (by kernel_rfl) Try.func12 (by kernel_rfl)
    (of_decide_eq_true (by kernel_rfl)) (by unfold Func.isWrapper; rw [if_neg (of_decide_eq_false (by kernel_rfl))]; exact ⟨rfl, rfl⟩)
    (fun os started H enc _ => sectorGood_lifted os started H enc)

#print axioms sectorGood_holds

end Go.Proofs.Ytgfldfofiglefaa
