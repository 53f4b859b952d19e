/-
  SectorSpoilt holds: of every two places, number, body (any length), place of a byte and byte the law returns true, and its arguments read as they did.
-/
import Derived.Test.YtgfldfofiglefaaMa3
import Derived.Test.YtgfldfofiglefaaRows
import Derived.ProofKit
import Derived.OpenShut
import Derived.ShutString
import Derived.ChangeOld
namespace Go.Proofs.Ytgfldfofiglefaa
open Go.RowKit Kd Sx Go.ChangeShapes Go.WideShapes Go.ChangeAt
attribute [local go_sem ↓] Go.wp_at_zero Go.wp_at_succ
theorem byte_ofS {x : Int} (h : 0 ≤ x ∧ x ≤ 255) : ∃ b : UInt8, x = (b.toNat : Int) := ⟨UInt8.ofNat x.toNat, by rw [UInt8.toNat_ofNat']; omega⟩
theorem bits_xorS (x y : UInt8) : bits .xor .u8 (x.toNat : Int) (y.toNat : Int) = ((x ^^^ y).toNat : Int) := by
  rw [u8_xor_nat _ _ (UInt8.toNat_lt _) (UInt8.toNat_lt _), UInt8.toNat_xor]

theorem set_xor0 (s : List UInt8) (q : Nat) : s.set q (s.getD q 0 ^^^ 0) = s := by
  apply List.ext_getElem?
  intro j
  rw [List.getElem?_set]
  split
  · rename_i h; subst h
    split
    · rename_i h; rw [List.getD_eq_getElem?_getD, List.getElem?_eq_getElem h, UInt8.xor_zero]; rfl
    · rename_i h; rw [List.getElem?_eq_none (by omega)]
  · rfl
set_option maxRecDepth 100000 in
set_option maxHeartbeats 12800000 in
theorem sectorSpoilt_any (w : World) (a : Int) (ha : 0 ≤ a ∧ a ≤ 65535) (b : Int) (hb : 0 ≤ b ∧ b ≤ 65535) (gi : Int) (hgi : 0 ≤ gi ∧ gi ≤ 18446744073709551615) (A : Option Addr) (n c : Nat) (l : List UInt8) (hl : l.length = n) (_ : n ≤ c) (_ : c ≤ maxLen) (hr : Rd w.heap.size w A (bv l)) (i : Int) (hi : 0 ≤ i ∧ i ≤ 255) (yi : Int) (hyi : 0 ≤ yi ∧ yi ≤ 255) :
    Calls Try.prog 11 #[.int .u16 a, .int .u16 b, .int .u64 gi, .slice A n c, .int .u8 i, .int .u8 yi] w (RetB (.bool true) w) := by
  obtain ⟨g, rfl⟩ := Int.eq_ofNat_of_zero_le hgi.1
  obtain ⟨y, rfl⟩ := byte_ofS hyi
  have HG := Lib.hid (show U64 g from by unfold U64; omega)
  have HL := Lib.hid hl
  have RA := Lib.hid hr
  clear hgi hl hr hyi
  obtain ⟨z, hz0⟩ : ∃ z : List UInt8, z = zeroS := ⟨_, rfl⟩
  have hz : ∀ W, (zeroValue 38).run Try.prog W = .ok (.agg (bva z)) W := fun _ => by rw [hz0]; kernel_rfl
  have HZ0 := Lib.hid hz0
  have HZ3 := Lib.hid (show z.length = 128 by rw [hz0]; exact zeroS_length)
  have HIZ : Hid ((Try.prog.info? 38).map (·.size) = some (bva z).size) := by rw [bva_size, HZ3.out]; exact info_sec
  have HLIT := Lib.hid (show Try.zeroCells98 = zeroLit by kernel_rfl)
  clear hz0
  by_cases hbig : 103 < n
  · have hd : decide ((103 : Int) < (n : Int)) = true := by simp; omega
    clear hbig
    go_enter Try.func11, Try.ntmps11
    go_wp2_with fail
    refine (awake_any _).mono ?_
    rintro e w1 ⟨rfl, bw⟩
    go_wp2_with fail
    go_ret
    exact ⟨rfl, bw⟩
  have hd : decide ((103 : Int) < (n : Int)) = false := by simp; omega
  have HN := Lib.hid (show n ≤ 103 by omega)
  obtain ⟨k, hk⟩ : ∃ k : Nat, (k : Int) = a % 4096 := ⟨(a % 4096).toNat, by omega⟩
  obtain ⟨m, hm⟩ : ∃ m : Nat, (m : Int) = b % 4096 := ⟨(b % 4096).toNat, by omega⟩
  obtain ⟨q, hq⟩ : ∃ q : Nat, (q : Int) = i % 128 := ⟨(i % 128).toNat, by omega⟩
  have a0 := ha.1
  have a1 := ha.2
  have b0 := hb.1
  have b1 := hb.2
  have i0 := hi.1
  have i1 := hi.2
  have ek : a % 4096 = (k : Int) := hk.symm
  have em : b % 4096 = (m : Int) := hm.symm
  have eq : i % 128 = (q : Int) := hq.symm
  have q0 : (0 : Int) ≤ (q : Int) := by omega
  have q1 : (q : Int) < 128 := by omega
  have HQ := Lib.hid (show q < 128 by omega)
  have hmay := Lib.hid (show mayS (k : Int) l = true from decide_eq_true ⟨by omega, by omega, by have := HL.out; omega⟩)
  obtain ⟨s, hs⟩ : ∃ s, s = sealedS litSumL k g l := ⟨_, rfl⟩
  have S3 := Lib.hid (show s.length = 128 by rw [hs]; exact sealedS_length litSumL_length (by have := HL.out; omega))
  have HS := Lib.hid hs
  have HIS : Hid ((Try.prog.info? 38).map (·.size) = some (bva s).size) := by rw [bva_size, S3.out]; exact info_sec
  obtain ⟨x, hx⟩ : ∃ x, x = s.getD q 0 := ⟨_, rfl⟩
  have HX := Lib.hid hx
  obtain ⟨v, hv⟩ : ∃ v, v = x ^^^ y := ⟨_, rfl⟩
  have hxy := bits_xorS x y
  rw [← hv] at hxy
  have HVV := Lib.hid hv
  obtain ⟨t, ht⟩ : ∃ t, t = s.set q v := ⟨_, rfl⟩
  have HT := Lib.hid ht
  have T3 := Lib.hid (show t.length = 128 by rw [ht, List.length_set]; exact S3.out)
  have HIT : Hid ((Try.prog.info? 38).map (·.size) = some (bva t).size) := by rw [bva_size, T3.out]; exact info_sec
  have HCP := Lib.hid (show ∀ W, Rd W.heap.size W A (bv l) → Calls Try.prog 51 #[.iface 98 (.agg Try.zeroCells98), .int .i64 k, .int .u64 g, .slice A n c] W (RetB (.tuple #[.agg (bva s), .bool true]) W) from fun W hr => by
    have h := pack_any litS k g HG.out A n c l W HL.out hr
    rw [hmay.out, packS, hmay.out, if_pos rfl] at h
    rw [HLIT.out, hs]; exact h)
  have HCU := Lib.hid (show ∀ W, Calls Try.prog 54 #[.iface 98 (.agg Try.zeroCells98), .int .i64 m, .agg (bva t)] W (RetU (unpackS litSumL m t).1 (unpackS litSumL m t).2 (okS litSumL m t) W) from fun W => by
    rw [HLIT.out]; exact unpack_any litS m t T3.out W)
  have heqt : ∀ W, (Op.equalIn 10000 38 (.agg (bva t)) (.agg (bva t))).run Try.prog W = .ok true W := fun W => by rw [eq_sec t t T3.out T3.out, decide_eq_true rfl]
  clear hk hm hq hs hx ht hv hbig ha hb hi
  by_cases hkm : k = m
  · subst hkm
    by_cases hy : y = 0
    ·
      have htt : t = s := by rw [HT.out, HVV.out, HX.out, hy]; exact set_xor0 s q
      have HCV := Lib.hid (show ∀ W, Calls Try.prog 54 #[.iface 98 (.agg Try.zeroCells98), .int .i64 k, .agg (bva t)] W (RetU g l true W) from fun W => by
        have h := HCU.out W
        rw [show unpackS litSumL k t = (g, l) by rw [htt, HS.out]; exact unpack_sealed litSumL_length hmay.out HG.out, show okS litSumL k t = true by rw [htt, HS.out]; exact ok_sealed litSumL_length hmay.out HG.out] at h
        exact h)
      have hyz : ((y.toNat : Int) == 0) = true := by rw [hy]; rfl
      have hyz2 : (y.toNat : Int) = 0 := by rw [hy]; rfl
      have hxy0 : bits .xor .u8 (x.toNat : Int) 0 = (v.toNat : Int) := by have h := hxy; rw [hyz2] at h; exact h
      clear HCU htt hy
      have BEL := Lib.hid (Below.refl w.heap.size w)
      go_enter Try.func11, Try.ntmps11
      go_wp2_with fail
      refine (awake_any _).mono ?_
      rintro e w11 ⟨rfl, bw⟩
      have RA' := Lib.hid (RA.out.below (bw.mono BEL.out.size))
      have BEL' := Lib.hid (BEL.out.trans (bw.mono BEL.out.size))
      clear RA BEL
      have RA := Lib.hid RA'.out
      have BEL := Lib.hid BEL'.out
      clear RA' BEL'
      clear bw
      go_wp2_with fail
      refine (HCP.out _ (RA.out.more BEL.out.size)).mono ?_
      rintro e w12 ⟨rfl, bw⟩
      have RA' := Lib.hid (RA.out.below (bw.mono BEL.out.size))
      have BEL' := Lib.hid (BEL.out.trans (bw.mono BEL.out.size))
      clear RA BEL
      have RA := Lib.hid RA'.out
      have BEL := Lib.hid BEL'.out
      clear RA' BEL'
      clear bw
      go_wp2_with (first
        | (show wpList _ _ _ ({ dst := none, op := .store 38 (.tmp 15) (.tmp 41), type := _, pos := _, after := _, guard := _ } :: _) _ _; apply Classical.byContradiction; intro hneg))
      refine hneg ?_
      clear hneg
      refine wpList_store_row rfl 38 (.tmp 15) (.tmp 41) rfl w12.heap.size (bva s) rfl rfl 38 (bva z) (heap_alloc_new _ _) HIS.out (by rw [bva_size, bva_size, S3.out, HZ3.out]) (bva_one _) ?_
      obtain ⟨w13, hw13⟩ : ∃ x, x = (w12.alloc (.cells (bva z) 38)).setRow w12.heap.size (bva s) := ⟨_, rfl⟩
      rw [← hw13]
      obtain ⟨g13, hg13⟩ : ∃ x, x = w12.heap.size := ⟨_, rfl⟩
      have bn : Below w12.heap.size w12 w13 := by rw [hw13]; exact below_new (Below.refl _ _) (Nat.le_refl _)
      have B1 := Lib.hid (show Blk w13 g13 (bva s) 38 from by rw [hw13, hg13]; exact blk_new _)
      rw [← hg13]
      clear hw13 hg13
      have RA' := Lib.hid (RA.out.below (bn.mono BEL.out.size))
      have BEL' := Lib.hid (BEL.out.trans (bn.mono BEL.out.size))
      clear RA BEL
      have RA := Lib.hid RA'.out
      have BEL := Lib.hid BEL'.out
      clear RA' BEL'
      clear bn
      go_wp2_with (first
        | (refine wpList_load_row rfl 38 (.tmp 15) rfl g13 rfl 38 (bva s) (0, 0) _ B1.out Try.underlying38 rfl HIS.out ?_)
        | (show wpList _ _ _ ({ dst := none, op := .store 38 (.tmp 17) (.tmp 43), type := _, pos := _, after := _, guard := _ } :: _) _ _; apply Classical.byContradiction; intro hneg))
      refine hneg ?_
      clear hneg
      refine wpList_store_row rfl 38 (.tmp 17) (.tmp 43) rfl w13.heap.size (bva s) rfl rfl 38 (bva z) (heap_alloc_new _ _) HIS.out (by rw [bva_size, bva_size, S3.out, HZ3.out]) (bva_one _) ?_
      obtain ⟨w14, hw14⟩ : ∃ x, x = (w13.alloc (.cells (bva z) 38)).setRow w13.heap.size (bva s) := ⟨_, rfl⟩
      rw [← hw14]
      obtain ⟨g14, hg14⟩ : ∃ x, x = w13.heap.size := ⟨_, rfl⟩
      have bn : Below w13.heap.size w13 w14 := by rw [hw14]; exact below_new (Below.refl _ _) (Nat.le_refl _)
      have B2 := Lib.hid (show Blk w14 g14 (bva s) 38 from by rw [hw14, hg14]; exact blk_new _)
      have GL := Lib.hid (show g13 < w13.heap.size from B1.out.lt)
      have BG := Lib.hid (show w.heap.size ≤ w13.heap.size from BEL.out.size)
      rw [← hg14] at GL BG
      rw [← hg14]
      clear hw14 hg14
      have RA' := Lib.hid (RA.out.below (bn.mono BEL.out.size))
      have BEL' := Lib.hid (BEL.out.trans (bn.mono BEL.out.size))
      have B1' := Lib.hid (Blk.below B1.out bn)
      clear RA BEL B1
      have RA := Lib.hid RA'.out
      have BEL := Lib.hid BEL'.out
      have B1 := Lib.hid B1'.out
      clear RA' BEL' B1'
      clear bn
      have c0 := B2.out.cellb (k := q) (by rw [S3.out]; exact HQ.out)
      rw [← HX.out] at c0
      have f0 := B2.out.free q
      have hg12 : g13 < g14 := GL.out
      go_wp2_with (show wpList _ _ _ ({ dst := some 53, op := .build 98 #[], type := _, pos := _, after := _, guard := _ } :: _) _ _; apply Classical.byContradiction; intro hneg)
      refine hneg ?_
      clear hneg
      obtain ⟨w15, hw15⟩ : ∃ w', w' = World.setCell w14 ⟨g14, q, none⟩ (.int .u8 (v.toNat : Int)) := ⟨_, rfl⟩
      rw [← hw15]
      have B1' := Lib.hid (show Blk w15 g13 (bva s) 38 from by rw [hw15]; exact B1.out.other (by omega) _ _)
      have B2' := Lib.hid (show Blk w15 g14 (bva t) 38 from by rw [hw15, HT.out]; exact B2.out.setb q _ rfl)
      have BEL' := Lib.hid (show Below w.heap.size w w15 from by rw [hw15]; exact BEL.out.setCell (by have := BG.out; simp only []; omega) _)
      have RA' := Lib.hid (show Rd w.heap.size w15 A (bv l) from by rw [hw15]; exact RA.out.below ((Below.refl _ _).setCell (by have := BG.out; simp only []; omega) _))
      clear c0 f0 hw15 B1 B2 BEL RA
      have B1 := Lib.hid B1'.out
      have B2 := Lib.hid B2'.out
      have BEL := Lib.hid BEL'.out
      have RA := Lib.hid RA'.out
      clear B1' B2' BEL' RA'
      go_wp2_with (refine wpList_load_row rfl 38 (.tmp 17) rfl g14 rfl 38 (bva t) (0, 0) _ B2.out Try.underlying38 rfl HIT.out ?_)
      refine (HCV.out _).mono ?_
      rintro e w16 ⟨A16, n16, c16, rfl, ho, bw⟩
      obtain ⟨N16, hN16⟩ : ∃ N, N = n16 := ⟨_, rfl⟩
      subst hN16
      have OL := Lib.hid (own_blen ho)
      have RA' := Lib.hid (RA.out.below (bw.mono BEL.out.size))
      have BEL' := Lib.hid (BEL.out.trans (bw.mono BEL.out.size))
      have B1' := Lib.hid (Blk.below B1.out bw)
      have B2' := Lib.hid (Blk.below B2.out bw)
      clear RA BEL B1 B2
      have RA := Lib.hid RA'.out
      have BEL := Lib.hid BEL'.out
      have B1 := Lib.hid B1'.out
      have B2 := Lib.hid B2'.out
      clear RA' BEL' B1' B2'
      have OA := Lib.hid (show w16.ownsRow 0 5 1 (.slice A16 N16 c16) N16 _ from own_more ho (Nat.zero_le _))
      clear ho bw
      go_wp2_with fail
      refine (same_any A16 A N16 n c16 c l l _ OL.out HL.out (Rd.own OA.out) RA.out).mono ?_
      rintro e w17 ⟨rfl, rfl⟩
      rw [decide_eq_true (rfl : l = l)]
      go_wp2_with fail
      go_ret
      exact ⟨rfl, BEL.out⟩
    · cases hok : okS litSumL k t with
      | true =>
        obtain ⟨g2, hg2⟩ : ∃ x, x = genS t := ⟨_, rfl⟩
        obtain ⟨b2, hb2⟩ : ∃ x, x = bodyS t := ⟨_, rfl⟩
        have HCV := Lib.hid (show ∀ W, Calls Try.prog 54 #[.iface 98 (.agg Try.zeroCells98), .int .i64 k, .agg (bva t)] W (RetU g2 b2 true W) from fun W => by
          have h := HCU.out W
          rw [unpackS, hok, if_pos rfl] at h
          rw [hg2, hb2]; exact h)
        obtain ⟨p, hp⟩ : ∃ p, p = t := ⟨_, rfl⟩
        have P3 := Lib.hid (show p.length = 128 by rw [hp]; exact T3.out)
        have HIP : Hid ((Try.prog.info? 38).map (·.size) = some (bva p).size) := by rw [bva_size, P3.out]; exact info_sec
        have HCR := Lib.hid (show ∀ W A N c, b2.length = N → Rd W.heap.size W A (bv b2) → Calls Try.prog 52 #[.int .i64 k, .int .u64 g2, .slice A N c] W (RetB (.tuple #[.agg (bva p), .bool true]) W) from fun W A N c hn hr => by
          have h := rpack_any k g2 (by rw [hg2]; exact genS_lt t) A N c b2 W hn hr
          rw [hg2, hb2, pack_ok hok, (ok_may hok).1] at h
          rw [hp, hg2]; exact h)
        have heqp : ∀ W, (Op.equalIn 10000 38 (.agg (bva p)) (.agg (bva t))).run Try.prog W = .ok true W := fun W => by rw [hp]; exact heqt W
        clear hp hg2 hb2 HCU hok
        have hyz : ((y.toNat : Int) == 0) = false := by rw [beq_eq_false_iff_ne]; intro h; exact hy (UInt8.toNat_inj.1 (by simpa using h))
        have hyz2 : ¬ ((y.toNat : Int) = 0) := fun h => hy (UInt8.toNat_inj.1 (by simpa using h))
        clear hy
        have BEL := Lib.hid (Below.refl w.heap.size w)
        go_enter Try.func11, Try.ntmps11
        go_wp2_with fail
        refine (awake_any _).mono ?_
        rintro e w28 ⟨rfl, bw⟩
        have RA' := Lib.hid (RA.out.below (bw.mono BEL.out.size))
        have BEL' := Lib.hid (BEL.out.trans (bw.mono BEL.out.size))
        clear RA BEL
        have RA := Lib.hid RA'.out
        have BEL := Lib.hid BEL'.out
        clear RA' BEL'
        clear bw
        go_wp2_with fail
        refine (HCP.out _ (RA.out.more BEL.out.size)).mono ?_
        rintro e w29 ⟨rfl, bw⟩
        have RA' := Lib.hid (RA.out.below (bw.mono BEL.out.size))
        have BEL' := Lib.hid (BEL.out.trans (bw.mono BEL.out.size))
        clear RA BEL
        have RA := Lib.hid RA'.out
        have BEL := Lib.hid BEL'.out
        clear RA' BEL'
        clear bw
        go_wp2_with (first
          | (show wpList _ _ _ ({ dst := none, op := .store 38 (.tmp 15) (.tmp 41), type := _, pos := _, after := _, guard := _ } :: _) _ _; apply Classical.byContradiction; intro hneg))
        refine hneg ?_
        clear hneg
        refine wpList_store_row rfl 38 (.tmp 15) (.tmp 41) rfl w29.heap.size (bva s) rfl rfl 38 (bva z) (heap_alloc_new _ _) HIS.out (by rw [bva_size, bva_size, S3.out, HZ3.out]) (bva_one _) ?_
        obtain ⟨w30, hw30⟩ : ∃ x, x = (w29.alloc (.cells (bva z) 38)).setRow w29.heap.size (bva s) := ⟨_, rfl⟩
        rw [← hw30]
        obtain ⟨g30, hg30⟩ : ∃ x, x = w29.heap.size := ⟨_, rfl⟩
        have bn : Below w29.heap.size w29 w30 := by rw [hw30]; exact below_new (Below.refl _ _) (Nat.le_refl _)
        have B1 := Lib.hid (show Blk w30 g30 (bva s) 38 from by rw [hw30, hg30]; exact blk_new _)
        rw [← hg30]
        clear hw30 hg30
        have RA' := Lib.hid (RA.out.below (bn.mono BEL.out.size))
        have BEL' := Lib.hid (BEL.out.trans (bn.mono BEL.out.size))
        clear RA BEL
        have RA := Lib.hid RA'.out
        have BEL := Lib.hid BEL'.out
        clear RA' BEL'
        clear bn
        go_wp2_with (first
          | (refine wpList_load_row rfl 38 (.tmp 15) rfl g30 rfl 38 (bva s) (0, 0) _ B1.out Try.underlying38 rfl HIS.out ?_)
          | (show wpList _ _ _ ({ dst := none, op := .store 38 (.tmp 17) (.tmp 43), type := _, pos := _, after := _, guard := _ } :: _) _ _; apply Classical.byContradiction; intro hneg))
        refine hneg ?_
        clear hneg
        refine wpList_store_row rfl 38 (.tmp 17) (.tmp 43) rfl w30.heap.size (bva s) rfl rfl 38 (bva z) (heap_alloc_new _ _) HIS.out (by rw [bva_size, bva_size, S3.out, HZ3.out]) (bva_one _) ?_
        obtain ⟨w31, hw31⟩ : ∃ x, x = (w30.alloc (.cells (bva z) 38)).setRow w30.heap.size (bva s) := ⟨_, rfl⟩
        rw [← hw31]
        obtain ⟨g31, hg31⟩ : ∃ x, x = w30.heap.size := ⟨_, rfl⟩
        have bn : Below w30.heap.size w30 w31 := by rw [hw31]; exact below_new (Below.refl _ _) (Nat.le_refl _)
        have B2 := Lib.hid (show Blk w31 g31 (bva s) 38 from by rw [hw31, hg31]; exact blk_new _)
        have GL := Lib.hid (show g30 < w30.heap.size from B1.out.lt)
        have BG := Lib.hid (show w.heap.size ≤ w30.heap.size from BEL.out.size)
        rw [← hg31] at GL BG
        rw [← hg31]
        clear hw31 hg31
        have RA' := Lib.hid (RA.out.below (bn.mono BEL.out.size))
        have BEL' := Lib.hid (BEL.out.trans (bn.mono BEL.out.size))
        have B1' := Lib.hid (Blk.below B1.out bn)
        clear RA BEL B1
        have RA := Lib.hid RA'.out
        have BEL := Lib.hid BEL'.out
        have B1 := Lib.hid B1'.out
        clear RA' BEL' B1'
        clear bn
        have c0 := B2.out.cellb (k := q) (by rw [S3.out]; exact HQ.out)
        rw [← HX.out] at c0
        have f0 := B2.out.free q
        have hg12 : g30 < g31 := GL.out
        go_wp2_with (show wpList _ _ _ ({ dst := some 53, op := .build 98 #[], type := _, pos := _, after := _, guard := _ } :: _) _ _; apply Classical.byContradiction; intro hneg)
        refine hneg ?_
        clear hneg
        obtain ⟨w32, hw32⟩ : ∃ w', w' = World.setCell w31 ⟨g31, q, none⟩ (.int .u8 (v.toNat : Int)) := ⟨_, rfl⟩
        rw [← hw32]
        have B1' := Lib.hid (show Blk w32 g30 (bva s) 38 from by rw [hw32]; exact B1.out.other (by omega) _ _)
        have B2' := Lib.hid (show Blk w32 g31 (bva t) 38 from by rw [hw32, HT.out]; exact B2.out.setb q _ rfl)
        have BEL' := Lib.hid (show Below w.heap.size w w32 from by rw [hw32]; exact BEL.out.setCell (by have := BG.out; simp only []; omega) _)
        have RA' := Lib.hid (show Rd w.heap.size w32 A (bv l) from by rw [hw32]; exact RA.out.below ((Below.refl _ _).setCell (by have := BG.out; simp only []; omega) _))
        clear c0 f0 hw32 B1 B2 BEL RA
        have B1 := Lib.hid B1'.out
        have B2 := Lib.hid B2'.out
        have BEL := Lib.hid BEL'.out
        have RA := Lib.hid RA'.out
        clear B1' B2' BEL' RA'
        go_wp2_with (refine wpList_load_row rfl 38 (.tmp 17) rfl g31 rfl 38 (bva t) (0, 0) _ B2.out Try.underlying38 rfl HIT.out ?_)
        refine (HCV.out _).mono ?_
        rintro e w33 ⟨A33, n33, c33, rfl, ho, bw⟩
        obtain ⟨N33, hN33⟩ : ∃ N, N = n33 := ⟨_, rfl⟩
        subst hN33
        have OL := Lib.hid (own_blen ho)
        have RA' := Lib.hid (RA.out.below (bw.mono BEL.out.size))
        have BEL' := Lib.hid (BEL.out.trans (bw.mono BEL.out.size))
        have B1' := Lib.hid (Blk.below B1.out bw)
        have B2' := Lib.hid (Blk.below B2.out bw)
        clear RA BEL B1 B2
        have RA := Lib.hid RA'.out
        have BEL := Lib.hid BEL'.out
        have B1 := Lib.hid B1'.out
        have B2 := Lib.hid B2'.out
        clear RA' BEL' B1' B2'
        have OA := Lib.hid (show w33.ownsRow 0 5 1 (.slice A33 N33 c33) N33 _ from own_more ho (Nat.zero_le _))
        clear ho bw
        go_wp2_with fail
        refine (HCR.out _ A33 N33 c33 OL.out (Rd.own OA.out)).mono ?_
        rintro e w34 ⟨rfl, bw⟩
        have RA' := Lib.hid (RA.out.below (bw.mono BEL.out.size))
        have BEL' := Lib.hid (BEL.out.trans (bw.mono BEL.out.size))
        have B1' := Lib.hid (Blk.below B1.out bw)
        have B2' := Lib.hid (Blk.below B2.out bw)
        have OA' := Lib.hid (own_below OA.out bw)
        clear RA BEL B1 B2 OA
        have RA := Lib.hid RA'.out
        have BEL := Lib.hid BEL'.out
        have B1 := Lib.hid B1'.out
        have B2 := Lib.hid B2'.out
        have OA := Lib.hid OA'.out
        clear RA' BEL' B1' B2' OA'
        clear bw
        go_wp2_with (first
          | (show wpList _ _ _ ({ dst := none, op := .store 38 (.tmp 21) (.tmp 84), type := _, pos := _, after := _, guard := _ } :: _) _ _; apply Classical.byContradiction; intro hneg))
        refine hneg ?_
        clear hneg
        refine wpList_store_row rfl 38 (.tmp 21) (.tmp 84) rfl w34.heap.size (bva p) rfl rfl 38 (bva z) (heap_alloc_new _ _) HIP.out (by rw [bva_size, bva_size, P3.out, HZ3.out]) (bva_one _) ?_
        obtain ⟨w35, hw35⟩ : ∃ x, x = (w34.alloc (.cells (bva z) 38)).setRow w34.heap.size (bva p) := ⟨_, rfl⟩
        rw [← hw35]
        obtain ⟨g35, hg35⟩ : ∃ x, x = w34.heap.size := ⟨_, rfl⟩
        have bn : Below w34.heap.size w34 w35 := by rw [hw35]; exact below_new (Below.refl _ _) (Nat.le_refl _)
        have B3 := Lib.hid (show Blk w35 g35 (bva p) 38 from by rw [hw35, hg35]; exact blk_new _)
        rw [← hg35]
        clear hw35 hg35
        have RA' := Lib.hid (RA.out.below (bn.mono BEL.out.size))
        have BEL' := Lib.hid (BEL.out.trans (bn.mono BEL.out.size))
        have B1' := Lib.hid (Blk.below B1.out bn)
        have B2' := Lib.hid (Blk.below B2.out bn)
        have OA' := Lib.hid (own_below OA.out bn)
        clear RA BEL B1 B2 OA
        have RA := Lib.hid RA'.out
        have BEL := Lib.hid BEL'.out
        have B1 := Lib.hid B1'.out
        have B2 := Lib.hid B2'.out
        have OA := Lib.hid OA'.out
        clear RA' BEL' B1' B2' OA'
        clear bn
        go_wp2_with (first
          | (refine wpList_execg8 (o := { dst := some 91, op := .load 38 (.tmp 21), type := _, pos := _, after := _, guard := _ }) (v := .agg (bva p)) (w' := w35) rfl ?hl91 ?_; case hl91 => exact exec_load 38 (.tmp 21) rfl rfl B3.out Try.underlying38 rfl HIP.out)
          | (refine wpList_execg8 (o := { dst := some 92, op := .load 38 (.tmp 17), type := _, pos := _, after := _, guard := _ }) (v := .agg (bva t)) (w' := w35) rfl ?hl92 ?_; case hl92 => exact exec_load 38 (.tmp 17) rfl rfl B2.out Try.underlying38 rfl HIT.out))
        go_ret
        exact ⟨rfl, BEL.out⟩
      | false =>
        have HCV := Lib.hid (show ∀ W, Calls Try.prog 54 #[.iface 98 (.agg Try.zeroCells98), .int .i64 k, .agg (bva t)] W (RetU 0 [] false W) from fun W => by
          have h := HCU.out W
          rw [unpackS, hok, if_neg (by simp)] at h
          exact h)
        obtain ⟨p, hp⟩ : ∃ p, p = packS litSumL k 0 [] := ⟨_, rfl⟩
        obtain ⟨may, hma⟩ : ∃ x, x = mayS k [] := ⟨_, rfl⟩
        have P3 := Lib.hid (show p.length = 128 by rw [hp]; exact packS_length litSumL_length)
        have HIP : Hid ((Try.prog.info? 38).map (·.size) = some (bva p).size) := by rw [bva_size, P3.out]; exact info_sec
        have HCR := Lib.hid (show ∀ W A N c, ([] : List UInt8).length = N → Rd W.heap.size W A (bv []) → Calls Try.prog 52 #[.int .i64 k, .int .u64 0, .slice A N c] W (RetB (.tuple #[.agg (bva p), .bool may]) W) from fun W A N c hn hr => by
          rw [hp, hma]; exact rpack_any k 0 (by omega) A N c [] W hn hr)
        clear hp hma HCU hok
        have hyz : ((y.toNat : Int) == 0) = false := by rw [beq_eq_false_iff_ne]; intro h; exact hy (UInt8.toNat_inj.1 (by simpa using h))
        have hyz2 : ¬ ((y.toNat : Int) = 0) := fun h => hy (UInt8.toNat_inj.1 (by simpa using h))
        clear hy
        have BEL := Lib.hid (Below.refl w.heap.size w)
        go_enter Try.func11, Try.ntmps11
        go_wp2_with fail
        refine (awake_any _).mono ?_
        rintro e w46 ⟨rfl, bw⟩
        have RA' := Lib.hid (RA.out.below (bw.mono BEL.out.size))
        have BEL' := Lib.hid (BEL.out.trans (bw.mono BEL.out.size))
        clear RA BEL
        have RA := Lib.hid RA'.out
        have BEL := Lib.hid BEL'.out
        clear RA' BEL'
        clear bw
        go_wp2_with fail
        refine (HCP.out _ (RA.out.more BEL.out.size)).mono ?_
        rintro e w47 ⟨rfl, bw⟩
        have RA' := Lib.hid (RA.out.below (bw.mono BEL.out.size))
        have BEL' := Lib.hid (BEL.out.trans (bw.mono BEL.out.size))
        clear RA BEL
        have RA := Lib.hid RA'.out
        have BEL := Lib.hid BEL'.out
        clear RA' BEL'
        clear bw
        go_wp2_with (first
          | (show wpList _ _ _ ({ dst := none, op := .store 38 (.tmp 15) (.tmp 41), type := _, pos := _, after := _, guard := _ } :: _) _ _; apply Classical.byContradiction; intro hneg))
        refine hneg ?_
        clear hneg
        refine wpList_store_row rfl 38 (.tmp 15) (.tmp 41) rfl w47.heap.size (bva s) rfl rfl 38 (bva z) (heap_alloc_new _ _) HIS.out (by rw [bva_size, bva_size, S3.out, HZ3.out]) (bva_one _) ?_
        obtain ⟨w48, hw48⟩ : ∃ x, x = (w47.alloc (.cells (bva z) 38)).setRow w47.heap.size (bva s) := ⟨_, rfl⟩
        rw [← hw48]
        obtain ⟨g48, hg48⟩ : ∃ x, x = w47.heap.size := ⟨_, rfl⟩
        have bn : Below w47.heap.size w47 w48 := by rw [hw48]; exact below_new (Below.refl _ _) (Nat.le_refl _)
        have B1 := Lib.hid (show Blk w48 g48 (bva s) 38 from by rw [hw48, hg48]; exact blk_new _)
        rw [← hg48]
        clear hw48 hg48
        have RA' := Lib.hid (RA.out.below (bn.mono BEL.out.size))
        have BEL' := Lib.hid (BEL.out.trans (bn.mono BEL.out.size))
        clear RA BEL
        have RA := Lib.hid RA'.out
        have BEL := Lib.hid BEL'.out
        clear RA' BEL'
        clear bn
        go_wp2_with (first
          | (refine wpList_load_row rfl 38 (.tmp 15) rfl g48 rfl 38 (bva s) (0, 0) _ B1.out Try.underlying38 rfl HIS.out ?_)
          | (show wpList _ _ _ ({ dst := none, op := .store 38 (.tmp 17) (.tmp 43), type := _, pos := _, after := _, guard := _ } :: _) _ _; apply Classical.byContradiction; intro hneg))
        refine hneg ?_
        clear hneg
        refine wpList_store_row rfl 38 (.tmp 17) (.tmp 43) rfl w48.heap.size (bva s) rfl rfl 38 (bva z) (heap_alloc_new _ _) HIS.out (by rw [bva_size, bva_size, S3.out, HZ3.out]) (bva_one _) ?_
        obtain ⟨w49, hw49⟩ : ∃ x, x = (w48.alloc (.cells (bva z) 38)).setRow w48.heap.size (bva s) := ⟨_, rfl⟩
        rw [← hw49]
        obtain ⟨g49, hg49⟩ : ∃ x, x = w48.heap.size := ⟨_, rfl⟩
        have bn : Below w48.heap.size w48 w49 := by rw [hw49]; exact below_new (Below.refl _ _) (Nat.le_refl _)
        have B2 := Lib.hid (show Blk w49 g49 (bva s) 38 from by rw [hw49, hg49]; exact blk_new _)
        have GL := Lib.hid (show g48 < w48.heap.size from B1.out.lt)
        have BG := Lib.hid (show w.heap.size ≤ w48.heap.size from BEL.out.size)
        rw [← hg49] at GL BG
        rw [← hg49]
        clear hw49 hg49
        have RA' := Lib.hid (RA.out.below (bn.mono BEL.out.size))
        have BEL' := Lib.hid (BEL.out.trans (bn.mono BEL.out.size))
        have B1' := Lib.hid (Blk.below B1.out bn)
        clear RA BEL B1
        have RA := Lib.hid RA'.out
        have BEL := Lib.hid BEL'.out
        have B1 := Lib.hid B1'.out
        clear RA' BEL' B1'
        clear bn
        have c0 := B2.out.cellb (k := q) (by rw [S3.out]; exact HQ.out)
        rw [← HX.out] at c0
        have f0 := B2.out.free q
        have hg12 : g48 < g49 := GL.out
        go_wp2_with (show wpList _ _ _ ({ dst := some 53, op := .build 98 #[], type := _, pos := _, after := _, guard := _ } :: _) _ _; apply Classical.byContradiction; intro hneg)
        refine hneg ?_
        clear hneg
        obtain ⟨w50, hw50⟩ : ∃ w', w' = World.setCell w49 ⟨g49, q, none⟩ (.int .u8 (v.toNat : Int)) := ⟨_, rfl⟩
        rw [← hw50]
        have B1' := Lib.hid (show Blk w50 g48 (bva s) 38 from by rw [hw50]; exact B1.out.other (by omega) _ _)
        have B2' := Lib.hid (show Blk w50 g49 (bva t) 38 from by rw [hw50, HT.out]; exact B2.out.setb q _ rfl)
        have BEL' := Lib.hid (show Below w.heap.size w w50 from by rw [hw50]; exact BEL.out.setCell (by have := BG.out; simp only []; omega) _)
        have RA' := Lib.hid (show Rd w.heap.size w50 A (bv l) from by rw [hw50]; exact RA.out.below ((Below.refl _ _).setCell (by have := BG.out; simp only []; omega) _))
        clear c0 f0 hw50 B1 B2 BEL RA
        have B1 := Lib.hid B1'.out
        have B2 := Lib.hid B2'.out
        have BEL := Lib.hid BEL'.out
        have RA := Lib.hid RA'.out
        clear B1' B2' BEL' RA'
        go_wp2_with (refine wpList_load_row rfl 38 (.tmp 17) rfl g49 rfl 38 (bva t) (0, 0) _ B2.out Try.underlying38 rfl HIT.out ?_)
        refine (HCV.out _).mono ?_
        rintro e w51 ⟨A51, n51, c51, rfl, ho, bw⟩
        obtain ⟨N51, hN51⟩ : ∃ N, N = n51 := ⟨_, rfl⟩
        subst hN51
        have OL := Lib.hid (own_blen ho)
        have RA' := Lib.hid (RA.out.below (bw.mono BEL.out.size))
        have BEL' := Lib.hid (BEL.out.trans (bw.mono BEL.out.size))
        have B1' := Lib.hid (Blk.below B1.out bw)
        have B2' := Lib.hid (Blk.below B2.out bw)
        clear RA BEL B1 B2
        have RA := Lib.hid RA'.out
        have BEL := Lib.hid BEL'.out
        have B1 := Lib.hid B1'.out
        have B2 := Lib.hid B2'.out
        clear RA' BEL' B1' B2'
        have OA := Lib.hid (show w51.ownsRow 0 5 1 (.slice A51 N51 c51) N51 _ from own_more ho (Nat.zero_le _))
        clear ho bw
        go_wp2_with fail
        refine (HCR.out _ A51 N51 c51 OL.out (Rd.own OA.out)).mono ?_
        rintro e w52 ⟨rfl, bw⟩
        have RA' := Lib.hid (RA.out.below (bw.mono BEL.out.size))
        have BEL' := Lib.hid (BEL.out.trans (bw.mono BEL.out.size))
        have B1' := Lib.hid (Blk.below B1.out bw)
        have B2' := Lib.hid (Blk.below B2.out bw)
        have OA' := Lib.hid (own_below OA.out bw)
        clear RA BEL B1 B2 OA
        have RA := Lib.hid RA'.out
        have BEL := Lib.hid BEL'.out
        have B1 := Lib.hid B1'.out
        have B2 := Lib.hid B2'.out
        have OA := Lib.hid OA'.out
        clear RA' BEL' B1' B2' OA'
        clear bw
        go_wp2_with (first
          | (show wpList _ _ _ ({ dst := none, op := .store 38 (.tmp 21) (.tmp 84), type := _, pos := _, after := _, guard := _ } :: _) _ _; apply Classical.byContradiction; intro hneg))
        refine hneg ?_
        clear hneg
        refine wpList_store_row rfl 38 (.tmp 21) (.tmp 84) rfl w52.heap.size (bva p) rfl rfl 38 (bva z) (heap_alloc_new _ _) HIP.out (by rw [bva_size, bva_size, P3.out, HZ3.out]) (bva_one _) ?_
        obtain ⟨w53, hw53⟩ : ∃ x, x = (w52.alloc (.cells (bva z) 38)).setRow w52.heap.size (bva p) := ⟨_, rfl⟩
        rw [← hw53]
        obtain ⟨g53, hg53⟩ : ∃ x, x = w52.heap.size := ⟨_, rfl⟩
        have bn : Below w52.heap.size w52 w53 := by rw [hw53]; exact below_new (Below.refl _ _) (Nat.le_refl _)
        have B3 := Lib.hid (show Blk w53 g53 (bva p) 38 from by rw [hw53, hg53]; exact blk_new _)
        rw [← hg53]
        clear hw53 hg53
        have RA' := Lib.hid (RA.out.below (bn.mono BEL.out.size))
        have BEL' := Lib.hid (BEL.out.trans (bn.mono BEL.out.size))
        have B1' := Lib.hid (Blk.below B1.out bn)
        have B2' := Lib.hid (Blk.below B2.out bn)
        have OA' := Lib.hid (own_below OA.out bn)
        clear RA BEL B1 B2 OA
        have RA := Lib.hid RA'.out
        have BEL := Lib.hid BEL'.out
        have B1 := Lib.hid B1'.out
        have B2 := Lib.hid B2'.out
        have OA := Lib.hid OA'.out
        clear RA' BEL' B1' B2' OA'
        clear bn
        go_wp2_with fail
        go_ret
        exact ⟨rfl, BEL.out⟩
  · cases hok : okS litSumL m t with
    | true =>
      obtain ⟨g2, hg2⟩ : ∃ x, x = genS t := ⟨_, rfl⟩
      obtain ⟨b2, hb2⟩ : ∃ x, x = bodyS t := ⟨_, rfl⟩
      have HCV := Lib.hid (show ∀ W, Calls Try.prog 54 #[.iface 98 (.agg Try.zeroCells98), .int .i64 m, .agg (bva t)] W (RetU g2 b2 true W) from fun W => by
        have h := HCU.out W
        rw [unpackS, hok, if_pos rfl] at h
        rw [hg2, hb2]; exact h)
      obtain ⟨p, hp⟩ : ∃ p, p = t := ⟨_, rfl⟩
      have P3 := Lib.hid (show p.length = 128 by rw [hp]; exact T3.out)
      have HIP : Hid ((Try.prog.info? 38).map (·.size) = some (bva p).size) := by rw [bva_size, P3.out]; exact info_sec
      have HCR := Lib.hid (show ∀ W A N c, b2.length = N → Rd W.heap.size W A (bv b2) → Calls Try.prog 52 #[.int .i64 m, .int .u64 g2, .slice A N c] W (RetB (.tuple #[.agg (bva p), .bool true]) W) from fun W A N c hn hr => by
        have h := rpack_any m g2 (by rw [hg2]; exact genS_lt t) A N c b2 W hn hr
        rw [hg2, hb2, pack_ok hok, (ok_may hok).1] at h
        rw [hp, hg2]; exact h)
      have heqp : ∀ W, (Op.equalIn 10000 38 (.agg (bva p)) (.agg (bva t))).run Try.prog W = .ok true W := fun W => by rw [hp]; exact heqt W
      clear hp hg2 hb2 HCU hok
      have hyz : ((k : Int) == (m : Int)) = false := by rw [beq_eq_false_iff_ne]; omega
      have hyz2 : ¬ ((k : Int) = (m : Int)) := by omega
      clear hkm
      have BEL := Lib.hid (Below.refl w.heap.size w)
      go_enter Try.func11, Try.ntmps11
      go_wp2_with fail
      refine (awake_any _).mono ?_
      rintro e w64 ⟨rfl, bw⟩
      have RA' := Lib.hid (RA.out.below (bw.mono BEL.out.size))
      have BEL' := Lib.hid (BEL.out.trans (bw.mono BEL.out.size))
      clear RA BEL
      have RA := Lib.hid RA'.out
      have BEL := Lib.hid BEL'.out
      clear RA' BEL'
      clear bw
      go_wp2_with fail
      refine (HCP.out _ (RA.out.more BEL.out.size)).mono ?_
      rintro e w65 ⟨rfl, bw⟩
      have RA' := Lib.hid (RA.out.below (bw.mono BEL.out.size))
      have BEL' := Lib.hid (BEL.out.trans (bw.mono BEL.out.size))
      clear RA BEL
      have RA := Lib.hid RA'.out
      have BEL := Lib.hid BEL'.out
      clear RA' BEL'
      clear bw
      go_wp2_with (first
        | (show wpList _ _ _ ({ dst := none, op := .store 38 (.tmp 15) (.tmp 41), type := _, pos := _, after := _, guard := _ } :: _) _ _; apply Classical.byContradiction; intro hneg))
      refine hneg ?_
      clear hneg
      refine wpList_store_row rfl 38 (.tmp 15) (.tmp 41) rfl w65.heap.size (bva s) rfl rfl 38 (bva z) (heap_alloc_new _ _) HIS.out (by rw [bva_size, bva_size, S3.out, HZ3.out]) (bva_one _) ?_
      obtain ⟨w66, hw66⟩ : ∃ x, x = (w65.alloc (.cells (bva z) 38)).setRow w65.heap.size (bva s) := ⟨_, rfl⟩
      rw [← hw66]
      obtain ⟨g66, hg66⟩ : ∃ x, x = w65.heap.size := ⟨_, rfl⟩
      have bn : Below w65.heap.size w65 w66 := by rw [hw66]; exact below_new (Below.refl _ _) (Nat.le_refl _)
      have B1 := Lib.hid (show Blk w66 g66 (bva s) 38 from by rw [hw66, hg66]; exact blk_new _)
      rw [← hg66]
      clear hw66 hg66
      have RA' := Lib.hid (RA.out.below (bn.mono BEL.out.size))
      have BEL' := Lib.hid (BEL.out.trans (bn.mono BEL.out.size))
      clear RA BEL
      have RA := Lib.hid RA'.out
      have BEL := Lib.hid BEL'.out
      clear RA' BEL'
      clear bn
      go_wp2_with (first
        | (refine wpList_load_row rfl 38 (.tmp 15) rfl g66 rfl 38 (bva s) (0, 0) _ B1.out Try.underlying38 rfl HIS.out ?_)
        | (show wpList _ _ _ ({ dst := none, op := .store 38 (.tmp 17) (.tmp 43), type := _, pos := _, after := _, guard := _ } :: _) _ _; apply Classical.byContradiction; intro hneg))
      refine hneg ?_
      clear hneg
      refine wpList_store_row rfl 38 (.tmp 17) (.tmp 43) rfl w66.heap.size (bva s) rfl rfl 38 (bva z) (heap_alloc_new _ _) HIS.out (by rw [bva_size, bva_size, S3.out, HZ3.out]) (bva_one _) ?_
      obtain ⟨w67, hw67⟩ : ∃ x, x = (w66.alloc (.cells (bva z) 38)).setRow w66.heap.size (bva s) := ⟨_, rfl⟩
      rw [← hw67]
      obtain ⟨g67, hg67⟩ : ∃ x, x = w66.heap.size := ⟨_, rfl⟩
      have bn : Below w66.heap.size w66 w67 := by rw [hw67]; exact below_new (Below.refl _ _) (Nat.le_refl _)
      have B2 := Lib.hid (show Blk w67 g67 (bva s) 38 from by rw [hw67, hg67]; exact blk_new _)
      have GL := Lib.hid (show g66 < w66.heap.size from B1.out.lt)
      have BG := Lib.hid (show w.heap.size ≤ w66.heap.size from BEL.out.size)
      rw [← hg67] at GL BG
      rw [← hg67]
      clear hw67 hg67
      have RA' := Lib.hid (RA.out.below (bn.mono BEL.out.size))
      have BEL' := Lib.hid (BEL.out.trans (bn.mono BEL.out.size))
      have B1' := Lib.hid (Blk.below B1.out bn)
      clear RA BEL B1
      have RA := Lib.hid RA'.out
      have BEL := Lib.hid BEL'.out
      have B1 := Lib.hid B1'.out
      clear RA' BEL' B1'
      clear bn
      have c0 := B2.out.cellb (k := q) (by rw [S3.out]; exact HQ.out)
      rw [← HX.out] at c0
      have f0 := B2.out.free q
      have hg12 : g66 < g67 := GL.out
      go_wp2_with (show wpList _ _ _ ({ dst := some 53, op := .build 98 #[], type := _, pos := _, after := _, guard := _ } :: _) _ _; apply Classical.byContradiction; intro hneg)
      refine hneg ?_
      clear hneg
      obtain ⟨w68, hw68⟩ : ∃ w', w' = World.setCell w67 ⟨g67, q, none⟩ (.int .u8 (v.toNat : Int)) := ⟨_, rfl⟩
      rw [← hw68]
      have B1' := Lib.hid (show Blk w68 g66 (bva s) 38 from by rw [hw68]; exact B1.out.other (by omega) _ _)
      have B2' := Lib.hid (show Blk w68 g67 (bva t) 38 from by rw [hw68, HT.out]; exact B2.out.setb q _ rfl)
      have BEL' := Lib.hid (show Below w.heap.size w w68 from by rw [hw68]; exact BEL.out.setCell (by have := BG.out; simp only []; omega) _)
      have RA' := Lib.hid (show Rd w.heap.size w68 A (bv l) from by rw [hw68]; exact RA.out.below ((Below.refl _ _).setCell (by have := BG.out; simp only []; omega) _))
      clear c0 f0 hw68 B1 B2 BEL RA
      have B1 := Lib.hid B1'.out
      have B2 := Lib.hid B2'.out
      have BEL := Lib.hid BEL'.out
      have RA := Lib.hid RA'.out
      clear B1' B2' BEL' RA'
      go_wp2_with (refine wpList_load_row rfl 38 (.tmp 17) rfl g67 rfl 38 (bva t) (0, 0) _ B2.out Try.underlying38 rfl HIT.out ?_)
      refine (HCV.out _).mono ?_
      rintro e w69 ⟨A69, n69, c69, rfl, ho, bw⟩
      obtain ⟨N69, hN69⟩ : ∃ N, N = n69 := ⟨_, rfl⟩
      subst hN69
      have OL := Lib.hid (own_blen ho)
      have RA' := Lib.hid (RA.out.below (bw.mono BEL.out.size))
      have BEL' := Lib.hid (BEL.out.trans (bw.mono BEL.out.size))
      have B1' := Lib.hid (Blk.below B1.out bw)
      have B2' := Lib.hid (Blk.below B2.out bw)
      clear RA BEL B1 B2
      have RA := Lib.hid RA'.out
      have BEL := Lib.hid BEL'.out
      have B1 := Lib.hid B1'.out
      have B2 := Lib.hid B2'.out
      clear RA' BEL' B1' B2'
      have OA := Lib.hid (show w69.ownsRow 0 5 1 (.slice A69 N69 c69) N69 _ from own_more ho (Nat.zero_le _))
      clear ho bw
      go_wp2_with fail
      refine (HCR.out _ A69 N69 c69 OL.out (Rd.own OA.out)).mono ?_
      rintro e w70 ⟨rfl, bw⟩
      have RA' := Lib.hid (RA.out.below (bw.mono BEL.out.size))
      have BEL' := Lib.hid (BEL.out.trans (bw.mono BEL.out.size))
      have B1' := Lib.hid (Blk.below B1.out bw)
      have B2' := Lib.hid (Blk.below B2.out bw)
      have OA' := Lib.hid (own_below OA.out bw)
      clear RA BEL B1 B2 OA
      have RA := Lib.hid RA'.out
      have BEL := Lib.hid BEL'.out
      have B1 := Lib.hid B1'.out
      have B2 := Lib.hid B2'.out
      have OA := Lib.hid OA'.out
      clear RA' BEL' B1' B2' OA'
      clear bw
      go_wp2_with (first
        | (show wpList _ _ _ ({ dst := none, op := .store 38 (.tmp 21) (.tmp 84), type := _, pos := _, after := _, guard := _ } :: _) _ _; apply Classical.byContradiction; intro hneg))
      refine hneg ?_
      clear hneg
      refine wpList_store_row rfl 38 (.tmp 21) (.tmp 84) rfl w70.heap.size (bva p) rfl rfl 38 (bva z) (heap_alloc_new _ _) HIP.out (by rw [bva_size, bva_size, P3.out, HZ3.out]) (bva_one _) ?_
      obtain ⟨w71, hw71⟩ : ∃ x, x = (w70.alloc (.cells (bva z) 38)).setRow w70.heap.size (bva p) := ⟨_, rfl⟩
      rw [← hw71]
      obtain ⟨g71, hg71⟩ : ∃ x, x = w70.heap.size := ⟨_, rfl⟩
      have bn : Below w70.heap.size w70 w71 := by rw [hw71]; exact below_new (Below.refl _ _) (Nat.le_refl _)
      have B3 := Lib.hid (show Blk w71 g71 (bva p) 38 from by rw [hw71, hg71]; exact blk_new _)
      rw [← hg71]
      clear hw71 hg71
      have RA' := Lib.hid (RA.out.below (bn.mono BEL.out.size))
      have BEL' := Lib.hid (BEL.out.trans (bn.mono BEL.out.size))
      have B1' := Lib.hid (Blk.below B1.out bn)
      have B2' := Lib.hid (Blk.below B2.out bn)
      have OA' := Lib.hid (own_below OA.out bn)
      clear RA BEL B1 B2 OA
      have RA := Lib.hid RA'.out
      have BEL := Lib.hid BEL'.out
      have B1 := Lib.hid B1'.out
      have B2 := Lib.hid B2'.out
      have OA := Lib.hid OA'.out
      clear RA' BEL' B1' B2' OA'
      clear bn
      go_wp2_with (first
        | (refine wpList_execg8 (o := { dst := some 91, op := .load 38 (.tmp 21), type := _, pos := _, after := _, guard := _ }) (v := .agg (bva p)) (w' := w71) rfl ?hl91 ?_; case hl91 => exact exec_load 38 (.tmp 21) rfl rfl B3.out Try.underlying38 rfl HIP.out)
        | (refine wpList_execg8 (o := { dst := some 92, op := .load 38 (.tmp 17), type := _, pos := _, after := _, guard := _ }) (v := .agg (bva t)) (w' := w71) rfl ?hl92 ?_; case hl92 => exact exec_load 38 (.tmp 17) rfl rfl B2.out Try.underlying38 rfl HIT.out))
      go_ret
      exact ⟨rfl, BEL.out⟩
    | false =>
      have HCV := Lib.hid (show ∀ W, Calls Try.prog 54 #[.iface 98 (.agg Try.zeroCells98), .int .i64 m, .agg (bva t)] W (RetU 0 [] false W) from fun W => by
        have h := HCU.out W
        rw [unpackS, hok, if_neg (by simp)] at h
        exact h)
      obtain ⟨p, hp⟩ : ∃ p, p = packS litSumL m 0 [] := ⟨_, rfl⟩
      obtain ⟨may, hma⟩ : ∃ x, x = mayS m [] := ⟨_, rfl⟩
      have P3 := Lib.hid (show p.length = 128 by rw [hp]; exact packS_length litSumL_length)
      have HIP : Hid ((Try.prog.info? 38).map (·.size) = some (bva p).size) := by rw [bva_size, P3.out]; exact info_sec
      have HCR := Lib.hid (show ∀ W A N c, ([] : List UInt8).length = N → Rd W.heap.size W A (bv []) → Calls Try.prog 52 #[.int .i64 m, .int .u64 0, .slice A N c] W (RetB (.tuple #[.agg (bva p), .bool may]) W) from fun W A N c hn hr => by
        rw [hp, hma]; exact rpack_any m 0 (by omega) A N c [] W hn hr)
      clear hp hma HCU hok
      have hyz : ((k : Int) == (m : Int)) = false := by rw [beq_eq_false_iff_ne]; omega
      have hyz2 : ¬ ((k : Int) = (m : Int)) := by omega
      clear hkm
      have BEL := Lib.hid (Below.refl w.heap.size w)
      go_enter Try.func11, Try.ntmps11
      go_wp2_with fail
      refine (awake_any _).mono ?_
      rintro e w82 ⟨rfl, bw⟩
      have RA' := Lib.hid (RA.out.below (bw.mono BEL.out.size))
      have BEL' := Lib.hid (BEL.out.trans (bw.mono BEL.out.size))
      clear RA BEL
      have RA := Lib.hid RA'.out
      have BEL := Lib.hid BEL'.out
      clear RA' BEL'
      clear bw
      go_wp2_with fail
      refine (HCP.out _ (RA.out.more BEL.out.size)).mono ?_
      rintro e w83 ⟨rfl, bw⟩
      have RA' := Lib.hid (RA.out.below (bw.mono BEL.out.size))
      have BEL' := Lib.hid (BEL.out.trans (bw.mono BEL.out.size))
      clear RA BEL
      have RA := Lib.hid RA'.out
      have BEL := Lib.hid BEL'.out
      clear RA' BEL'
      clear bw
      go_wp2_with (first
        | (show wpList _ _ _ ({ dst := none, op := .store 38 (.tmp 15) (.tmp 41), type := _, pos := _, after := _, guard := _ } :: _) _ _; apply Classical.byContradiction; intro hneg))
      refine hneg ?_
      clear hneg
      refine wpList_store_row rfl 38 (.tmp 15) (.tmp 41) rfl w83.heap.size (bva s) rfl rfl 38 (bva z) (heap_alloc_new _ _) HIS.out (by rw [bva_size, bva_size, S3.out, HZ3.out]) (bva_one _) ?_
      obtain ⟨w84, hw84⟩ : ∃ x, x = (w83.alloc (.cells (bva z) 38)).setRow w83.heap.size (bva s) := ⟨_, rfl⟩
      rw [← hw84]
      obtain ⟨g84, hg84⟩ : ∃ x, x = w83.heap.size := ⟨_, rfl⟩
      have bn : Below w83.heap.size w83 w84 := by rw [hw84]; exact below_new (Below.refl _ _) (Nat.le_refl _)
      have B1 := Lib.hid (show Blk w84 g84 (bva s) 38 from by rw [hw84, hg84]; exact blk_new _)
      rw [← hg84]
      clear hw84 hg84
      have RA' := Lib.hid (RA.out.below (bn.mono BEL.out.size))
      have BEL' := Lib.hid (BEL.out.trans (bn.mono BEL.out.size))
      clear RA BEL
      have RA := Lib.hid RA'.out
      have BEL := Lib.hid BEL'.out
      clear RA' BEL'
      clear bn
      go_wp2_with (first
        | (refine wpList_load_row rfl 38 (.tmp 15) rfl g84 rfl 38 (bva s) (0, 0) _ B1.out Try.underlying38 rfl HIS.out ?_)
        | (show wpList _ _ _ ({ dst := none, op := .store 38 (.tmp 17) (.tmp 43), type := _, pos := _, after := _, guard := _ } :: _) _ _; apply Classical.byContradiction; intro hneg))
      refine hneg ?_
      clear hneg
      refine wpList_store_row rfl 38 (.tmp 17) (.tmp 43) rfl w84.heap.size (bva s) rfl rfl 38 (bva z) (heap_alloc_new _ _) HIS.out (by rw [bva_size, bva_size, S3.out, HZ3.out]) (bva_one _) ?_
      obtain ⟨w85, hw85⟩ : ∃ x, x = (w84.alloc (.cells (bva z) 38)).setRow w84.heap.size (bva s) := ⟨_, rfl⟩
      rw [← hw85]
      obtain ⟨g85, hg85⟩ : ∃ x, x = w84.heap.size := ⟨_, rfl⟩
      have bn : Below w84.heap.size w84 w85 := by rw [hw85]; exact below_new (Below.refl _ _) (Nat.le_refl _)
      have B2 := Lib.hid (show Blk w85 g85 (bva s) 38 from by rw [hw85, hg85]; exact blk_new _)
      have GL := Lib.hid (show g84 < w84.heap.size from B1.out.lt)
      have BG := Lib.hid (show w.heap.size ≤ w84.heap.size from BEL.out.size)
      rw [← hg85] at GL BG
      rw [← hg85]
      clear hw85 hg85
      have RA' := Lib.hid (RA.out.below (bn.mono BEL.out.size))
      have BEL' := Lib.hid (BEL.out.trans (bn.mono BEL.out.size))
      have B1' := Lib.hid (Blk.below B1.out bn)
      clear RA BEL B1
      have RA := Lib.hid RA'.out
      have BEL := Lib.hid BEL'.out
      have B1 := Lib.hid B1'.out
      clear RA' BEL' B1'
      clear bn
      have c0 := B2.out.cellb (k := q) (by rw [S3.out]; exact HQ.out)
      rw [← HX.out] at c0
      have f0 := B2.out.free q
      have hg12 : g84 < g85 := GL.out
      go_wp2_with (show wpList _ _ _ ({ dst := some 53, op := .build 98 #[], type := _, pos := _, after := _, guard := _ } :: _) _ _; apply Classical.byContradiction; intro hneg)
      refine hneg ?_
      clear hneg
      obtain ⟨w86, hw86⟩ : ∃ w', w' = World.setCell w85 ⟨g85, q, none⟩ (.int .u8 (v.toNat : Int)) := ⟨_, rfl⟩
      rw [← hw86]
      have B1' := Lib.hid (show Blk w86 g84 (bva s) 38 from by rw [hw86]; exact B1.out.other (by omega) _ _)
      have B2' := Lib.hid (show Blk w86 g85 (bva t) 38 from by rw [hw86, HT.out]; exact B2.out.setb q _ rfl)
      have BEL' := Lib.hid (show Below w.heap.size w w86 from by rw [hw86]; exact BEL.out.setCell (by have := BG.out; simp only []; omega) _)
      have RA' := Lib.hid (show Rd w.heap.size w86 A (bv l) from by rw [hw86]; exact RA.out.below ((Below.refl _ _).setCell (by have := BG.out; simp only []; omega) _))
      clear c0 f0 hw86 B1 B2 BEL RA
      have B1 := Lib.hid B1'.out
      have B2 := Lib.hid B2'.out
      have BEL := Lib.hid BEL'.out
      have RA := Lib.hid RA'.out
      clear B1' B2' BEL' RA'
      go_wp2_with (refine wpList_load_row rfl 38 (.tmp 17) rfl g85 rfl 38 (bva t) (0, 0) _ B2.out Try.underlying38 rfl HIT.out ?_)
      refine (HCV.out _).mono ?_
      rintro e w87 ⟨A87, n87, c87, rfl, ho, bw⟩
      obtain ⟨N87, hN87⟩ : ∃ N, N = n87 := ⟨_, rfl⟩
      subst hN87
      have OL := Lib.hid (own_blen ho)
      have RA' := Lib.hid (RA.out.below (bw.mono BEL.out.size))
      have BEL' := Lib.hid (BEL.out.trans (bw.mono BEL.out.size))
      have B1' := Lib.hid (Blk.below B1.out bw)
      have B2' := Lib.hid (Blk.below B2.out bw)
      clear RA BEL B1 B2
      have RA := Lib.hid RA'.out
      have BEL := Lib.hid BEL'.out
      have B1 := Lib.hid B1'.out
      have B2 := Lib.hid B2'.out
      clear RA' BEL' B1' B2'
      have OA := Lib.hid (show w87.ownsRow 0 5 1 (.slice A87 N87 c87) N87 _ from own_more ho (Nat.zero_le _))
      clear ho bw
      go_wp2_with fail
      refine (HCR.out _ A87 N87 c87 OL.out (Rd.own OA.out)).mono ?_
      rintro e w88 ⟨rfl, bw⟩
      have RA' := Lib.hid (RA.out.below (bw.mono BEL.out.size))
      have BEL' := Lib.hid (BEL.out.trans (bw.mono BEL.out.size))
      have B1' := Lib.hid (Blk.below B1.out bw)
      have B2' := Lib.hid (Blk.below B2.out bw)
      have OA' := Lib.hid (own_below OA.out bw)
      clear RA BEL B1 B2 OA
      have RA := Lib.hid RA'.out
      have BEL := Lib.hid BEL'.out
      have B1 := Lib.hid B1'.out
      have B2 := Lib.hid B2'.out
      have OA := Lib.hid OA'.out
      clear RA' BEL' B1' B2' OA'
      clear bw
      go_wp2_with (first
        | (show wpList _ _ _ ({ dst := none, op := .store 38 (.tmp 21) (.tmp 84), type := _, pos := _, after := _, guard := _ } :: _) _ _; apply Classical.byContradiction; intro hneg))
      refine hneg ?_
      clear hneg
      refine wpList_store_row rfl 38 (.tmp 21) (.tmp 84) rfl w88.heap.size (bva p) rfl rfl 38 (bva z) (heap_alloc_new _ _) HIP.out (by rw [bva_size, bva_size, P3.out, HZ3.out]) (bva_one _) ?_
      obtain ⟨w89, hw89⟩ : ∃ x, x = (w88.alloc (.cells (bva z) 38)).setRow w88.heap.size (bva p) := ⟨_, rfl⟩
      rw [← hw89]
      obtain ⟨g89, hg89⟩ : ∃ x, x = w88.heap.size := ⟨_, rfl⟩
      have bn : Below w88.heap.size w88 w89 := by rw [hw89]; exact below_new (Below.refl _ _) (Nat.le_refl _)
      have B3 := Lib.hid (show Blk w89 g89 (bva p) 38 from by rw [hw89, hg89]; exact blk_new _)
      rw [← hg89]
      clear hw89 hg89
      have RA' := Lib.hid (RA.out.below (bn.mono BEL.out.size))
      have BEL' := Lib.hid (BEL.out.trans (bn.mono BEL.out.size))
      have B1' := Lib.hid (Blk.below B1.out bn)
      have B2' := Lib.hid (Blk.below B2.out bn)
      have OA' := Lib.hid (own_below OA.out bn)
      clear RA BEL B1 B2 OA
      have RA := Lib.hid RA'.out
      have BEL := Lib.hid BEL'.out
      have B1 := Lib.hid B1'.out
      have B2 := Lib.hid B2'.out
      have OA := Lib.hid OA'.out
      clear RA' BEL' B1' B2' OA'
      clear bn
      go_wp2_with fail
      go_ret
      exact ⟨rfl, BEL.out⟩
theorem sectorSpoilt_own : ownKnob Try.prog.godebug = none := by kernel_rfl
theorem sectorSpoilt_laid : laidOutB Try.prog = true := by kernel_rfl

set_option maxRecDepth 100000 in
theorem sectorSpoilt_lifted (os : Os) (started : os.Started) (H : Type) (enc : TypeId × Value → H) :
    ReturnsInHanded {} Try.checked os 11 .any (Rows.sectorSpoiltSpec.pre6 enc Try.prog Try.f11 Rows.sectorSpoiltRow.domain false) (Rows.sectorSpoiltSpec.post enc Try.prog Try.f11 false true false false) := by
  refine returnsInHanded_of_change (C := Try.checked) sectorSpoilt_own started (by kernel_rfl) Try.func11
    (ChangeSpec.witness6 (enc := enc) (C := Try.checked) false ⟨#[], #[.int .u16 0, .int .u16 0, .int .u64 0, .slice none 0 0, .int .u8 0, .int .u8 0], []⟩ 8 (by kernel_rfl) (by kernel_rfl) (by kernel_rfl) (by kernel_rfl)) ?_
  intro W base args ds gs before hval0 hW _ _
  have hval : ∀ (j : Nat) t v, Try.f11.params[j]? = some t → args[j]? = some v → Value.okWide Try.prog W .any base t v := hval0
  have hW' := hW
  obtain ⟨p, q, hA0, hV, rfl, hfz, hnd⟩ := hW
  have hA : DataW.TrodAll enc Try.prog W 0 (fun _ => true) true Try.f11.params.toList args.toList ds p := hA0
  rw [Try.params11] at hA hval
  obtain ⟨v0, vs0, d0, ds0, p0, q0, hargs, rfl, rfl, h0, r0⟩ := trodAll_cons hA
  obtain ⟨v1, vs1, d1, ds1, p1, q1, rfl, rfl, rfl, h1, r1⟩ := trodAll_cons r0
  obtain ⟨v2, vs2, d2, ds2, p2, q2, rfl, rfl, rfl, h2, r2⟩ := trodAll_cons r1
  obtain ⟨v3, vs3, d3, ds3, p3, q3, rfl, rfl, rfl, h3, r3⟩ := trodAll_cons r2
  obtain ⟨v4, vs4, d4, ds4, p4, q4, rfl, rfl, rfl, h4, r4⟩ := trodAll_cons r3
  obtain ⟨v5, vs5, d5, ds5, p5, q5, rfl, rfl, rfl, h5, r5⟩ := trodAll_cons r4
  obtain ⟨rfl, rfl, rfl⟩ := trodAll_nil r5
  obtain rfl : args = #[v0, v1, v2, v3, v4, v5] := by cases args; simp_all
  obtain ⟨rfl, rfl⟩ := trodVars_none hV
  obtain ⟨a0, rfl, rfl, rfl, w0⟩ := open_int Try.underlying105 (hval 0 105 v0 rfl rfl) h0
  have b0 := bounds_u16 w0
  obtain ⟨a1, rfl, rfl, rfl, w1⟩ := open_int Try.underlying105 (hval 1 105 v1 rfl rfl) h1
  have b1 := bounds_u16 w1
  obtain ⟨a2, rfl, rfl, rfl, w2⟩ := open_int Try.underlying91 (hval 2 91 v2 rfl rfl) h2
  have b2 := bounds_u64 w2
  obtain ⟨a3, n3, c3, rfl⟩ := okWide_slice Try.underlying71 (hval 3 71 v3 rfl rfl)
  have lt3 : ∀ x ∈ p3, x.block < W.heap.size := by obtain ⟨m, hm⟩ := h3; exact DataW.trod_lt m _ _ _ hm
  obtain ⟨l3, hl3, hc3, hm3, hr3⟩ := open_bytes Try.underlying71 Try.underlying5 (by kernel_rfl) h3
  obtain ⟨a4, rfl, rfl, rfl, w4⟩ := open_int Try.underlying5 (hval 4 5 v4 rfl rfl) h4
  have b4 := bounds_u8 w4
  obtain ⟨a5, rfl, rfl, rfl, w5⟩ := open_int Try.underlying5 (hval 5 5 v5 rfl rfl) h5
  have b5 := bounds_u8 w5
  clear hA0 hval0
  refine (sectorSpoilt_any W a0 b0 a1 b1 a2 b2 a3 n3 c3 l3 hl3 hc3 hm3 hr3 a4 b4 a5 b5).mono fun e W' ⟨he, bel⟩ => ?_
  subst he
  exact ⟨_, rfl, _, _, _, [], _, [], hW', trodAll_mk1 (shut_bool Try.underlying4 _), (trodAll_cons_mk (shut_int Try.underlying105 w0) (trodAll_cons_mk (shut_int Try.underlying105 w1) (trodAll_cons_mk (shut_int Try.underlying91 w2) (trodAll_cons_mk (Below.trod sectorSpoilt_laid (by kernel_rfl) (of_decide_eq_true (by kernel_rfl)) h3 bel lt3) (trodAll_cons_mk (shut_int Try.underlying5 w4) (trodAll_cons_mk (shut_int Try.underlying5 w5) trodAll_mk0)))))), rfl, bel.frame _, fun h => by cases h⟩

theorem sectorSpoilt_holds : Rows.SectorSpoiltSaid :=
  OpenClaim.holds_of_wide 11 Try.f11 rfl rfl rfl rfl rfl rfl rfl ⟨rfl, rfl, rfl, rfl, rfl⟩ rfl rfl rfl rfl rfl (by kernel_rfl) Try.func11 (by kernel_rfl)
    (of_decide_eq_true (by kernel_rfl)) (by unfold Func.isWrapper; rw [if_neg (of_decide_eq_false (by kernel_rfl))]; exact ⟨rfl, rfl⟩)
    (fun os started H enc _ => sectorSpoilt_lifted os started H enc)

#print axioms sectorSpoilt_holds

end Go.Proofs.Ytgfldfofiglefaa
