/-
  SectorApart holds: of every two places, numbers and bodies (any length) the law returns true, and its arguments read as they did.
-/
import Derived.Test.YtgfldfofiglefaaMa3
import Derived.Test.YtgfldfofiglefaaRows
import Derived.ProofKit
import Derived.OpenShut
import Derived.ShutString
import Derived.ChangeOld
namespace Go.Proofs.Ytgfldfofiglefaa
open Go.RowKit Kd Sx Go.ChangeShapes Go.WideShapes Go.ChangeAt
attribute [local go_sem ↓] Go.wp_at_zero Go.wp_at_succ
theorem open_two16 {H : Type} {enc : TypeId × Value → H} {P : Program} {w : World} {r : Reach} {b0 base : Nat} {spare : Nat → Bool} {held : Bool} {t e : Nat} {v : Value} {d : DataW H} {ps : List MemPlace} (ht : P.underlying t = some (.array 2 e)) (he : P.underlying e = some (.int .u16)) (hc : P.cellsOf e = 1) (hn : P.cellsOf t = 2)
    (hval : Value.okWide P w r b0 t v) (h : DataW.Trod enc P w base spare held t v d ps) : ∃ x y : Int, v = .agg #[.int .u16 x, .int .u16 y] ∧ (0 ≤ x ∧ x ≤ 65535) ∧ (0 ≤ y ∧ y ≤ 65535) := by
  obtain ⟨zs, hl, rfl, hw⟩ := open_arr ht he hc hn hval h
  match zs, hl with
  | [x, y], _ => exact ⟨x, y, rfl, bounds_u16 (hw x (by simp)), bounds_u16 (hw y (by simp))⟩
theorem open_two64 {H : Type} {enc : TypeId × Value → H} {P : Program} {w : World} {r : Reach} {b0 base : Nat} {spare : Nat → Bool} {held : Bool} {t e : Nat} {v : Value} {d : DataW H} {ps : List MemPlace} (ht : P.underlying t = some (.array 2 e)) (he : P.underlying e = some (.int .u64)) (hc : P.cellsOf e = 1) (hn : P.cellsOf t = 2)
    (hval : Value.okWide P w r b0 t v) (h : DataW.Trod enc P w base spare held t v d ps) : ∃ x y : Int, v = .agg #[.int .u64 x, .int .u64 y] ∧ (0 ≤ x ∧ x ≤ 18446744073709551615) ∧ (0 ≤ y ∧ y ≤ 18446744073709551615) := by
  obtain ⟨zs, hl, rfl, hw⟩ := open_arr ht he hc hn hval h
  match zs, hl with
  | [x, y], _ => exact ⟨x, y, rfl, bounds_u64 (hw x (by simp)), bounds_u64 (hw y (by simp))⟩
set_option maxRecDepth 100000 in
set_option maxHeartbeats 25600000 in
theorem sectorApart_any (w : World) (a b : Int) (ha : 0 ≤ a ∧ a ≤ 65535) (hb : 0 ≤ b ∧ b ≤ 65535) (gi gj : Int) (hgi : 0 ≤ gi ∧ gi ≤ 18446744073709551615) (hgj : 0 ≤ gj ∧ gj ≤ 18446744073709551615) (A : Option Addr) (n c : Nat) (l : List UInt8) (hl : l.length = n) (_ : n ≤ c) (_ : c ≤ maxLen) (hr : Rd w.heap.size w A (bv l)) (A' : Option Addr) (n' c' : Nat) (l' : List UInt8) (hl' : l'.length = n') (_ : n' ≤ c') (_ : c' ≤ maxLen) (hr' : Rd w.heap.size w A' (bv l')) :
    Calls Try.prog 13 #[.agg #[.int .u16 a, .int .u16 b], .agg #[.int .u64 gi, .int .u64 gj], .slice A n c, .slice A' n' c'] w (RetB (.bool true) w) := by
  obtain ⟨g, rfl⟩ := Int.eq_ofNat_of_zero_le hgi.1
  obtain ⟨h, rfl⟩ := Int.eq_ofNat_of_zero_le hgj.1
  have HG := Lib.hid (show U64 g from by unfold U64; omega)
  have HH := Lib.hid (show U64 h from by unfold U64; omega)
  have HL := Lib.hid hl
  have HL' := Lib.hid hl'
  clear hgi hgj hl hl'
  obtain ⟨z, hz0⟩ : ∃ z : List UInt8, z = zeroS := ⟨_, rfl⟩
  have hz : ∀ W, (zeroValue 38).run Try.prog W = .ok (.agg (bva z)) W := fun _ => by rw [hz0]; kernel_rfl
  have HZ0 := Lib.hid hz0
  have HZ3 := Lib.hid (show z.length = 128 by rw [hz0]; exact zeroS_length)
  have HIZ : Hid ((Try.prog.info? 38).map (·.size) = some (bva z).size) := by rw [bva_size, HZ3.out]; exact info_sec
  have HLIT := Lib.hid (show Try.zeroCells98 = zeroLit by kernel_rfl)
  clear hz0
  obtain ⟨w0, hw0⟩ : ∃ w0, w0 = (w.alloc (.cells #[.int .u16 a, .int .u16 b] 110)).alloc (.cells #[.int .u64 (g : Int), .int .u64 (h : Int)] 111) := ⟨_, rfl⟩
  have BA := Lib.hid (show Blk w0 w.heap.size #[.int .u16 a, .int .u16 b] 110 from by rw [hw0]; exact heap_alloc2_old _ _ _)
  have BB := Lib.hid (show Blk w0 (w.heap.size + 1) #[.int .u64 (g : Int), .int .u64 (h : Int)] 111 from by rw [hw0]; exact heap_alloc2_new _ _ _)
  have BEL := Lib.hid (show Below w.heap.size w w0 from by rw [hw0]; exact ((Below.refl _ _).alloc (Nat.le_refl _) _).alloc (by simp) _)
  have RA := Lib.hid (hr.below BEL.out)
  have RB := Lib.hid (hr'.below BEL.out)
  clear hr hr' 
  by_cases hbig : 103 < n
  · have hd : decide ((103 : Int) < (n : Int)) = true := by simp; omega
    clear hbig
    go_enter Try.func13, Try.ntmps13
    go_wp2_with fail
    rw [← hw0]
    refine (awake_any _).mono ?_
    rintro e w1 ⟨rfl, bw⟩
    go_wp2_with fail
    go_ret
    exact ⟨rfl, BEL.out.trans (bw.mono BEL.out.size)⟩
  have hd : decide ((103 : Int) < (n : Int)) = false := by simp; omega
  have HN := Lib.hid (show n ≤ 103 by omega)
  clear hbig
  by_cases hbig : 103 < n'
  · have hd' : decide ((103 : Int) < (n' : Int)) = true := by simp; omega
    clear hbig
    go_enter Try.func13, Try.ntmps13
    go_wp2_with fail
    rw [← hw0]
    refine (awake_any _).mono ?_
    rintro e w1 ⟨rfl, bw⟩
    go_wp2_with fail
    go_ret
    exact ⟨rfl, BEL.out.trans (bw.mono BEL.out.size)⟩
  have hd' : decide ((103 : Int) < (n' : Int)) = false := by simp; omega
  have HN' := Lib.hid (show n' ≤ 103 by omega)
  clear hbig
  obtain ⟨k, hk⟩ : ∃ k : Nat, (k : Int) = a % 4096 := ⟨(a % 4096).toNat, by omega⟩
  obtain ⟨m, hm⟩ : ∃ m : Nat, (m : Int) = b % 4096 := ⟨(b % 4096).toNat, by omega⟩
  have a0 := ha.1
  have a1 := ha.2
  have b0 := hb.1
  have b1 := hb.2
  have ek : a % 4096 = (k : Int) := hk.symm
  have em : b % 4096 = (m : Int) := hm.symm
  have hmay := Lib.hid (show mayS (k : Int) l = true from decide_eq_true ⟨by omega, by omega, by have := HL.out; have := HN.out; omega⟩)
  have hmay' := Lib.hid (show mayS (m : Int) l' = true from decide_eq_true ⟨by omega, by omega, by have := HL'.out; have := HN'.out; omega⟩)
  obtain ⟨s, hs⟩ : ∃ s, s = sealedS litSumL k g l := ⟨_, rfl⟩
  obtain ⟨t, ht⟩ : ∃ t, t = sealedS litSumL m h l' := ⟨_, rfl⟩
  have S3 := Lib.hid (show s.length = 128 by rw [hs]; exact sealedS_length litSumL_length (by have := HL.out; have := HN.out; omega))
  have T3 := Lib.hid (show t.length = 128 by rw [ht]; exact sealedS_length litSumL_length (by have := HL'.out; have := HN'.out; omega))
  have HS := Lib.hid hs
  have HT := Lib.hid ht
  have HIS : Hid ((Try.prog.info? 38).map (·.size) = some (bva s).size) := by rw [bva_size, S3.out]; exact info_sec
  have HIT : Hid ((Try.prog.info? 38).map (·.size) = some (bva t).size) := by rw [bva_size, T3.out]; exact info_sec
  have HCP := Lib.hid (show ∀ W, Rd W.heap.size W A (bv l) → Calls Try.prog 51 #[.iface 98 (.agg Try.zeroCells98), .int .i64 k, .int .u64 g, .slice A n c] W (RetB (.tuple #[.agg (bva s), .bool true]) W) from fun W hr => by
    have h := pack_any litS k g HG.out A n c l W HL.out hr
    rw [hmay.out, packS, hmay.out, if_pos rfl] at h
    rw [HLIT.out, hs]; exact h)
  have HCQ := Lib.hid (show ∀ W, Rd W.heap.size W A' (bv l') → Calls Try.prog 51 #[.iface 98 (.agg Try.zeroCells98), .int .i64 m, .int .u64 h, .slice A' n' c'] W (RetB (.tuple #[.agg (bva t), .bool true]) W) from fun W hr => by
    have h' := pack_any litS m h HH.out A' n' c' l' W HL'.out hr
    rw [hmay'.out, packS, hmay'.out, if_pos rfl] at h'
    rw [HLIT.out, ht]; exact h')
  have HEQ := Lib.hid (show ∀ W, (Op.equalIn 10000 38 (.agg (bva s)) (.agg (bva t))).run Try.prog W = .ok (decide (s = t)) W from fun W => eq_sec s t S3.out T3.out W)
  have HNE := Lib.hid (show ¬ (g = h ∧ l = l') → ¬ s = t from fun hn e => hn (sealed_inj litSumL_length (by have := HL.out; have := HN.out; omega) (by have := HL'.out; have := HN'.out; omega) HG.out HH.out (by rw [← hs, ← ht]; exact e)))
  clear hk hm hs ht ha hb
  by_cases hkm : k = m
  · subst hkm
    by_cases hgh : g = h
    · subst hgh
      by_cases hll : l = l'
      · subst hll
        have heq : ∀ W, (Op.equalIn 10000 38 (.agg (bva s)) (.agg (bva t))).run Try.prog W = .ok true W := fun W => by rw [HEQ.out, decide_eq_true (by rw [HS.out, HT.out])]
        clear HNE
        go_enter Try.func13, Try.ntmps13
        go_wp2_with fail
        rw [← hw0]
        clear hw0
        refine (awake_any _).mono ?_
        rintro e w11 ⟨rfl, bw⟩
        have BA' := Lib.hid (Blk.below BA.out bw)
        have BB' := Lib.hid (Blk.below BB.out bw)
        have BEL' := Lib.hid (BEL.out.trans (bw.mono BEL.out.size))
        have RA' := Lib.hid (RA.out.below (bw.mono BEL.out.size))
        have RB' := Lib.hid (RB.out.below (bw.mono BEL.out.size))
        clear BA BB BEL RA RB
        have BA := Lib.hid BA'.out
        have BB := Lib.hid BB'.out
        have BEL := Lib.hid BEL'.out
        have RA := Lib.hid RA'.out
        have RB := Lib.hid RB'.out
        clear BA' BB' BEL' RA' RB'
        clear bw
        have e10 := BA.out.cell 0
        have e11 := BA.out.cell 1
        have e12 := BB.out.cell 0
        have e13 := BB.out.cell 1
        replace e10 : w11.cell? ⟨w.heap.size, 0, none⟩ = some (.int .u16 a) := e10
        replace e11 : w11.cell? ⟨w.heap.size, 1, none⟩ = some (.int .u16 b) := e11
        replace e12 : w11.cell? ⟨w.heap.size + 1, 0, none⟩ = some (.int .u64 (g : Int)) := e12
        replace e13 : w11.cell? ⟨w.heap.size + 1, 1, none⟩ = some (.int .u64 (g : Int)) := e13
        go_wp2_with fail
        clear e10 e11 e12 e13
        refine (HCP.out _ (RA.out.more BEL.out.size)).mono ?_
        rintro e w12 ⟨rfl, bw⟩
        have BA' := Lib.hid (Blk.below BA.out bw)
        have BB' := Lib.hid (Blk.below BB.out bw)
        have BEL' := Lib.hid (BEL.out.trans (bw.mono BEL.out.size))
        have RA' := Lib.hid (RA.out.below (bw.mono BEL.out.size))
        have RB' := Lib.hid (RB.out.below (bw.mono BEL.out.size))
        clear BA BB BEL RA RB
        have BA := Lib.hid BA'.out
        have BB := Lib.hid BB'.out
        have BEL := Lib.hid BEL'.out
        have RA := Lib.hid RA'.out
        have RB := Lib.hid RB'.out
        clear BA' BB' BEL' RA' RB'
        clear bw
        go_wp2_with (first
          | (show wpList _ _ _ ({ dst := none, op := .store 38 (.tmp 9) (.tmp 35), type := _, pos := _, after := _, guard := _ } :: _) _ _; apply Classical.byContradiction; intro hneg))
        refine hneg ?_
        clear hneg
        refine wpList_store_row rfl 38 (.tmp 9) (.tmp 35) rfl w12.heap.size (bva s) rfl rfl 38 (bva z) (heap_alloc_new _ _) HIS.out (by rw [bva_size, bva_size, S3.out, HZ3.out]) (bva_one _) ?_
        obtain ⟨w13, hw13⟩ : ∃ x, x = (w12.alloc (.cells (bva z) 38)).setRow w12.heap.size (bva s) := ⟨_, rfl⟩
        rw [← hw13]
        obtain ⟨g13, hg13⟩ : ∃ x, x = w12.heap.size := ⟨_, rfl⟩
        have bn : Below w12.heap.size w12 w13 := by rw [hw13]; exact below_new (Below.refl _ _) (Nat.le_refl _)
        have B1 := Lib.hid (show Blk w13 g13 (bva s) 38 from by rw [hw13, hg13]; exact blk_new _)
        rw [← hg13]
        clear hw13 hg13
        have BA' := Lib.hid (Blk.below BA.out bn)
        have BB' := Lib.hid (Blk.below BB.out bn)
        have BEL' := Lib.hid (BEL.out.trans (bn.mono BEL.out.size))
        have RA' := Lib.hid (RA.out.below (bn.mono BEL.out.size))
        have RB' := Lib.hid (RB.out.below (bn.mono BEL.out.size))
        clear BA BB BEL RA RB
        have BA := Lib.hid BA'.out
        have BB := Lib.hid BB'.out
        have BEL := Lib.hid BEL'.out
        have RA := Lib.hid RA'.out
        have RB := Lib.hid RB'.out
        clear BA' BB' BEL' RA' RB'
        clear bn
        have e20 := BA.out.cell 0
        have e21 := BA.out.cell 1
        have e22 := BB.out.cell 0
        have e23 := BB.out.cell 1
        replace e20 : w13.cell? ⟨w.heap.size, 0, none⟩ = some (.int .u16 a) := e20
        replace e21 : w13.cell? ⟨w.heap.size, 1, none⟩ = some (.int .u16 b) := e21
        replace e22 : w13.cell? ⟨w.heap.size + 1, 0, none⟩ = some (.int .u64 (g : Int)) := e22
        replace e23 : w13.cell? ⟨w.heap.size + 1, 1, none⟩ = some (.int .u64 (g : Int)) := e23
        go_wp2_with fail
        clear e20 e21 e22 e23
        refine (HCQ.out _ (RB.out.more BEL.out.size)).mono ?_
        rintro e w14 ⟨rfl, bw⟩
        have BA' := Lib.hid (Blk.below BA.out bw)
        have BB' := Lib.hid (Blk.below BB.out bw)
        have BEL' := Lib.hid (BEL.out.trans (bw.mono BEL.out.size))
        have RA' := Lib.hid (RA.out.below (bw.mono BEL.out.size))
        have RB' := Lib.hid (RB.out.below (bw.mono BEL.out.size))
        have B1' := Lib.hid (Blk.below B1.out bw)
        clear BA BB BEL RA RB B1
        have BA := Lib.hid BA'.out
        have BB := Lib.hid BB'.out
        have BEL := Lib.hid BEL'.out
        have RA := Lib.hid RA'.out
        have RB := Lib.hid RB'.out
        have B1 := Lib.hid B1'.out
        clear BA' BB' BEL' RA' RB' B1'
        clear bw
        go_wp2_with (first
          | (show wpList _ _ _ ({ dst := none, op := .store 38 (.tmp 11) (.tmp 48), type := _, pos := _, after := _, guard := _ } :: _) _ _; apply Classical.byContradiction; intro hneg))
        refine hneg ?_
        clear hneg
        refine wpList_store_row rfl 38 (.tmp 11) (.tmp 48) rfl w14.heap.size (bva t) rfl rfl 38 (bva z) (heap_alloc_new _ _) HIT.out (by rw [bva_size, bva_size, T3.out, HZ3.out]) (bva_one _) ?_
        obtain ⟨w15, hw15⟩ : ∃ x, x = (w14.alloc (.cells (bva z) 38)).setRow w14.heap.size (bva t) := ⟨_, rfl⟩
        rw [← hw15]
        obtain ⟨g15, hg15⟩ : ∃ x, x = w14.heap.size := ⟨_, rfl⟩
        have bn : Below w14.heap.size w14 w15 := by rw [hw15]; exact below_new (Below.refl _ _) (Nat.le_refl _)
        have B2 := Lib.hid (show Blk w15 g15 (bva t) 38 from by rw [hw15, hg15]; exact blk_new _)
        rw [← hg15]
        clear hw15 hg15
        have BA' := Lib.hid (Blk.below BA.out bn)
        have BB' := Lib.hid (Blk.below BB.out bn)
        have BEL' := Lib.hid (BEL.out.trans (bn.mono BEL.out.size))
        have RA' := Lib.hid (RA.out.below (bn.mono BEL.out.size))
        have RB' := Lib.hid (RB.out.below (bn.mono BEL.out.size))
        have B1' := Lib.hid (Blk.below B1.out bn)
        clear BA BB BEL RA RB B1
        have BA := Lib.hid BA'.out
        have BB := Lib.hid BB'.out
        have BEL := Lib.hid BEL'.out
        have RA := Lib.hid RA'.out
        have RB := Lib.hid RB'.out
        have B1 := Lib.hid B1'.out
        clear BA' BB' BEL' RA' RB' B1'
        clear bn
        have e30 := BA.out.cell 0
        have e31 := BA.out.cell 1
        have e32 := BB.out.cell 0
        have e33 := BB.out.cell 1
        replace e30 : w15.cell? ⟨w.heap.size, 0, none⟩ = some (.int .u16 a) := e30
        replace e31 : w15.cell? ⟨w.heap.size, 1, none⟩ = some (.int .u16 b) := e31
        replace e32 : w15.cell? ⟨w.heap.size + 1, 0, none⟩ = some (.int .u64 (g : Int)) := e32
        replace e33 : w15.cell? ⟨w.heap.size + 1, 1, none⟩ = some (.int .u64 (g : Int)) := e33
        go_wp2_with fail
        refine (same_any A A' n n' c c' l l _ HL.out HL'.out RA.out RB.out).mono ?_
        rintro e w16 ⟨rfl, rfl⟩
        rw [decide_eq_true (rfl : l = l)]
        go_wp2_with (first
          | (refine wpList_load_row rfl 38 (.tmp 9) rfl g13 rfl 38 (bva s) (0, 0) _ B1.out Try.underlying38 rfl HIS.out ?_)
          | (refine wpList_load_row rfl 38 (.tmp 11) rfl g15 rfl 38 (bva t) (0, 0) _ B2.out Try.underlying38 rfl HIT.out ?_)
          | (refine wpList_execg8 (o := { dst := some 74, op := .load 38 (.tmp 9), type := _, pos := _, after := _, guard := _ }) (v := .agg (bva s)) (w' := w16) rfl ?hl74 ?_; case hl74 => exact exec_load 38 (.tmp 9) rfl rfl B1.out Try.underlying38 rfl HIS.out)
          | (refine wpList_execg8 (o := { dst := some 75, op := .load 38 (.tmp 11), type := _, pos := _, after := _, guard := _ }) (v := .agg (bva t)) (w' := w16) rfl ?hl75 ?_; case hl75 => exact exec_load 38 (.tmp 11) rfl rfl B2.out Try.underlying38 rfl HIT.out))
        go_ret
        exact ⟨rfl, BEL.out⟩
      ·
        have hst := HNE.out (fun x => hll x.2)
        have heq : ∀ W, (Op.equalIn 10000 38 (.agg (bva s)) (.agg (bva t))).run Try.prog W = .ok false W := fun W => by rw [HEQ.out, decide_eq_false hst]
        have HNL := Lib.hid hll
        clear hll hst HNE
        go_enter Try.func13, Try.ntmps13
        go_wp2_with fail
        rw [← hw0]
        clear hw0
        refine (awake_any _).mono ?_
        rintro e w27 ⟨rfl, bw⟩
        have BA' := Lib.hid (Blk.below BA.out bw)
        have BB' := Lib.hid (Blk.below BB.out bw)
        have BEL' := Lib.hid (BEL.out.trans (bw.mono BEL.out.size))
        have RA' := Lib.hid (RA.out.below (bw.mono BEL.out.size))
        have RB' := Lib.hid (RB.out.below (bw.mono BEL.out.size))
        clear BA BB BEL RA RB
        have BA := Lib.hid BA'.out
        have BB := Lib.hid BB'.out
        have BEL := Lib.hid BEL'.out
        have RA := Lib.hid RA'.out
        have RB := Lib.hid RB'.out
        clear BA' BB' BEL' RA' RB'
        clear bw
        have e10 := BA.out.cell 0
        have e11 := BA.out.cell 1
        have e12 := BB.out.cell 0
        have e13 := BB.out.cell 1
        replace e10 : w27.cell? ⟨w.heap.size, 0, none⟩ = some (.int .u16 a) := e10
        replace e11 : w27.cell? ⟨w.heap.size, 1, none⟩ = some (.int .u16 b) := e11
        replace e12 : w27.cell? ⟨w.heap.size + 1, 0, none⟩ = some (.int .u64 (g : Int)) := e12
        replace e13 : w27.cell? ⟨w.heap.size + 1, 1, none⟩ = some (.int .u64 (g : Int)) := e13
        go_wp2_with fail
        clear e10 e11 e12 e13
        refine (HCP.out _ (RA.out.more BEL.out.size)).mono ?_
        rintro e w28 ⟨rfl, bw⟩
        have BA' := Lib.hid (Blk.below BA.out bw)
        have BB' := Lib.hid (Blk.below BB.out bw)
        have BEL' := Lib.hid (BEL.out.trans (bw.mono BEL.out.size))
        have RA' := Lib.hid (RA.out.below (bw.mono BEL.out.size))
        have RB' := Lib.hid (RB.out.below (bw.mono BEL.out.size))
        clear BA BB BEL RA RB
        have BA := Lib.hid BA'.out
        have BB := Lib.hid BB'.out
        have BEL := Lib.hid BEL'.out
        have RA := Lib.hid RA'.out
        have RB := Lib.hid RB'.out
        clear BA' BB' BEL' RA' RB'
        clear bw
        go_wp2_with (first
          | (show wpList _ _ _ ({ dst := none, op := .store 38 (.tmp 9) (.tmp 35), type := _, pos := _, after := _, guard := _ } :: _) _ _; apply Classical.byContradiction; intro hneg))
        refine hneg ?_
        clear hneg
        refine wpList_store_row rfl 38 (.tmp 9) (.tmp 35) rfl w28.heap.size (bva s) rfl rfl 38 (bva z) (heap_alloc_new _ _) HIS.out (by rw [bva_size, bva_size, S3.out, HZ3.out]) (bva_one _) ?_
        obtain ⟨w29, hw29⟩ : ∃ x, x = (w28.alloc (.cells (bva z) 38)).setRow w28.heap.size (bva s) := ⟨_, rfl⟩
        rw [← hw29]
        obtain ⟨g29, hg29⟩ : ∃ x, x = w28.heap.size := ⟨_, rfl⟩
        have bn : Below w28.heap.size w28 w29 := by rw [hw29]; exact below_new (Below.refl _ _) (Nat.le_refl _)
        have B1 := Lib.hid (show Blk w29 g29 (bva s) 38 from by rw [hw29, hg29]; exact blk_new _)
        rw [← hg29]
        clear hw29 hg29
        have BA' := Lib.hid (Blk.below BA.out bn)
        have BB' := Lib.hid (Blk.below BB.out bn)
        have BEL' := Lib.hid (BEL.out.trans (bn.mono BEL.out.size))
        have RA' := Lib.hid (RA.out.below (bn.mono BEL.out.size))
        have RB' := Lib.hid (RB.out.below (bn.mono BEL.out.size))
        clear BA BB BEL RA RB
        have BA := Lib.hid BA'.out
        have BB := Lib.hid BB'.out
        have BEL := Lib.hid BEL'.out
        have RA := Lib.hid RA'.out
        have RB := Lib.hid RB'.out
        clear BA' BB' BEL' RA' RB'
        clear bn
        have e20 := BA.out.cell 0
        have e21 := BA.out.cell 1
        have e22 := BB.out.cell 0
        have e23 := BB.out.cell 1
        replace e20 : w29.cell? ⟨w.heap.size, 0, none⟩ = some (.int .u16 a) := e20
        replace e21 : w29.cell? ⟨w.heap.size, 1, none⟩ = some (.int .u16 b) := e21
        replace e22 : w29.cell? ⟨w.heap.size + 1, 0, none⟩ = some (.int .u64 (g : Int)) := e22
        replace e23 : w29.cell? ⟨w.heap.size + 1, 1, none⟩ = some (.int .u64 (g : Int)) := e23
        go_wp2_with fail
        clear e20 e21 e22 e23
        refine (HCQ.out _ (RB.out.more BEL.out.size)).mono ?_
        rintro e w30 ⟨rfl, bw⟩
        have BA' := Lib.hid (Blk.below BA.out bw)
        have BB' := Lib.hid (Blk.below BB.out bw)
        have BEL' := Lib.hid (BEL.out.trans (bw.mono BEL.out.size))
        have RA' := Lib.hid (RA.out.below (bw.mono BEL.out.size))
        have RB' := Lib.hid (RB.out.below (bw.mono BEL.out.size))
        have B1' := Lib.hid (Blk.below B1.out bw)
        clear BA BB BEL RA RB B1
        have BA := Lib.hid BA'.out
        have BB := Lib.hid BB'.out
        have BEL := Lib.hid BEL'.out
        have RA := Lib.hid RA'.out
        have RB := Lib.hid RB'.out
        have B1 := Lib.hid B1'.out
        clear BA' BB' BEL' RA' RB' B1'
        clear bw
        go_wp2_with (first
          | (show wpList _ _ _ ({ dst := none, op := .store 38 (.tmp 11) (.tmp 48), type := _, pos := _, after := _, guard := _ } :: _) _ _; apply Classical.byContradiction; intro hneg))
        refine hneg ?_
        clear hneg
        refine wpList_store_row rfl 38 (.tmp 11) (.tmp 48) rfl w30.heap.size (bva t) rfl rfl 38 (bva z) (heap_alloc_new _ _) HIT.out (by rw [bva_size, bva_size, T3.out, HZ3.out]) (bva_one _) ?_
        obtain ⟨w31, hw31⟩ : ∃ x, x = (w30.alloc (.cells (bva z) 38)).setRow w30.heap.size (bva t) := ⟨_, rfl⟩
        rw [← hw31]
        obtain ⟨g31, hg31⟩ : ∃ x, x = w30.heap.size := ⟨_, rfl⟩
        have bn : Below w30.heap.size w30 w31 := by rw [hw31]; exact below_new (Below.refl _ _) (Nat.le_refl _)
        have B2 := Lib.hid (show Blk w31 g31 (bva t) 38 from by rw [hw31, hg31]; exact blk_new _)
        rw [← hg31]
        clear hw31 hg31
        have BA' := Lib.hid (Blk.below BA.out bn)
        have BB' := Lib.hid (Blk.below BB.out bn)
        have BEL' := Lib.hid (BEL.out.trans (bn.mono BEL.out.size))
        have RA' := Lib.hid (RA.out.below (bn.mono BEL.out.size))
        have RB' := Lib.hid (RB.out.below (bn.mono BEL.out.size))
        have B1' := Lib.hid (Blk.below B1.out bn)
        clear BA BB BEL RA RB B1
        have BA := Lib.hid BA'.out
        have BB := Lib.hid BB'.out
        have BEL := Lib.hid BEL'.out
        have RA := Lib.hid RA'.out
        have RB := Lib.hid RB'.out
        have B1 := Lib.hid B1'.out
        clear BA' BB' BEL' RA' RB' B1'
        clear bn
        have e30 := BA.out.cell 0
        have e31 := BA.out.cell 1
        have e32 := BB.out.cell 0
        have e33 := BB.out.cell 1
        replace e30 : w31.cell? ⟨w.heap.size, 0, none⟩ = some (.int .u16 a) := e30
        replace e31 : w31.cell? ⟨w.heap.size, 1, none⟩ = some (.int .u16 b) := e31
        replace e32 : w31.cell? ⟨w.heap.size + 1, 0, none⟩ = some (.int .u64 (g : Int)) := e32
        replace e33 : w31.cell? ⟨w.heap.size + 1, 1, none⟩ = some (.int .u64 (g : Int)) := e33
        go_wp2_with fail
        refine (same_any A A' n n' c c' l l' _ HL.out HL'.out RA.out RB.out).mono ?_
        rintro e w32 ⟨rfl, rfl⟩
        rw [decide_eq_false HNL.out]
        go_wp2_with (first
          | (refine wpList_load_row rfl 38 (.tmp 9) rfl g29 rfl 38 (bva s) (0, 0) _ B1.out Try.underlying38 rfl HIS.out ?_)
          | (refine wpList_load_row rfl 38 (.tmp 11) rfl g31 rfl 38 (bva t) (0, 0) _ B2.out Try.underlying38 rfl HIT.out ?_)
          | (refine wpList_execg8 (o := { dst := some 74, op := .load 38 (.tmp 9), type := _, pos := _, after := _, guard := _ }) (v := .agg (bva s)) (w' := w32) rfl ?hl74 ?_; case hl74 => exact exec_load 38 (.tmp 9) rfl rfl B1.out Try.underlying38 rfl HIS.out)
          | (refine wpList_execg8 (o := { dst := some 75, op := .load 38 (.tmp 11), type := _, pos := _, after := _, guard := _ }) (v := .agg (bva t)) (w' := w32) rfl ?hl75 ?_; case hl75 => exact exec_load 38 (.tmp 11) rfl rfl B2.out Try.underlying38 rfl HIT.out))
        go_ret
        exact ⟨rfl, BEL.out⟩
    ·
      have hgg : ((g : Int) == (h : Int)) = false := by rw [beq_eq_false_iff_ne]; omega
      have hgg2 : ¬ ((g : Int) = (h : Int)) := by omega
      have hst := HNE.out (fun x => hgh x.1)
      have heq : ∀ W, (Op.equalIn 10000 38 (.agg (bva s)) (.agg (bva t))).run Try.prog W = .ok false W := fun W => by rw [HEQ.out, decide_eq_false hst]
      clear hgh hst HNE
      go_enter Try.func13, Try.ntmps13
      go_wp2_with fail
      rw [← hw0]
      clear hw0
      refine (awake_any _).mono ?_
      rintro e w43 ⟨rfl, bw⟩
      have BA' := Lib.hid (Blk.below BA.out bw)
      have BB' := Lib.hid (Blk.below BB.out bw)
      have BEL' := Lib.hid (BEL.out.trans (bw.mono BEL.out.size))
      have RA' := Lib.hid (RA.out.below (bw.mono BEL.out.size))
      have RB' := Lib.hid (RB.out.below (bw.mono BEL.out.size))
      clear BA BB BEL RA RB
      have BA := Lib.hid BA'.out
      have BB := Lib.hid BB'.out
      have BEL := Lib.hid BEL'.out
      have RA := Lib.hid RA'.out
      have RB := Lib.hid RB'.out
      clear BA' BB' BEL' RA' RB'
      clear bw
      have e10 := BA.out.cell 0
      have e11 := BA.out.cell 1
      have e12 := BB.out.cell 0
      have e13 := BB.out.cell 1
      replace e10 : w43.cell? ⟨w.heap.size, 0, none⟩ = some (.int .u16 a) := e10
      replace e11 : w43.cell? ⟨w.heap.size, 1, none⟩ = some (.int .u16 b) := e11
      replace e12 : w43.cell? ⟨w.heap.size + 1, 0, none⟩ = some (.int .u64 (g : Int)) := e12
      replace e13 : w43.cell? ⟨w.heap.size + 1, 1, none⟩ = some (.int .u64 (h : Int)) := e13
      go_wp2_with fail
      clear e10 e11 e12 e13
      refine (HCP.out _ (RA.out.more BEL.out.size)).mono ?_
      rintro e w44 ⟨rfl, bw⟩
      have BA' := Lib.hid (Blk.below BA.out bw)
      have BB' := Lib.hid (Blk.below BB.out bw)
      have BEL' := Lib.hid (BEL.out.trans (bw.mono BEL.out.size))
      have RA' := Lib.hid (RA.out.below (bw.mono BEL.out.size))
      have RB' := Lib.hid (RB.out.below (bw.mono BEL.out.size))
      clear BA BB BEL RA RB
      have BA := Lib.hid BA'.out
      have BB := Lib.hid BB'.out
      have BEL := Lib.hid BEL'.out
      have RA := Lib.hid RA'.out
      have RB := Lib.hid RB'.out
      clear BA' BB' BEL' RA' RB'
      clear bw
      go_wp2_with (first
        | (show wpList _ _ _ ({ dst := none, op := .store 38 (.tmp 9) (.tmp 35), type := _, pos := _, after := _, guard := _ } :: _) _ _; apply Classical.byContradiction; intro hneg))
      refine hneg ?_
      clear hneg
      refine wpList_store_row rfl 38 (.tmp 9) (.tmp 35) rfl w44.heap.size (bva s) rfl rfl 38 (bva z) (heap_alloc_new _ _) HIS.out (by rw [bva_size, bva_size, S3.out, HZ3.out]) (bva_one _) ?_
      obtain ⟨w45, hw45⟩ : ∃ x, x = (w44.alloc (.cells (bva z) 38)).setRow w44.heap.size (bva s) := ⟨_, rfl⟩
      rw [← hw45]
      obtain ⟨g45, hg45⟩ : ∃ x, x = w44.heap.size := ⟨_, rfl⟩
      have bn : Below w44.heap.size w44 w45 := by rw [hw45]; exact below_new (Below.refl _ _) (Nat.le_refl _)
      have B1 := Lib.hid (show Blk w45 g45 (bva s) 38 from by rw [hw45, hg45]; exact blk_new _)
      rw [← hg45]
      clear hw45 hg45
      have BA' := Lib.hid (Blk.below BA.out bn)
      have BB' := Lib.hid (Blk.below BB.out bn)
      have BEL' := Lib.hid (BEL.out.trans (bn.mono BEL.out.size))
      have RA' := Lib.hid (RA.out.below (bn.mono BEL.out.size))
      have RB' := Lib.hid (RB.out.below (bn.mono BEL.out.size))
      clear BA BB BEL RA RB
      have BA := Lib.hid BA'.out
      have BB := Lib.hid BB'.out
      have BEL := Lib.hid BEL'.out
      have RA := Lib.hid RA'.out
      have RB := Lib.hid RB'.out
      clear BA' BB' BEL' RA' RB'
      clear bn
      have e20 := BA.out.cell 0
      have e21 := BA.out.cell 1
      have e22 := BB.out.cell 0
      have e23 := BB.out.cell 1
      replace e20 : w45.cell? ⟨w.heap.size, 0, none⟩ = some (.int .u16 a) := e20
      replace e21 : w45.cell? ⟨w.heap.size, 1, none⟩ = some (.int .u16 b) := e21
      replace e22 : w45.cell? ⟨w.heap.size + 1, 0, none⟩ = some (.int .u64 (g : Int)) := e22
      replace e23 : w45.cell? ⟨w.heap.size + 1, 1, none⟩ = some (.int .u64 (h : Int)) := e23
      go_wp2_with fail
      clear e20 e21 e22 e23
      refine (HCQ.out _ (RB.out.more BEL.out.size)).mono ?_
      rintro e w46 ⟨rfl, bw⟩
      have BA' := Lib.hid (Blk.below BA.out bw)
      have BB' := Lib.hid (Blk.below BB.out bw)
      have BEL' := Lib.hid (BEL.out.trans (bw.mono BEL.out.size))
      have RA' := Lib.hid (RA.out.below (bw.mono BEL.out.size))
      have RB' := Lib.hid (RB.out.below (bw.mono BEL.out.size))
      have B1' := Lib.hid (Blk.below B1.out bw)
      clear BA BB BEL RA RB B1
      have BA := Lib.hid BA'.out
      have BB := Lib.hid BB'.out
      have BEL := Lib.hid BEL'.out
      have RA := Lib.hid RA'.out
      have RB := Lib.hid RB'.out
      have B1 := Lib.hid B1'.out
      clear BA' BB' BEL' RA' RB' B1'
      clear bw
      go_wp2_with (first
        | (show wpList _ _ _ ({ dst := none, op := .store 38 (.tmp 11) (.tmp 48), type := _, pos := _, after := _, guard := _ } :: _) _ _; apply Classical.byContradiction; intro hneg))
      refine hneg ?_
      clear hneg
      refine wpList_store_row rfl 38 (.tmp 11) (.tmp 48) rfl w46.heap.size (bva t) rfl rfl 38 (bva z) (heap_alloc_new _ _) HIT.out (by rw [bva_size, bva_size, T3.out, HZ3.out]) (bva_one _) ?_
      obtain ⟨w47, hw47⟩ : ∃ x, x = (w46.alloc (.cells (bva z) 38)).setRow w46.heap.size (bva t) := ⟨_, rfl⟩
      rw [← hw47]
      obtain ⟨g47, hg47⟩ : ∃ x, x = w46.heap.size := ⟨_, rfl⟩
      have bn : Below w46.heap.size w46 w47 := by rw [hw47]; exact below_new (Below.refl _ _) (Nat.le_refl _)
      have B2 := Lib.hid (show Blk w47 g47 (bva t) 38 from by rw [hw47, hg47]; exact blk_new _)
      rw [← hg47]
      clear hw47 hg47
      have BA' := Lib.hid (Blk.below BA.out bn)
      have BB' := Lib.hid (Blk.below BB.out bn)
      have BEL' := Lib.hid (BEL.out.trans (bn.mono BEL.out.size))
      have RA' := Lib.hid (RA.out.below (bn.mono BEL.out.size))
      have RB' := Lib.hid (RB.out.below (bn.mono BEL.out.size))
      have B1' := Lib.hid (Blk.below B1.out bn)
      clear BA BB BEL RA RB B1
      have BA := Lib.hid BA'.out
      have BB := Lib.hid BB'.out
      have BEL := Lib.hid BEL'.out
      have RA := Lib.hid RA'.out
      have RB := Lib.hid RB'.out
      have B1 := Lib.hid B1'.out
      clear BA' BB' BEL' RA' RB' B1'
      clear bn
      have e30 := BA.out.cell 0
      have e31 := BA.out.cell 1
      have e32 := BB.out.cell 0
      have e33 := BB.out.cell 1
      replace e30 : w47.cell? ⟨w.heap.size, 0, none⟩ = some (.int .u16 a) := e30
      replace e31 : w47.cell? ⟨w.heap.size, 1, none⟩ = some (.int .u16 b) := e31
      replace e32 : w47.cell? ⟨w.heap.size + 1, 0, none⟩ = some (.int .u64 (g : Int)) := e32
      replace e33 : w47.cell? ⟨w.heap.size + 1, 1, none⟩ = some (.int .u64 (h : Int)) := e33
      go_wp2_with (first
        | (refine wpList_load_row rfl 38 (.tmp 9) rfl g45 rfl 38 (bva s) (0, 0) _ B1.out Try.underlying38 rfl HIS.out ?_)
        | (refine wpList_load_row rfl 38 (.tmp 11) rfl g47 rfl 38 (bva t) (0, 0) _ B2.out Try.underlying38 rfl HIT.out ?_)
        | (refine wpList_execg8 (o := { dst := some 74, op := .load 38 (.tmp 9), type := _, pos := _, after := _, guard := _ }) (v := .agg (bva s)) (w' := w47) rfl ?hl74 ?_; case hl74 => exact exec_load 38 (.tmp 9) rfl rfl B1.out Try.underlying38 rfl HIS.out)
        | (refine wpList_execg8 (o := { dst := some 75, op := .load 38 (.tmp 11), type := _, pos := _, after := _, guard := _ }) (v := .agg (bva t)) (w' := w47) rfl ?hl75 ?_; case hl75 => exact exec_load 38 (.tmp 11) rfl rfl B2.out Try.underlying38 rfl HIT.out))
      go_ret
      exact ⟨rfl, BEL.out⟩
  · by_cases hgh : g = h
    · subst hgh
      by_cases hll : l = l'
      · subst hll
        clear HNE
        have hkk : ((k : Int) == (m : Int)) = false := by rw [beq_eq_false_iff_ne]; omega
        have hkk2 : ¬ ((k : Int) = (m : Int)) := by omega
        clear hkm
        go_enter Try.func13, Try.ntmps13
        go_wp2_with fail
        rw [← hw0]
        clear hw0
        refine (awake_any _).mono ?_
        rintro e w58 ⟨rfl, bw⟩
        have BA' := Lib.hid (Blk.below BA.out bw)
        have BB' := Lib.hid (Blk.below BB.out bw)
        have BEL' := Lib.hid (BEL.out.trans (bw.mono BEL.out.size))
        have RA' := Lib.hid (RA.out.below (bw.mono BEL.out.size))
        have RB' := Lib.hid (RB.out.below (bw.mono BEL.out.size))
        clear BA BB BEL RA RB
        have BA := Lib.hid BA'.out
        have BB := Lib.hid BB'.out
        have BEL := Lib.hid BEL'.out
        have RA := Lib.hid RA'.out
        have RB := Lib.hid RB'.out
        clear BA' BB' BEL' RA' RB'
        clear bw
        have e10 := BA.out.cell 0
        have e11 := BA.out.cell 1
        have e12 := BB.out.cell 0
        have e13 := BB.out.cell 1
        replace e10 : w58.cell? ⟨w.heap.size, 0, none⟩ = some (.int .u16 a) := e10
        replace e11 : w58.cell? ⟨w.heap.size, 1, none⟩ = some (.int .u16 b) := e11
        replace e12 : w58.cell? ⟨w.heap.size + 1, 0, none⟩ = some (.int .u64 (g : Int)) := e12
        replace e13 : w58.cell? ⟨w.heap.size + 1, 1, none⟩ = some (.int .u64 (g : Int)) := e13
        go_wp2_with fail
        clear e10 e11 e12 e13
        refine (HCP.out _ (RA.out.more BEL.out.size)).mono ?_
        rintro e w59 ⟨rfl, bw⟩
        have BA' := Lib.hid (Blk.below BA.out bw)
        have BB' := Lib.hid (Blk.below BB.out bw)
        have BEL' := Lib.hid (BEL.out.trans (bw.mono BEL.out.size))
        have RA' := Lib.hid (RA.out.below (bw.mono BEL.out.size))
        have RB' := Lib.hid (RB.out.below (bw.mono BEL.out.size))
        clear BA BB BEL RA RB
        have BA := Lib.hid BA'.out
        have BB := Lib.hid BB'.out
        have BEL := Lib.hid BEL'.out
        have RA := Lib.hid RA'.out
        have RB := Lib.hid RB'.out
        clear BA' BB' BEL' RA' RB'
        clear bw
        go_wp2_with (first
          | (show wpList _ _ _ ({ dst := none, op := .store 38 (.tmp 9) (.tmp 35), type := _, pos := _, after := _, guard := _ } :: _) _ _; apply Classical.byContradiction; intro hneg))
        refine hneg ?_
        clear hneg
        refine wpList_store_row rfl 38 (.tmp 9) (.tmp 35) rfl w59.heap.size (bva s) rfl rfl 38 (bva z) (heap_alloc_new _ _) HIS.out (by rw [bva_size, bva_size, S3.out, HZ3.out]) (bva_one _) ?_
        obtain ⟨w60, hw60⟩ : ∃ x, x = (w59.alloc (.cells (bva z) 38)).setRow w59.heap.size (bva s) := ⟨_, rfl⟩
        rw [← hw60]
        obtain ⟨g60, hg60⟩ : ∃ x, x = w59.heap.size := ⟨_, rfl⟩
        have bn : Below w59.heap.size w59 w60 := by rw [hw60]; exact below_new (Below.refl _ _) (Nat.le_refl _)
        have B1 := Lib.hid (show Blk w60 g60 (bva s) 38 from by rw [hw60, hg60]; exact blk_new _)
        rw [← hg60]
        clear hw60 hg60
        have BA' := Lib.hid (Blk.below BA.out bn)
        have BB' := Lib.hid (Blk.below BB.out bn)
        have BEL' := Lib.hid (BEL.out.trans (bn.mono BEL.out.size))
        have RA' := Lib.hid (RA.out.below (bn.mono BEL.out.size))
        have RB' := Lib.hid (RB.out.below (bn.mono BEL.out.size))
        clear BA BB BEL RA RB
        have BA := Lib.hid BA'.out
        have BB := Lib.hid BB'.out
        have BEL := Lib.hid BEL'.out
        have RA := Lib.hid RA'.out
        have RB := Lib.hid RB'.out
        clear BA' BB' BEL' RA' RB'
        clear bn
        have e20 := BA.out.cell 0
        have e21 := BA.out.cell 1
        have e22 := BB.out.cell 0
        have e23 := BB.out.cell 1
        replace e20 : w60.cell? ⟨w.heap.size, 0, none⟩ = some (.int .u16 a) := e20
        replace e21 : w60.cell? ⟨w.heap.size, 1, none⟩ = some (.int .u16 b) := e21
        replace e22 : w60.cell? ⟨w.heap.size + 1, 0, none⟩ = some (.int .u64 (g : Int)) := e22
        replace e23 : w60.cell? ⟨w.heap.size + 1, 1, none⟩ = some (.int .u64 (g : Int)) := e23
        go_wp2_with fail
        clear e20 e21 e22 e23
        refine (HCQ.out _ (RB.out.more BEL.out.size)).mono ?_
        rintro e w61 ⟨rfl, bw⟩
        have BA' := Lib.hid (Blk.below BA.out bw)
        have BB' := Lib.hid (Blk.below BB.out bw)
        have BEL' := Lib.hid (BEL.out.trans (bw.mono BEL.out.size))
        have RA' := Lib.hid (RA.out.below (bw.mono BEL.out.size))
        have RB' := Lib.hid (RB.out.below (bw.mono BEL.out.size))
        have B1' := Lib.hid (Blk.below B1.out bw)
        clear BA BB BEL RA RB B1
        have BA := Lib.hid BA'.out
        have BB := Lib.hid BB'.out
        have BEL := Lib.hid BEL'.out
        have RA := Lib.hid RA'.out
        have RB := Lib.hid RB'.out
        have B1 := Lib.hid B1'.out
        clear BA' BB' BEL' RA' RB' B1'
        clear bw
        go_wp2_with (first
          | (show wpList _ _ _ ({ dst := none, op := .store 38 (.tmp 11) (.tmp 48), type := _, pos := _, after := _, guard := _ } :: _) _ _; apply Classical.byContradiction; intro hneg))
        refine hneg ?_
        clear hneg
        refine wpList_store_row rfl 38 (.tmp 11) (.tmp 48) rfl w61.heap.size (bva t) rfl rfl 38 (bva z) (heap_alloc_new _ _) HIT.out (by rw [bva_size, bva_size, T3.out, HZ3.out]) (bva_one _) ?_
        obtain ⟨w62, hw62⟩ : ∃ x, x = (w61.alloc (.cells (bva z) 38)).setRow w61.heap.size (bva t) := ⟨_, rfl⟩
        rw [← hw62]
        obtain ⟨g62, hg62⟩ : ∃ x, x = w61.heap.size := ⟨_, rfl⟩
        have bn : Below w61.heap.size w61 w62 := by rw [hw62]; exact below_new (Below.refl _ _) (Nat.le_refl _)
        have B2 := Lib.hid (show Blk w62 g62 (bva t) 38 from by rw [hw62, hg62]; exact blk_new _)
        rw [← hg62]
        clear hw62 hg62
        have BA' := Lib.hid (Blk.below BA.out bn)
        have BB' := Lib.hid (Blk.below BB.out bn)
        have BEL' := Lib.hid (BEL.out.trans (bn.mono BEL.out.size))
        have RA' := Lib.hid (RA.out.below (bn.mono BEL.out.size))
        have RB' := Lib.hid (RB.out.below (bn.mono BEL.out.size))
        have B1' := Lib.hid (Blk.below B1.out bn)
        clear BA BB BEL RA RB B1
        have BA := Lib.hid BA'.out
        have BB := Lib.hid BB'.out
        have BEL := Lib.hid BEL'.out
        have RA := Lib.hid RA'.out
        have RB := Lib.hid RB'.out
        have B1 := Lib.hid B1'.out
        clear BA' BB' BEL' RA' RB' B1'
        clear bn
        have e30 := BA.out.cell 0
        have e31 := BA.out.cell 1
        have e32 := BB.out.cell 0
        have e33 := BB.out.cell 1
        replace e30 : w62.cell? ⟨w.heap.size, 0, none⟩ = some (.int .u16 a) := e30
        replace e31 : w62.cell? ⟨w.heap.size, 1, none⟩ = some (.int .u16 b) := e31
        replace e32 : w62.cell? ⟨w.heap.size + 1, 0, none⟩ = some (.int .u64 (g : Int)) := e32
        replace e33 : w62.cell? ⟨w.heap.size + 1, 1, none⟩ = some (.int .u64 (g : Int)) := e33
        go_wp2_with fail
        refine (same_any A A' n n' c c' l l _ HL.out HL'.out RA.out RB.out).mono ?_
        rintro e w63 ⟨rfl, rfl⟩
        rw [decide_eq_true (rfl : l = l)]
        go_wp2_with (first
          | (refine wpList_load_row rfl 38 (.tmp 9) rfl g60 rfl 38 (bva s) (0, 0) _ B1.out Try.underlying38 rfl HIS.out ?_)
          | (refine wpList_load_row rfl 38 (.tmp 11) rfl g62 rfl 38 (bva t) (0, 0) _ B2.out Try.underlying38 rfl HIT.out ?_)
          | (refine wpList_execg8 (o := { dst := some 74, op := .load 38 (.tmp 9), type := _, pos := _, after := _, guard := _ }) (v := .agg (bva s)) (w' := w63) rfl ?hl74 ?_; case hl74 => exact exec_load 38 (.tmp 9) rfl rfl B1.out Try.underlying38 rfl HIS.out)
          | (refine wpList_execg8 (o := { dst := some 75, op := .load 38 (.tmp 11), type := _, pos := _, after := _, guard := _ }) (v := .agg (bva t)) (w' := w63) rfl ?hl75 ?_; case hl75 => exact exec_load 38 (.tmp 11) rfl rfl B2.out Try.underlying38 rfl HIT.out))
        go_ret
        exact ⟨rfl, BEL.out⟩
      ·
        have hst := HNE.out (fun x => hll x.2)
        have heq : ∀ W, (Op.equalIn 10000 38 (.agg (bva s)) (.agg (bva t))).run Try.prog W = .ok false W := fun W => by rw [HEQ.out, decide_eq_false hst]
        have HNL := Lib.hid hll
        clear hll hst HNE
        have hkk : ((k : Int) == (m : Int)) = false := by rw [beq_eq_false_iff_ne]; omega
        have hkk2 : ¬ ((k : Int) = (m : Int)) := by omega
        clear hkm
        go_enter Try.func13, Try.ntmps13
        go_wp2_with fail
        rw [← hw0]
        clear hw0
        refine (awake_any _).mono ?_
        rintro e w74 ⟨rfl, bw⟩
        have BA' := Lib.hid (Blk.below BA.out bw)
        have BB' := Lib.hid (Blk.below BB.out bw)
        have BEL' := Lib.hid (BEL.out.trans (bw.mono BEL.out.size))
        have RA' := Lib.hid (RA.out.below (bw.mono BEL.out.size))
        have RB' := Lib.hid (RB.out.below (bw.mono BEL.out.size))
        clear BA BB BEL RA RB
        have BA := Lib.hid BA'.out
        have BB := Lib.hid BB'.out
        have BEL := Lib.hid BEL'.out
        have RA := Lib.hid RA'.out
        have RB := Lib.hid RB'.out
        clear BA' BB' BEL' RA' RB'
        clear bw
        have e10 := BA.out.cell 0
        have e11 := BA.out.cell 1
        have e12 := BB.out.cell 0
        have e13 := BB.out.cell 1
        replace e10 : w74.cell? ⟨w.heap.size, 0, none⟩ = some (.int .u16 a) := e10
        replace e11 : w74.cell? ⟨w.heap.size, 1, none⟩ = some (.int .u16 b) := e11
        replace e12 : w74.cell? ⟨w.heap.size + 1, 0, none⟩ = some (.int .u64 (g : Int)) := e12
        replace e13 : w74.cell? ⟨w.heap.size + 1, 1, none⟩ = some (.int .u64 (g : Int)) := e13
        go_wp2_with fail
        clear e10 e11 e12 e13
        refine (HCP.out _ (RA.out.more BEL.out.size)).mono ?_
        rintro e w75 ⟨rfl, bw⟩
        have BA' := Lib.hid (Blk.below BA.out bw)
        have BB' := Lib.hid (Blk.below BB.out bw)
        have BEL' := Lib.hid (BEL.out.trans (bw.mono BEL.out.size))
        have RA' := Lib.hid (RA.out.below (bw.mono BEL.out.size))
        have RB' := Lib.hid (RB.out.below (bw.mono BEL.out.size))
        clear BA BB BEL RA RB
        have BA := Lib.hid BA'.out
        have BB := Lib.hid BB'.out
        have BEL := Lib.hid BEL'.out
        have RA := Lib.hid RA'.out
        have RB := Lib.hid RB'.out
        clear BA' BB' BEL' RA' RB'
        clear bw
        go_wp2_with (first
          | (show wpList _ _ _ ({ dst := none, op := .store 38 (.tmp 9) (.tmp 35), type := _, pos := _, after := _, guard := _ } :: _) _ _; apply Classical.byContradiction; intro hneg))
        refine hneg ?_
        clear hneg
        refine wpList_store_row rfl 38 (.tmp 9) (.tmp 35) rfl w75.heap.size (bva s) rfl rfl 38 (bva z) (heap_alloc_new _ _) HIS.out (by rw [bva_size, bva_size, S3.out, HZ3.out]) (bva_one _) ?_
        obtain ⟨w76, hw76⟩ : ∃ x, x = (w75.alloc (.cells (bva z) 38)).setRow w75.heap.size (bva s) := ⟨_, rfl⟩
        rw [← hw76]
        obtain ⟨g76, hg76⟩ : ∃ x, x = w75.heap.size := ⟨_, rfl⟩
        have bn : Below w75.heap.size w75 w76 := by rw [hw76]; exact below_new (Below.refl _ _) (Nat.le_refl _)
        have B1 := Lib.hid (show Blk w76 g76 (bva s) 38 from by rw [hw76, hg76]; exact blk_new _)
        rw [← hg76]
        clear hw76 hg76
        have BA' := Lib.hid (Blk.below BA.out bn)
        have BB' := Lib.hid (Blk.below BB.out bn)
        have BEL' := Lib.hid (BEL.out.trans (bn.mono BEL.out.size))
        have RA' := Lib.hid (RA.out.below (bn.mono BEL.out.size))
        have RB' := Lib.hid (RB.out.below (bn.mono BEL.out.size))
        clear BA BB BEL RA RB
        have BA := Lib.hid BA'.out
        have BB := Lib.hid BB'.out
        have BEL := Lib.hid BEL'.out
        have RA := Lib.hid RA'.out
        have RB := Lib.hid RB'.out
        clear BA' BB' BEL' RA' RB'
        clear bn
        have e20 := BA.out.cell 0
        have e21 := BA.out.cell 1
        have e22 := BB.out.cell 0
        have e23 := BB.out.cell 1
        replace e20 : w76.cell? ⟨w.heap.size, 0, none⟩ = some (.int .u16 a) := e20
        replace e21 : w76.cell? ⟨w.heap.size, 1, none⟩ = some (.int .u16 b) := e21
        replace e22 : w76.cell? ⟨w.heap.size + 1, 0, none⟩ = some (.int .u64 (g : Int)) := e22
        replace e23 : w76.cell? ⟨w.heap.size + 1, 1, none⟩ = some (.int .u64 (g : Int)) := e23
        go_wp2_with fail
        clear e20 e21 e22 e23
        refine (HCQ.out _ (RB.out.more BEL.out.size)).mono ?_
        rintro e w77 ⟨rfl, bw⟩
        have BA' := Lib.hid (Blk.below BA.out bw)
        have BB' := Lib.hid (Blk.below BB.out bw)
        have BEL' := Lib.hid (BEL.out.trans (bw.mono BEL.out.size))
        have RA' := Lib.hid (RA.out.below (bw.mono BEL.out.size))
        have RB' := Lib.hid (RB.out.below (bw.mono BEL.out.size))
        have B1' := Lib.hid (Blk.below B1.out bw)
        clear BA BB BEL RA RB B1
        have BA := Lib.hid BA'.out
        have BB := Lib.hid BB'.out
        have BEL := Lib.hid BEL'.out
        have RA := Lib.hid RA'.out
        have RB := Lib.hid RB'.out
        have B1 := Lib.hid B1'.out
        clear BA' BB' BEL' RA' RB' B1'
        clear bw
        go_wp2_with (first
          | (show wpList _ _ _ ({ dst := none, op := .store 38 (.tmp 11) (.tmp 48), type := _, pos := _, after := _, guard := _ } :: _) _ _; apply Classical.byContradiction; intro hneg))
        refine hneg ?_
        clear hneg
        refine wpList_store_row rfl 38 (.tmp 11) (.tmp 48) rfl w77.heap.size (bva t) rfl rfl 38 (bva z) (heap_alloc_new _ _) HIT.out (by rw [bva_size, bva_size, T3.out, HZ3.out]) (bva_one _) ?_
        obtain ⟨w78, hw78⟩ : ∃ x, x = (w77.alloc (.cells (bva z) 38)).setRow w77.heap.size (bva t) := ⟨_, rfl⟩
        rw [← hw78]
        obtain ⟨g78, hg78⟩ : ∃ x, x = w77.heap.size := ⟨_, rfl⟩
        have bn : Below w77.heap.size w77 w78 := by rw [hw78]; exact below_new (Below.refl _ _) (Nat.le_refl _)
        have B2 := Lib.hid (show Blk w78 g78 (bva t) 38 from by rw [hw78, hg78]; exact blk_new _)
        rw [← hg78]
        clear hw78 hg78
        have BA' := Lib.hid (Blk.below BA.out bn)
        have BB' := Lib.hid (Blk.below BB.out bn)
        have BEL' := Lib.hid (BEL.out.trans (bn.mono BEL.out.size))
        have RA' := Lib.hid (RA.out.below (bn.mono BEL.out.size))
        have RB' := Lib.hid (RB.out.below (bn.mono BEL.out.size))
        have B1' := Lib.hid (Blk.below B1.out bn)
        clear BA BB BEL RA RB B1
        have BA := Lib.hid BA'.out
        have BB := Lib.hid BB'.out
        have BEL := Lib.hid BEL'.out
        have RA := Lib.hid RA'.out
        have RB := Lib.hid RB'.out
        have B1 := Lib.hid B1'.out
        clear BA' BB' BEL' RA' RB' B1'
        clear bn
        have e30 := BA.out.cell 0
        have e31 := BA.out.cell 1
        have e32 := BB.out.cell 0
        have e33 := BB.out.cell 1
        replace e30 : w78.cell? ⟨w.heap.size, 0, none⟩ = some (.int .u16 a) := e30
        replace e31 : w78.cell? ⟨w.heap.size, 1, none⟩ = some (.int .u16 b) := e31
        replace e32 : w78.cell? ⟨w.heap.size + 1, 0, none⟩ = some (.int .u64 (g : Int)) := e32
        replace e33 : w78.cell? ⟨w.heap.size + 1, 1, none⟩ = some (.int .u64 (g : Int)) := e33
        go_wp2_with fail
        refine (same_any A A' n n' c c' l l' _ HL.out HL'.out RA.out RB.out).mono ?_
        rintro e w79 ⟨rfl, rfl⟩
        rw [decide_eq_false HNL.out]
        go_wp2_with (first
          | (refine wpList_load_row rfl 38 (.tmp 9) rfl g76 rfl 38 (bva s) (0, 0) _ B1.out Try.underlying38 rfl HIS.out ?_)
          | (refine wpList_load_row rfl 38 (.tmp 11) rfl g78 rfl 38 (bva t) (0, 0) _ B2.out Try.underlying38 rfl HIT.out ?_)
          | (refine wpList_execg8 (o := { dst := some 74, op := .load 38 (.tmp 9), type := _, pos := _, after := _, guard := _ }) (v := .agg (bva s)) (w' := w79) rfl ?hl74 ?_; case hl74 => exact exec_load 38 (.tmp 9) rfl rfl B1.out Try.underlying38 rfl HIS.out)
          | (refine wpList_execg8 (o := { dst := some 75, op := .load 38 (.tmp 11), type := _, pos := _, after := _, guard := _ }) (v := .agg (bva t)) (w' := w79) rfl ?hl75 ?_; case hl75 => exact exec_load 38 (.tmp 11) rfl rfl B2.out Try.underlying38 rfl HIT.out))
        go_ret
        exact ⟨rfl, BEL.out⟩
    ·
      have hgg : ((g : Int) == (h : Int)) = false := by rw [beq_eq_false_iff_ne]; omega
      have hgg2 : ¬ ((g : Int) = (h : Int)) := by omega
      have hst := HNE.out (fun x => hgh x.1)
      have heq : ∀ W, (Op.equalIn 10000 38 (.agg (bva s)) (.agg (bva t))).run Try.prog W = .ok false W := fun W => by rw [HEQ.out, decide_eq_false hst]
      clear hgh hst HNE
      have hkk : ((k : Int) == (m : Int)) = false := by rw [beq_eq_false_iff_ne]; omega
      have hkk2 : ¬ ((k : Int) = (m : Int)) := by omega
      clear hkm
      go_enter Try.func13, Try.ntmps13
      go_wp2_with fail
      rw [← hw0]
      clear hw0
      refine (awake_any _).mono ?_
      rintro e w90 ⟨rfl, bw⟩
      have BA' := Lib.hid (Blk.below BA.out bw)
      have BB' := Lib.hid (Blk.below BB.out bw)
      have BEL' := Lib.hid (BEL.out.trans (bw.mono BEL.out.size))
      have RA' := Lib.hid (RA.out.below (bw.mono BEL.out.size))
      have RB' := Lib.hid (RB.out.below (bw.mono BEL.out.size))
      clear BA BB BEL RA RB
      have BA := Lib.hid BA'.out
      have BB := Lib.hid BB'.out
      have BEL := Lib.hid BEL'.out
      have RA := Lib.hid RA'.out
      have RB := Lib.hid RB'.out
      clear BA' BB' BEL' RA' RB'
      clear bw
      have e10 := BA.out.cell 0
      have e11 := BA.out.cell 1
      have e12 := BB.out.cell 0
      have e13 := BB.out.cell 1
      replace e10 : w90.cell? ⟨w.heap.size, 0, none⟩ = some (.int .u16 a) := e10
      replace e11 : w90.cell? ⟨w.heap.size, 1, none⟩ = some (.int .u16 b) := e11
      replace e12 : w90.cell? ⟨w.heap.size + 1, 0, none⟩ = some (.int .u64 (g : Int)) := e12
      replace e13 : w90.cell? ⟨w.heap.size + 1, 1, none⟩ = some (.int .u64 (h : Int)) := e13
      go_wp2_with fail
      clear e10 e11 e12 e13
      refine (HCP.out _ (RA.out.more BEL.out.size)).mono ?_
      rintro e w91 ⟨rfl, bw⟩
      have BA' := Lib.hid (Blk.below BA.out bw)
      have BB' := Lib.hid (Blk.below BB.out bw)
      have BEL' := Lib.hid (BEL.out.trans (bw.mono BEL.out.size))
      have RA' := Lib.hid (RA.out.below (bw.mono BEL.out.size))
      have RB' := Lib.hid (RB.out.below (bw.mono BEL.out.size))
      clear BA BB BEL RA RB
      have BA := Lib.hid BA'.out
      have BB := Lib.hid BB'.out
      have BEL := Lib.hid BEL'.out
      have RA := Lib.hid RA'.out
      have RB := Lib.hid RB'.out
      clear BA' BB' BEL' RA' RB'
      clear bw
      go_wp2_with (first
        | (show wpList _ _ _ ({ dst := none, op := .store 38 (.tmp 9) (.tmp 35), type := _, pos := _, after := _, guard := _ } :: _) _ _; apply Classical.byContradiction; intro hneg))
      refine hneg ?_
      clear hneg
      refine wpList_store_row rfl 38 (.tmp 9) (.tmp 35) rfl w91.heap.size (bva s) rfl rfl 38 (bva z) (heap_alloc_new _ _) HIS.out (by rw [bva_size, bva_size, S3.out, HZ3.out]) (bva_one _) ?_
      obtain ⟨w92, hw92⟩ : ∃ x, x = (w91.alloc (.cells (bva z) 38)).setRow w91.heap.size (bva s) := ⟨_, rfl⟩
      rw [← hw92]
      obtain ⟨g92, hg92⟩ : ∃ x, x = w91.heap.size := ⟨_, rfl⟩
      have bn : Below w91.heap.size w91 w92 := by rw [hw92]; exact below_new (Below.refl _ _) (Nat.le_refl _)
      have B1 := Lib.hid (show Blk w92 g92 (bva s) 38 from by rw [hw92, hg92]; exact blk_new _)
      rw [← hg92]
      clear hw92 hg92
      have BA' := Lib.hid (Blk.below BA.out bn)
      have BB' := Lib.hid (Blk.below BB.out bn)
      have BEL' := Lib.hid (BEL.out.trans (bn.mono BEL.out.size))
      have RA' := Lib.hid (RA.out.below (bn.mono BEL.out.size))
      have RB' := Lib.hid (RB.out.below (bn.mono BEL.out.size))
      clear BA BB BEL RA RB
      have BA := Lib.hid BA'.out
      have BB := Lib.hid BB'.out
      have BEL := Lib.hid BEL'.out
      have RA := Lib.hid RA'.out
      have RB := Lib.hid RB'.out
      clear BA' BB' BEL' RA' RB'
      clear bn
      have e20 := BA.out.cell 0
      have e21 := BA.out.cell 1
      have e22 := BB.out.cell 0
      have e23 := BB.out.cell 1
      replace e20 : w92.cell? ⟨w.heap.size, 0, none⟩ = some (.int .u16 a) := e20
      replace e21 : w92.cell? ⟨w.heap.size, 1, none⟩ = some (.int .u16 b) := e21
      replace e22 : w92.cell? ⟨w.heap.size + 1, 0, none⟩ = some (.int .u64 (g : Int)) := e22
      replace e23 : w92.cell? ⟨w.heap.size + 1, 1, none⟩ = some (.int .u64 (h : Int)) := e23
      go_wp2_with fail
      clear e20 e21 e22 e23
      refine (HCQ.out _ (RB.out.more BEL.out.size)).mono ?_
      rintro e w93 ⟨rfl, bw⟩
      have BA' := Lib.hid (Blk.below BA.out bw)
      have BB' := Lib.hid (Blk.below BB.out bw)
      have BEL' := Lib.hid (BEL.out.trans (bw.mono BEL.out.size))
      have RA' := Lib.hid (RA.out.below (bw.mono BEL.out.size))
      have RB' := Lib.hid (RB.out.below (bw.mono BEL.out.size))
      have B1' := Lib.hid (Blk.below B1.out bw)
      clear BA BB BEL RA RB B1
      have BA := Lib.hid BA'.out
      have BB := Lib.hid BB'.out
      have BEL := Lib.hid BEL'.out
      have RA := Lib.hid RA'.out
      have RB := Lib.hid RB'.out
      have B1 := Lib.hid B1'.out
      clear BA' BB' BEL' RA' RB' B1'
      clear bw
      go_wp2_with (first
        | (show wpList _ _ _ ({ dst := none, op := .store 38 (.tmp 11) (.tmp 48), type := _, pos := _, after := _, guard := _ } :: _) _ _; apply Classical.byContradiction; intro hneg))
      refine hneg ?_
      clear hneg
      refine wpList_store_row rfl 38 (.tmp 11) (.tmp 48) rfl w93.heap.size (bva t) rfl rfl 38 (bva z) (heap_alloc_new _ _) HIT.out (by rw [bva_size, bva_size, T3.out, HZ3.out]) (bva_one _) ?_
      obtain ⟨w94, hw94⟩ : ∃ x, x = (w93.alloc (.cells (bva z) 38)).setRow w93.heap.size (bva t) := ⟨_, rfl⟩
      rw [← hw94]
      obtain ⟨g94, hg94⟩ : ∃ x, x = w93.heap.size := ⟨_, rfl⟩
      have bn : Below w93.heap.size w93 w94 := by rw [hw94]; exact below_new (Below.refl _ _) (Nat.le_refl _)
      have B2 := Lib.hid (show Blk w94 g94 (bva t) 38 from by rw [hw94, hg94]; exact blk_new _)
      rw [← hg94]
      clear hw94 hg94
      have BA' := Lib.hid (Blk.below BA.out bn)
      have BB' := Lib.hid (Blk.below BB.out bn)
      have BEL' := Lib.hid (BEL.out.trans (bn.mono BEL.out.size))
      have RA' := Lib.hid (RA.out.below (bn.mono BEL.out.size))
      have RB' := Lib.hid (RB.out.below (bn.mono BEL.out.size))
      have B1' := Lib.hid (Blk.below B1.out bn)
      clear BA BB BEL RA RB B1
      have BA := Lib.hid BA'.out
      have BB := Lib.hid BB'.out
      have BEL := Lib.hid BEL'.out
      have RA := Lib.hid RA'.out
      have RB := Lib.hid RB'.out
      have B1 := Lib.hid B1'.out
      clear BA' BB' BEL' RA' RB' B1'
      clear bn
      have e30 := BA.out.cell 0
      have e31 := BA.out.cell 1
      have e32 := BB.out.cell 0
      have e33 := BB.out.cell 1
      replace e30 : w94.cell? ⟨w.heap.size, 0, none⟩ = some (.int .u16 a) := e30
      replace e31 : w94.cell? ⟨w.heap.size, 1, none⟩ = some (.int .u16 b) := e31
      replace e32 : w94.cell? ⟨w.heap.size + 1, 0, none⟩ = some (.int .u64 (g : Int)) := e32
      replace e33 : w94.cell? ⟨w.heap.size + 1, 1, none⟩ = some (.int .u64 (h : Int)) := e33
      go_wp2_with (first
        | (refine wpList_load_row rfl 38 (.tmp 9) rfl g92 rfl 38 (bva s) (0, 0) _ B1.out Try.underlying38 rfl HIS.out ?_)
        | (refine wpList_load_row rfl 38 (.tmp 11) rfl g94 rfl 38 (bva t) (0, 0) _ B2.out Try.underlying38 rfl HIT.out ?_)
        | (refine wpList_execg8 (o := { dst := some 74, op := .load 38 (.tmp 9), type := _, pos := _, after := _, guard := _ }) (v := .agg (bva s)) (w' := w94) rfl ?hl74 ?_; case hl74 => exact exec_load 38 (.tmp 9) rfl rfl B1.out Try.underlying38 rfl HIS.out)
        | (refine wpList_execg8 (o := { dst := some 75, op := .load 38 (.tmp 11), type := _, pos := _, after := _, guard := _ }) (v := .agg (bva t)) (w' := w94) rfl ?hl75 ?_; case hl75 => exact exec_load 38 (.tmp 11) rfl rfl B2.out Try.underlying38 rfl HIT.out))
      go_ret
      exact ⟨rfl, BEL.out⟩
theorem sectorApart_own : ownKnob Try.prog.godebug = none := by kernel_rfl
theorem sectorApart_laid : laidOutB Try.prog = true := by kernel_rfl

set_option maxRecDepth 100000 in
theorem sectorApart_lifted (os : Os) (started : os.Started) (H : Type) (enc : TypeId × Value → H) :
    ReturnsInHanded {} Try.checked os 13 .any (Rows.sectorApartSpec.pre6 enc Try.prog Try.f13 Rows.sectorApartRow.domain false) (Rows.sectorApartSpec.post enc Try.prog Try.f13 false true false false) := by
  refine returnsInHanded_of_change (C := Try.checked) sectorApart_own started (by kernel_rfl) Try.func13
    (ChangeSpec.witness6 (enc := enc) (C := Try.checked) false ⟨#[], #[.agg #[.int .u16 0, .int .u16 0], .agg #[.int .u64 0, .int .u64 0], .slice none 0 0, .slice none 0 0], []⟩ 8 (by kernel_rfl) (by kernel_rfl) (by kernel_rfl) (by kernel_rfl)) ?_
  intro W base args ds gs before hval0 hW _ _
  have hval : ∀ (j : Nat) t v, Try.f13.params[j]? = some t → args[j]? = some v → Value.okWide Try.prog W .any base t v := hval0
  have hW' := hW
  obtain ⟨p, q, hA0, hV, rfl, hfz, hnd⟩ := hW
  have hA : DataW.TrodAll enc Try.prog W 0 (fun _ => true) true Try.f13.params.toList args.toList ds p := hA0
  rw [Try.params13] at hA hval
  obtain ⟨v0, vs0, d0, ds0, p0, q0, hargs, rfl, rfl, h0, r0⟩ := trodAll_cons hA
  obtain ⟨v1, vs1, d1, ds1, p1, q1, rfl, rfl, rfl, h1, r1⟩ := trodAll_cons r0
  obtain ⟨v2, vs2, d2, ds2, p2, q2, rfl, rfl, rfl, h2, r2⟩ := trodAll_cons r1
  obtain ⟨v3, vs3, d3, ds3, p3, q3, rfl, rfl, rfl, h3, r3⟩ := trodAll_cons r2
  obtain ⟨rfl, rfl, rfl⟩ := trodAll_nil r3
  obtain rfl : args = #[v0, v1, v2, v3] := by cases args; simp_all
  obtain ⟨rfl, rfl⟩ := trodVars_none hV
  have lt0 : ∀ x ∈ p0, x.block < W.heap.size := by obtain ⟨m, hm⟩ := h0; exact DataW.trod_lt m _ _ _ hm
  obtain ⟨x0, y0, rfl, bx0, by0⟩ := open_two16 Try.underlying110 Try.underlying105 (by kernel_rfl) (by kernel_rfl) (hval 0 110 v0 rfl rfl) h0
  have lt1 : ∀ x ∈ p1, x.block < W.heap.size := by obtain ⟨m, hm⟩ := h1; exact DataW.trod_lt m _ _ _ hm
  obtain ⟨x1, y1, rfl, bx1, by1⟩ := open_two64 Try.underlying111 Try.underlying91 (by kernel_rfl) (by kernel_rfl) (hval 1 111 v1 rfl rfl) h1
  obtain ⟨a2, n2, c2, rfl⟩ := okWide_slice Try.underlying71 (hval 2 71 v2 rfl rfl)
  have lt2 : ∀ x ∈ p2, x.block < W.heap.size := by obtain ⟨m, hm⟩ := h2; exact DataW.trod_lt m _ _ _ hm
  obtain ⟨l2, hl2, hc2, hm2, hr2⟩ := open_bytes Try.underlying71 Try.underlying5 (by kernel_rfl) h2
  obtain ⟨a3, n3, c3, rfl⟩ := okWide_slice Try.underlying71 (hval 3 71 v3 rfl rfl)
  have lt3 : ∀ x ∈ p3, x.block < W.heap.size := by obtain ⟨m, hm⟩ := h3; exact DataW.trod_lt m _ _ _ hm
  obtain ⟨l3, hl3, hc3, hm3, hr3⟩ := open_bytes Try.underlying71 Try.underlying5 (by kernel_rfl) h3
  clear hA0 hval0
  refine (sectorApart_any W x0 y0 bx0 by0 x1 y1 bx1 by1 a2 n2 c2 l2 hl2 hc2 hm2 hr2 a3 n3 c3 l3 hl3 hc3 hm3 hr3).mono fun e W' ⟨he, bel⟩ => ?_
  subst he
  exact ⟨_, rfl, _, _, _, [], _, [], hW', trodAll_mk1 (shut_bool Try.underlying4 _), (trodAll_cons_mk (Below.trod sectorApart_laid (by kernel_rfl) (of_decide_eq_true (by kernel_rfl)) h0 bel lt0) (trodAll_cons_mk (Below.trod sectorApart_laid (by kernel_rfl) (of_decide_eq_true (by kernel_rfl)) h1 bel lt1) (trodAll_cons_mk (Below.trod sectorApart_laid (by kernel_rfl) (of_decide_eq_true (by kernel_rfl)) h2 bel lt2) (trodAll_cons_mk (Below.trod sectorApart_laid (by kernel_rfl) (of_decide_eq_true (by kernel_rfl)) h3 bel lt3) trodAll_mk0)))), rfl, bel.frame _, fun h => by cases h⟩

theorem sectorApart_holds : Rows.SectorApartSaid :=
  OpenClaim.holds_of_wide 13 Try.f13 rfl rfl rfl rfl rfl rfl rfl ⟨rfl, rfl, rfl, rfl, rfl⟩ rfl rfl rfl rfl rfl (by kernel_rfl) Try.func13 (by kernel_rfl)
    (of_decide_eq_true (by kernel_rfl)) (by unfold Func.isWrapper; rw [if_neg (of_decide_eq_false (by kernel_rfl))]; exact ⟨rfl, rfl⟩)
    (fun os started H enc _ => sectorApart_lifted os started H enc)

#print axioms sectorApart_holds

end Go.Proofs.Ytgfldfofiglefaa
