/-
  CellBack holds: of any cell, bytes and number the law returns true, and its arguments read as they did.
-/
import Derived.Test.YtjcmmeppadhjiaaCa4
import Derived.Deep.Cut
import Derived.Deep.RegionHeld
import Derived.Test.YtjcmmeppadhjiaaRows
import Derived.ProofKit
import Derived.OpenShut
import Derived.ShutString
import Derived.ChangeOld
namespace Go.Proofs.Ytjcmmeppadhjiaa
open Go.RowKit Ce Go.ChangeShapes Go.WideShapes Go.ChangeAt
attribute [local go_sem ↓] Go.wp_at_zero Go.wp_at_succ
theorem exec_buildC {P : Program} {w : World} {r : Operand → Value} {o : Oper} {v : Value} (t : TypeId) (parts : Array (Nat × Operand)) (ho : o.op = .build t parts) (h : (Instr.build t (parts.map fun (i, x) => (i, r x))).run P w = .ok v w) :
    (execOp r o).run P w = .ok (.value v) w := by
  unfold execOp
  simp only [ho, Sem.run_bind, h, Result.andThen_ok, Sem.run_pure]
theorem own_caps {w : World} {base n c : Nat} {A : Option Addr} {xs : List Value} (h : w.ownsRow base 5 1 (.slice A n c) n xs) : n ≤ c ∧ c ≤ maxLen := by
  rcases h.2 with ⟨hv, h0⟩ | ⟨g, cap, cur, hv, _, _, h1, h2, _⟩
  · injection hv with _ _ h3; subst h3; subst h0; exact ⟨Nat.le_refl _, Nat.zero_le _⟩
  · injection hv with _ _ h3; subst h3; exact ⟨h1, h2⟩
set_option maxRecDepth 100000 in
set_option maxHeartbeats 12800000 in
theorem cellBack_any (w : World) (x : Cl) (A : Option Addr) (c : Nat) (_ : x.okB) (_ : x.body.length ≤ c) (_ : c ≤ maxLen) (hr : Rd w.heap.size w A (bv x.body)) (A1 : Option Addr) (mm c1 : Nat) (l : List UInt8) (hl : l.length = mm) (_ : mm ≤ c1) (_ : c1 ≤ maxLen) (hr1 : Rd w.heap.size w A1 (bv l)) (b : Int) (bb : 0 ≤ b ∧ b ≤ 255) : Calls Try.prog 6 #[.agg (clA x A c), .slice A1 mm c1, .int .u8 b] w (RetB (.bool true) w) := by
  obtain ⟨zc, hzc⟩ : ∃ z, z = clA zeroCl none 0 := ⟨_, rfl⟩
  have hzv : ∀ W, (zeroValue 27).run Try.prog W = .ok (.agg zc) W := fun _ => by rw [hzc]; kernel_rfl
  have HBZ := Lib.hid (show ∀ W, (Instr.build 27 #[]).run Try.prog W = .ok (.agg zc) W from fun _ => by rw [hzc]; kernel_rfl)
  have HZC := Lib.hid hzc
  have HL := Lib.hid hl
  have HR1 := Lib.hid hr1
  obtain ⟨bN, rfl⟩ : ∃ N : Nat, b = (N : Int) := ⟨b.toNat, by omega⟩
  have HBB := Lib.hid (show bN ≤ 255 from by omega)
  clear hzc hl hr1 bb
  obtain ⟨cs, hcs⟩ : ∃ cs, cs = clA x A c := ⟨_, rfl⟩
  rw [← hcs]
  obtain ⟨w0, hw0⟩ : ∃ v, v = (w.alloc (.cells cs 27)) := ⟨_, rfl⟩
  have BW := Lib.hid (show Below w.heap.size w w0 from by rw [hw0]; exact bel1 _ _)
  have X := Lib.hid (show Blk w0 (w.heap.size) cs 27 from by rw [hw0]; exact heap_alloc_new _ _)
  have HEN := Lib.hid (show ∀ W, Below w0.heap.size w0 W → Calls Try.prog 18 #[.agg cs] W (RetRowE (bv (encX x)) (errX x) W) from fun W hW => by rw [hcs]; exact encode_any x A c W ((hr.below BW.out).below (hW.mono BW.out.size)) (Nat.le_trans BW.out.size hW.size))
  have HRT := Lib.hid (show ∀ W, Calls Try.prog 15 #[.agg cs] W (RetB (.bool (decide (okCl x))) W) from fun W => by rw [hcs]; exact right_any x A c W)
  have HCR := Lib.hid (show ∀ W, Below w0.heap.size w0 W → Calls Try.prog 13 #[.agg cs] W (RetB (.bool (decide (okCl x))) W) from fun W hW => by rw [hcs]; exact cright_any x A c W ((hr.below BW.out).below (hW.mono BW.out.size)) (Nat.le_trans BW.out.size hW.size))
  have HSZ := Lib.hid (show ∀ W, Calls Try.prog 16 #[.agg cs] W (RetB (.int .i64 (if okCl x then ((encCl x).length : Int) else 0)) W) from fun W => by rw [hcs]; exact size_any x A c W)
  have HCE := Lib.hid (show okCl x → ∀ W, Below w0.heap.size w0 W → Calls Try.prog 14 #[.agg cs] W (RetRow 5 (bv (encCl x)) W) from fun ok W hW => by rw [hcs]; exact cencode_yes x ok A c W ((hr.below BW.out).below (hW.mono BW.out.size)) (Nat.le_trans BW.out.size hW.size))
  have HMO := Lib.hid (show ∀ W, Calls Try.prog 17 #[.agg cs] W (RetB (.bool (decide (x.kind = 1 ∨ x.kind = 2 ∨ x.kind = 3))) W) from fun W => by rw [hcs]; exact moment_cl x A c W)
  have HC := Lib.hid (show cs[0]? = some (.int .i64 x.kind) ∧ cs[10]? = some (.slice A x.body.length c) from by rw [hcs]; exact ⟨rfl, rfl⟩)
  have HI := Lib.hid (show (Try.prog.info? 27).map (·.size) = some cs.size from by rw [hcs]; kernel_rfl)
  have HO := Lib.hid (show cs.all (·.oneCell') = true from by rw [hcs]; simp [clA, Value.oneCell'])
  have HCS := Lib.hid hcs
  have HRD := Lib.hid (hr.below BW.out)
  obtain ⟨n, hn⟩ : ∃ n, n = x.body.length := ⟨_, rfl⟩
  rw [← hn] at HC
  have HN := Lib.hid hn
  have B := Lib.hid (Below.refl w0.heap.size w0)
  clear hcs hn hr
  go_enter Try.func6, Try.ntmps6
  go_upto_region 1 with fail
  rw [← hw0]
  clear hw0
  go_wp2_with fail
  refine (ceAwake_any _).mono ?_
  rintro e w1 ⟨rfl, bw⟩
  have B' := Lib.hid (B.out.trans (bw.mono B.out.size))
  clear bw B 
  have B := Lib.hid B'.out
  clear B' 
  have c10 := ((Blk.below X.out B.out).cell 10).trans HC.out.2
  by_cases hbig : 100 < n
  · have n1 : (100 : Int) < (n : Int) := by omega
    go_wp2_with fail
    go_ret
    exact ⟨rfl, BW.out.trans (B.out.mono BW.out.size)⟩
  have n1 : ¬ (100 : Int) < (n : Int) := by omega
  by_cases hbig2 : 100 < mm
  · have n2 : (100 : Int) < (mm : Int) := by omega
    go_wp2_with fail
    go_ret
    exact ⟨rfl, BW.out.trans (B.out.mono BW.out.size)⟩
  have n2 : ¬ (100 : Int) < (mm : Int) := by omega
  have HMM := Lib.hid (show mm ≤ 100 from by omega)
  go_wp2_with (first
    | (refine wpList_execgC (v := .agg cs) (w' := w1) rfl ?hl ?_; case hl => exact exec_load 27 (.tmp 3) rfl rfl (Blk.below X.out B.out) Try.underlying27 rfl HI.out))
  clear c10 hbig hbig2 n1 n2
  refine (HEN.out _ B.out).mono ?_
  rintro e w2 ⟨AQ, nQ, cQ, rfl, ho, bw⟩
  have B' := Lib.hid (B.out.trans (bw.mono B.out.size))
  have Q := Lib.hid (own_more ho B.out.size)
  clear ho bw B 
  have B := Lib.hid B'.out
  clear B' 
  have LQ := Lib.hid (show nQ = (encX x).length from (own_blen Q.out).symm)
  by_cases ok : okCl x
  rotate_left
  ·
    have HRx := Lib.hid (show ∀ W, Calls Try.prog 15 #[.agg cs] W (RetB (.bool false) W) from fun W => by have h := HRT.out W; rw [decide_eq_false ok] at h; exact h)
    have HSx := Lib.hid (show ∀ W, Calls Try.prog 16 #[.agg cs] W (RetB (.int .i64 0) W) from fun W => by have h := HSZ.out W; rw [if_neg ok] at h; exact h)
    rw [show errX x = 3 from if_neg ok]
    clear ok
    go_wp2_with (first
      | (refine wpList_execgC (v := .agg cs) (w' := w2) rfl ?hl ?_; case hl => exact exec_load 27 (.tmp 3) rfl rfl (Blk.below X.out B.out) Try.underlying27 rfl HI.out))
    refine (HRx.out _).mono ?_
    rintro e w3 ⟨rfl, bw⟩
    have B' := Lib.hid (B.out.trans (bw.mono B.out.size))
    clear bw B 
    have B := Lib.hid B'.out
    clear B' 
    go_wp2_with (first
      | (refine wpList_execgC (v := .agg cs) (w' := w3) rfl ?hl ?_; case hl => exact exec_load 27 (.tmp 3) rfl rfl (Blk.below X.out B.out) Try.underlying27 rfl HI.out))
    refine (HSx.out _).mono ?_
    rintro e w4 ⟨rfl, bw⟩
    have B' := Lib.hid (B.out.trans (bw.mono B.out.size))
    clear bw B 
    have B := Lib.hid B'.out
    clear B' 
    go_wp2_with fail
    go_ret
    exact ⟨rfl, BW.out.trans (B.out.mono BW.out.size)⟩
  obtain ⟨EC, hEC⟩ : ∃ e, e = encCl x := ⟨_, rfl⟩
  have hq := Q.out
  rw [show encX x = encCl x from if_pos ok, ← hEC] at hq
  have QE := Lib.hid hq
  have LE := Lib.hid (own_blen hq)
  clear Q LQ hq
  have h7 : 7 ≤ nQ := by
    have h1 := encCl_length ok
    have h2 := LE.out
    rw [← hEC] at h1
    unfold headN at h1
    omega
  have q0 : ((nQ : Int) == 0) = false := by simp; omega
  have q1 : (nQ == 0) = false := by simp; omega
  have q2 : nQ ≠ 0 := by omega
  have HSx := Lib.hid (show ∀ W, Calls Try.prog 16 #[.agg cs] W (RetB (.int .i64 (nQ : Int)) W) from fun W => by have h := HSZ.out W; rw [if_pos ok, ← hEC, LE.out] at h; exact h)
  have HDJ := Lib.hid (show ∀ W A' c', Rd W.heap.size W A' (bv (EC ++ l)) → (nQ + mm ≤ c' ∧ c' ≤ maxLen) → nQ ≤ 1000 → Calls Try.prog 19 #[.slice A' (nQ + mm) c'] W (RetDec x l 0 W) from fun W A' c' h1 h2 h3 => by
    have h := decode_any A' (nQ + mm) c' (EC ++ l) W (by rw [List.length_append, LE.out, HL.out]) h2 h1 (Nat.le_refl _) (by have := HMM.out; omega)
    rw [hEC, dec_enc ok l] at h
    simp only [if_true, List.drop_left] at h
    exact h)
  have HDC := Lib.hid (show ∀ W A' c' kk, kk < nQ → (nQ ≤ c' ∧ c' ≤ maxLen) → nQ ≤ 1000 → Rd W.heap.size W A' (bv EC) → Calls Try.prog 19 #[.slice A' kk c'] W (RetDec zeroCl [] 14 W) from fun W A' c' kk h1 h2 h3 h4 => by
    have hx := LE.out
    have h := decode_any A' kk c' (EC.take kk) W (by rw [List.length_take]; omega) ⟨by omega, h2.2⟩ (h4.take kk) (Nat.le_refl _) (by omega)
    rw [hEC] at h hx
    rw [dec_cut ok (by omega)] at h
    exact h)
  have HQB := Lib.hid (show nQ ≤ 1000 from by
    have h1 := encCl_length ok
    have h2 := LE.out
    have h3 := HN.out
    have h4 := (okCl_body ok).2
    rw [← hEC] at h1
    unfold headN at h1
    split at h1 <;> split at h1 <;> split at h1 <;> split at h1 <;> omega)
  have HCQ := Lib.hid (own_caps QE.out)
  have RQ := Lib.hid (Rd.own QE.out)
  rw [show errX x = 0 from if_pos ok]
  clear ok hEC QE
  go_wp2_with (first
    | (refine wpList_execgC (v := .agg cs) (w' := w2) rfl ?hl ?_; case hl => exact exec_load 27 (.tmp 3) rfl rfl (Blk.below X.out B.out) Try.underlying27 rfl HI.out))
  refine (HSx.out _).mono ?_
  rintro e w3 ⟨rfl, bw⟩
  have SZ3 := Lib.hid bw.size
  have B' := Lib.hid (B.out.trans (bw.mono B.out.size))
  have RQ' := Lib.hid (RQ.out.below (bw.mono (Nat.le_refl _)))
  clear bw B RQ
  have B := Lib.hid B'.out
  clear B'
  have RQ := Lib.hid RQ'.out
  clear RQ'
  have R1 := Lib.hid (show Rd w3.heap.size w3 A1 (bv l) from ((HR1.out.below BW.out).more BW.out.size).below (B.out.mono (Nat.le_refl _)) |>.more B.out.size)
  have RQ' := Lib.hid (show Rd w3.heap.size w3 AQ (bv EC) from RQ.out.more SZ3.out)
  clear RQ
  have RQ := Lib.hid RQ'.out
  clear RQ'
  go_wp2_with (first
    | (at_builtin; refine wpList_app _ rfl (.tmp 52) (.tmp 53) _ rfl Wi.bytesElt (base := w3.heap.size) (v := .slice (some ⟨w3.heap.size, 0, none⟩) 0 0) rfl (World.ownsRow_lit w3 #[] 0 (Nat.le_refl _) (Nat.zero_le _) rfl) (m := nQ) rfl (RQ.out.below ((Below.refl _ _).alloc (Nat.le_refl _) _)) ((bv_length _).trans LE.out) (bv_one _) (by have := HQB.out; omega) (by simp) ?_; intro A7 c7 w7 ho7 hg7 _; have hb7 := app_below ((Below.refl _ _).alloc (Nat.le_refl _) _) (World.ownsRow_lit w3 #[] 0 (Nat.le_refl _) (Nat.zero_le _) rfl) hg7 (Nat.le_refl _) (by simp); have ho7 := own_eq ho7 (Nat.zero_add nQ) rfl; rw [Nat.zero_add])
    | (at_builtin; refine wpList_app _ rfl (.tmp 54) (.tmp 55) _ rfl Wi.bytesElt (base := w3.heap.size) (v := .slice A7 nQ c7) rfl ho7 (m := mm) rfl (R1.out.below hb7) ((bv_length _).trans HL.out) (bv_one _) (by have := HQB.out; have := HMM.out; omega) hb7.size ?_; intro A8 c8 w8 ho8 hg8 _; have hb8 := app_below hb7 ho7 hg8 (Nat.le_refl _) hb7.size))
  have ho9 := own_eq ho8 (rfl : nQ + mm = nQ + mm) (show ([] ++ bv EC) ++ bv l = bv (EC ++ l) from by rw [List.nil_append, ← bv_append])
  refine (HDJ.out w8 A8 c8 (Rd.own ho9) (own_caps ho9) HQB.out).mono ?_
  rintro e w9 ⟨A9, c9, A10, c10, rfl, ho, hq, bw, hne⟩
  rw [HL.out] at hq ⊢
  have bw9 := hb8.trans (bw.mono hb8.size)
  have R9 := Lib.hid (Rd.own ho)
  have R10 := Lib.hid (Rd.own hq)
  clear ho hq hne ho9 ho8 ho7 hg8 hg7 hb8 hb7 bw
  have SZ9 := Lib.hid bw9.size
  have B' := Lib.hid (B.out.trans (bw9.mono B.out.size))
  have RQ' := Lib.hid (RQ.out.below (bw9.mono (Nat.le_refl _)))
  clear bw9 B RQ
  have B := Lib.hid B'.out
  clear B'
  have RQ := Lib.hid RQ'.out
  clear RQ'
  have RQ' := Lib.hid (RQ.out.more SZ9.out)
  clear RQ
  have RQ := Lib.hid RQ'.out
  clear RQ'
  obtain ⟨csa, hcsa⟩ : ∃ cs, cs = clA x A9 c9 := ⟨_, rfl⟩
  rw [← hcsa]
  have HIa := Lib.hid (show (Try.prog.info? 27).map (·.size) = some csa.size from by rw [hcsa]; kernel_rfl)
  have HOa := Lib.hid (show csa.all (·.oneCell') = true from by rw [hcsa]; simp [clA, Value.oneCell'])
  have HZa := Lib.hid (show zc.size = csa.size from by rw [HZC.out, hcsa]; rfl)
  have HCSa := Lib.hid hcsa
  clear hcsa
  go_upto_region 11 with (show wpList _ _ _ ({ dst := none, op := .store 27 (.tmp 9) (.tmp 58), type := _, pos := _, after := _, guard := _ } :: _) _ _; apply Classical.byContradiction; intro hneg)
  refine hneg ?_
  clear hneg
  refine wpList_store_row rfl 27 (.tmp 9) (.tmp 58) rfl w9.heap.size csa rfl rfl 27 zc (heap_alloc_new _ _) HIa.out HZa.out HOa.out ?_
  obtain ⟨w10, hw⟩ : ∃ v, v = (w9.alloc (.cells zc 27)).setRow w9.heap.size csa := ⟨_, rfl⟩
  obtain ⟨ga, hg⟩ : ∃ g, g = w9.heap.size := ⟨_, rfl⟩
  rw [← hw, ← hg]
  have bn : Below w9.heap.size w9 w10 := by rw [hw]; exact below_new (Below.refl _ _) (Nat.le_refl _)
  have Xa := Lib.hid (show Blk w10 ga csa 27 from by rw [hw, hg]; exact setRow_heap _ _ _ _ _ _ (heap_alloc_new _ _))
  have SB10 := Lib.hid bn.size
  have B' := Lib.hid (B.out.trans (bn.mono B.out.size))
  have R9' := Lib.hid (R9.out.below (bn.mono (Nat.le_refl _)))
  have R10' := Lib.hid (R10.out.below (bn.mono (Nat.le_refl _)))
  have RQ' := Lib.hid (RQ.out.below (bn.mono (Nat.le_refl _)))
  clear bn B R9 R10 RQ
  have B := Lib.hid B'.out
  clear B'
  have R9 := Lib.hid R9'.out
  clear R9'
  have R10 := Lib.hid R10'.out
  clear R10'
  have RQ := Lib.hid RQ'.out
  clear RQ'
  clear hw hg
  have RQ' := Lib.hid (RQ.out.more SB10.out)
  clear RQ
  have RQ := Lib.hid RQ'.out
  clear RQ'
  have R9' := Lib.hid (R9.out.more SB10.out)
  clear R9
  have R9 := Lib.hid R9'.out
  clear R9'
  have R10' := Lib.hid (R10.out.more SB10.out)
  clear R10
  have R10 := Lib.hid R10'.out
  clear R10'
  have R1' := Lib.hid (show Rd w10.heap.size w10 A1 (bv l) from ((HR1.out.below BW.out).more BW.out.size).below (B.out.mono (Nat.le_refl _)) |>.more B.out.size)
  clear R1
  have R1 := Lib.hid R1'.out
  clear R1'
  go_upto_region 11 with fail
  obtain ⟨kk, hkk⟩ : ∃ k, k = bN % nQ := ⟨_, rfl⟩
  have HKK := Lib.hid (show kk < nQ from by rw [hkk]; exact Nat.mod_lt _ (by omega))
  have km : Int.tmod (bN : Int) (nQ : Int) = (kk : Int) := by rw [hkk]; exact (Int.ofNat_tmod bN nQ).symm
  have kw : IntKind.i64.wrap (kk : Int) = (kk : Int) := IntWalk.i64_in _ (by have := HKK.out; have := HQB.out; omega)
  have kb : IntKind.i64.wrap (bN : Int) = (bN : Int) := IntWalk.i64_in _ (by have := HBB.out; omega)
  have t0 : (0 : Int) ≤ (kk : Int) := by omega
  have t1 : (kk : Int) ≤ (nQ : Int) := by have := HKK.out; omega
  have t2 : (kk : Int) ≤ (cQ : Int) := by have := HKK.out; have := HCQ.out; omega
  clear hkk
  go_wp2_with fail
  clear km kw kb t0 t1 t2
  refine (HDC.out w10 AQ cQ kk HKK.out HCQ.out HQB.out RQ.out).mono ?_
  rintro e w11 ⟨A12, c12, A13, c13, rfl, ho, hq, bw, hne⟩
  have R12 := Lib.hid (Rd.own ho)
  have SZ11 := Lib.hid bw.size
  clear ho hq hne RQ
  simp only [List.length_nil]
  have B' := Lib.hid (B.out.trans (bw.mono B.out.size))
  have Xa' := Lib.hid (Blk.below Xa.out bw)
  have R9' := Lib.hid (R9.out.below (bw.mono (Nat.le_refl _)))
  have R10' := Lib.hid (R10.out.below (bw.mono (Nat.le_refl _)))
  clear bw B Xa R9 R10
  have B := Lib.hid B'.out
  clear B'
  have Xa := Lib.hid Xa'.out
  clear Xa'
  have R9 := Lib.hid R9'.out
  clear R9'
  have R10 := Lib.hid R10'.out
  clear R10'
  have R9' := Lib.hid (R9.out.more SZ11.out)
  clear R9
  have R9 := Lib.hid R9'.out
  clear R9'
  have R10' := Lib.hid (R10.out.more SZ11.out)
  clear R10
  have R10 := Lib.hid R10'.out
  clear R10'
  obtain ⟨csz, hcsz⟩ : ∃ cs, cs = clA zeroCl A12 c12 := ⟨_, rfl⟩
  rw [← hcsz]
  have HIz := Lib.hid (show (Try.prog.info? 27).map (·.size) = some csz.size from by rw [hcsz]; kernel_rfl)
  have HOz := Lib.hid (show csz.all (·.oneCell') = true from by rw [hcsz]; simp [clA, Value.oneCell'])
  have HZz := Lib.hid (show zc.size = csz.size from by rw [HZC.out, hcsz]; rfl)
  have HCSz := Lib.hid hcsz
  clear hcsz
  go_upto_region 12 with (show wpList _ _ _ ({ dst := none, op := .store 27 (.tmp 12) (.tmp 70), type := _, pos := _, after := _, guard := _ } :: _) _ _; apply Classical.byContradiction; intro hneg)
  refine hneg ?_
  clear hneg
  refine wpList_store_row rfl 27 (.tmp 12) (.tmp 70) rfl w11.heap.size csz rfl rfl 27 zc (heap_alloc_new _ _) HIz.out HZz.out HOz.out ?_
  obtain ⟨w12, hw⟩ : ∃ v, v = (w11.alloc (.cells zc 27)).setRow w11.heap.size csz := ⟨_, rfl⟩
  obtain ⟨gz, hg⟩ : ∃ g, g = w11.heap.size := ⟨_, rfl⟩
  rw [← hw, ← hg]
  have bn : Below w11.heap.size w11 w12 := by rw [hw]; exact below_new (Below.refl _ _) (Nat.le_refl _)
  have Xz := Lib.hid (show Blk w12 gz csz 27 from by rw [hw, hg]; exact setRow_heap _ _ _ _ _ _ (heap_alloc_new _ _))
  have SB12 := Lib.hid bn.size
  have B' := Lib.hid (B.out.trans (bn.mono B.out.size))
  have Xa' := Lib.hid (Blk.below Xa.out bn)
  have R9' := Lib.hid (R9.out.below (bn.mono (Nat.le_refl _)))
  have R10' := Lib.hid (R10.out.below (bn.mono (Nat.le_refl _)))
  have R12' := Lib.hid (R12.out.below (bn.mono (Nat.le_refl _)))
  clear bn B Xa R9 R10 R12
  have B := Lib.hid B'.out
  clear B'
  have Xa := Lib.hid Xa'.out
  clear Xa'
  have R9 := Lib.hid R9'.out
  clear R9'
  have R10 := Lib.hid R10'.out
  clear R10'
  have R12 := Lib.hid R12'.out
  clear R12'
  clear hw hg
  have R9' := Lib.hid (R9.out.more SB12.out)
  clear R9
  have R9 := Lib.hid R9'.out
  clear R9'
  have R10' := Lib.hid (R10.out.more SB12.out)
  clear R10
  have R10 := Lib.hid R10'.out
  clear R10'
  have R12' := Lib.hid (R12.out.more SB12.out)
  clear R12
  have R12 := Lib.hid R12'.out
  clear R12'
  go_wp2_with (first
    | (refine wpList_execgC (v := .agg cs) (w' := w12) rfl ?hl ?_; case hl => exact exec_load 27 (.tmp 3) rfl rfl (Blk.below X.out B.out) Try.underlying27 rfl HI.out)
    | (refine wpList_execgC (v := .agg csa) (w' := w12) rfl ?hl ?_; case hl => exact exec_load 27 (.tmp 9) rfl rfl Xa.out Try.underlying27 rfl HIa.out))
  have hsame := same_any x x A A9 c c9 w12 ((HRD.out.below (B.out.mono BW.out.size)).more (Nat.le_trans BW.out.size B.out.size)) R9.out (Nat.le_refl _)
  rw [← HCS.out, ← HCSa.out, decide_eq_true rfl] at hsame
  refine hsame.mono ?_
  rintro e w13 ⟨rfl, bw⟩
  have SZ13 := Lib.hid bw.size
  clear hsame R9
  have B' := Lib.hid (B.out.trans (bw.mono B.out.size))
  have Xz' := Lib.hid (Blk.below Xz.out bw)
  have R10' := Lib.hid (R10.out.below (bw.mono (Nat.le_refl _)))
  have R12' := Lib.hid (R12.out.below (bw.mono (Nat.le_refl _)))
  clear bw B Xz R10 R12
  have B := Lib.hid B'.out
  clear B'
  have Xz := Lib.hid Xz'.out
  clear Xz'
  have R10 := Lib.hid R10'.out
  clear R10'
  have R12 := Lib.hid R12'.out
  clear R12'
  have R10' := Lib.hid (R10.out.more SZ13.out)
  clear R10
  have R10 := Lib.hid R10'.out
  clear R10'
  have R12' := Lib.hid (R12.out.more SZ13.out)
  clear R12
  have R12 := Lib.hid R12'.out
  clear R12'
  obtain ⟨Z, hZ⟩ : ∃ Z : ByteArray, Z = ⟨l.toArray⟩ := ⟨_, rfl⟩
  have HZ := Lib.hid hZ
  have hss := str_same hZ hZ
  rw [decide_eq_true rfl] at hss
  clear hZ
  go_wp2_with (first
    | (show wpList _ _ _ ({ dst := some 82, op := _, type := _, pos := _, after := _, guard := _ } :: _) _ _; refine wpList_execgC (v := .string Z) (w' := w13) rfl ?hl ?_; case hl => (have kc := conv_rd (c := c10) Try.underlying25 Try.underlying5 Try.underlying9 R10.out HL.out; rw [← HZ.out] at kc; go_simp; try with_reducible rfl))
    | (show wpList _ _ _ ({ dst := some 84, op := _, type := _, pos := _, after := _, guard := _ } :: _) _ _; refine wpList_execgC (v := .string Z) (w' := w13) rfl ?hl ?_; case hl => (have kc := conv_rd (c := c1) Try.underlying25 Try.underlying5 Try.underlying9 ((HR1.out.below BW.out).below (B.out.mono BW.out.size)) HL.out; rw [← HZ.out] at kc; go_simp; try with_reducible rfl))
    | (refine wpList_execgC (v := .agg csz) (w' := w13) rfl ?hl ?_; case hl => exact exec_load 27 (.tmp 12) rfl rfl Xz.out Try.underlying27 rfl HIz.out)
    | (show wpList _ _ _ ({ dst := some 98, op := _, type := _, pos := _, after := _, guard := _ } :: _) _ _; refine wpList_execgC (v := .agg zc) (w' := w13) rfl ?hl ?_; case hl => exact exec_buildC 27 #[] rfl (HBZ.out _)))
  have hsame := same_any zeroCl zeroCl A12 none c12 0 w13 R12.out Rd.none (Nat.le_refl _)
  rw [← HCSz.out, ← HZC.out, decide_eq_true rfl] at hsame
  refine hsame.mono ?_
  rintro e w14 ⟨rfl, bw⟩
  clear hsame
  have B' := Lib.hid (B.out.trans (bw.mono B.out.size))
  clear bw B
  have B := Lib.hid B'.out
  clear B'
  go_wp2_with fail
  go_ret
  exact ⟨rfl, BW.out.trans (B.out.mono BW.out.size)⟩
theorem cellBack_own : ownKnob Try.prog.godebug = none := by kernel_rfl
theorem cellBack_laid : laidOutB Try.prog = true := by kernel_rfl

set_option maxRecDepth 100000 in
theorem cellBack_lifted (os : Os) (started : os.Started) (H : Type) (enc : TypeId × Value → H) :
    ReturnsInHanded {} Try.checked os 6 .any (Rows.cellBackSpec.pre6 enc Try.prog Try.f6 Rows.cellBackRow.domain false) (Rows.cellBackSpec.post enc Try.prog Try.f6 false true false false) := by
  refine returnsInHanded_of_change (C := Try.checked) cellBack_own started (by kernel_rfl) Try.func6
    (ChangeSpec.witness6 (enc := enc) (C := Try.checked) false ⟨#[], #[.agg #[.int .i64 0, .int .u64 0, .int .i64 0, .int .i64 0, .int .i64 0, .int .i64 0, .int .u64 0, .int .i64 0, .int .i64 0, .int .i64 0, .slice none 0 0], .slice none 0 0, .int .u8 0], []⟩ 8 (by kernel_rfl) (by kernel_rfl) (by kernel_rfl) (by kernel_rfl)) ?_
  intro W base args ds gs before hval0 hW _ _
  have hval : ∀ (j : Nat) t v, Try.f6.params[j]? = some t → args[j]? = some v → Value.okWide Try.prog W .any base t v := hval0
  have hW' := hW
  obtain ⟨p, q, hA0, hV, rfl, hfz, hnd⟩ := hW
  have hA : DataW.TrodAll enc Try.prog W 0 (fun _ => true) true Try.f6.params.toList args.toList ds p := hA0
  rw [Try.params6] at hA hval
  obtain ⟨v0, vs0, d0, ds0, p0, q0, hargs, rfl, rfl, h0, r0⟩ := trodAll_cons hA
  obtain ⟨v1, vs1, d1, ds1, p1, q1, rfl, rfl, rfl, h1, r1⟩ := trodAll_cons r0
  obtain ⟨v2, vs2, d2, ds2, p2, q2, rfl, rfl, rfl, h2, r2⟩ := trodAll_cons r1
  obtain ⟨rfl, rfl, rfl⟩ := trodAll_nil r2
  obtain rfl : args = #[v0, v1, v2] := by cases args; simp_all
  obtain ⟨rfl, rfl⟩ := trodVars_none hV
  have lt0 : ∀ x ∈ p0, x.block < W.heap.size := by obtain ⟨m, hm⟩ := h0; exact DataW.trod_lt m _ _ _ hm
  obtain ⟨y0, a0, c0, rfl, hb0, hc0, hm0, hr0⟩ := Ce.open_cellA (hval 0 27 v0 rfl rfl) h0
  obtain ⟨a1, n1, c1, rfl⟩ := okWide_slice Try.underlying25 (hval 1 25 v1 rfl rfl)
  have lt1 : ∀ x ∈ p1, x.block < W.heap.size := by obtain ⟨m, hm⟩ := h1; exact DataW.trod_lt m _ _ _ hm
  obtain ⟨l1, hl1, hc1, hm1, hr1⟩ := open_bytes Try.underlying25 Try.underlying5 (by kernel_rfl) h1
  obtain ⟨a2, rfl, rfl, rfl, w2⟩ := open_int Try.underlying5 (hval 2 5 v2 rfl rfl) h2
  have b2 := bounds_u8 w2
  clear hA0 hval0
  refine (cellBack_any W y0 a0 c0 hb0 hc0 hm0 hr0 a1 n1 c1 l1 hl1 hc1 hm1 hr1 a2 b2).mono fun e W' ⟨he, bel⟩ => ?_
  subst he
  exact ⟨_, rfl, _, _, _, [], _, [], hW', trodAll_mk1 (shut_bool Try.underlying4 _), (trodAll_cons_mk (Below.trod cellBack_laid (by kernel_rfl) (of_decide_eq_true (by kernel_rfl)) h0 bel lt0) (trodAll_cons_mk (Below.trod cellBack_laid (by kernel_rfl) (of_decide_eq_true (by kernel_rfl)) h1 bel lt1) (trodAll_cons_mk (shut_int Try.underlying5 w2) trodAll_mk0))), rfl, bel.frame _, fun h => by cases h⟩

theorem cellBack_holds : Rows.CellBackSaid :=
  OpenClaim.holds_of_wide 6 Try.f6 rfl rfl rfl rfl rfl rfl rfl ⟨rfl, rfl, rfl, rfl, rfl⟩ rfl rfl rfl rfl rfl (by kernel_rfl) Try.func6 (by kernel_rfl)
    (of_decide_eq_true (by kernel_rfl)) (by unfold Func.isWrapper; rw [if_neg (of_decide_eq_false (by kernel_rfl))]; exact ⟨rfl, rfl⟩)
    (fun os started H enc _ => cellBack_lifted os started H enc)

#print axioms cellBack_holds

end Go.Proofs.Ytjcmmeppadhjiaa
