/-
  CellFields holds: of any cell, number, minute and place the law returns true, and its arguments read as they did.
-/
import Derived.Test.YtjcmmeppadhjiaaCa4
import Derived.Deep.Cut
import Derived.Deep.RegionHeld
import Derived.Test.YtjcmmeppadhjiaaRows
import Derived.ProofKit
import Derived.OpenShut
import Derived.ShutString
import Derived.ChangeOld
namespace Go.Proofs.Ytjcmmeppadhjiaa
open Go.RowKit Ce Go.ChangeShapes Go.WideShapes Go.ChangeAt
attribute [local go_sem ↓] Go.wp_at_zero Go.wp_at_succ
theorem fld_num (x : Cl) (N : Nat) (h : Ce.okCl x) (h1 : x.num ≤ N) (h2 : N ≤ 65535) : Ce.okCl { x with num := N } := by
  obtain ⟨⟨a, _⟩, m, k⟩ := h
  refine ⟨⟨Nat.le_trans a h1, h2⟩, m, ?_⟩
  have el : Ce.elderC x → Ce.elderC { x with num := N } := fun e => ⟨e.1, Nat.lt_of_lt_of_le e.2 h1⟩
  rcases k with k | k | k | k | k | k | k | k
  · exact Or.inl k
  · exact Or.inr (Or.inl ⟨k.1, k.2.1, el k.2.2.1, k.2.2.2⟩)
  · exact Or.inr (Or.inr (Or.inl ⟨k.1, k.2.1, el k.2.2.1, k.2.2.2⟩))
  · exact Or.inr (Or.inr (Or.inr (Or.inl ⟨k.1, k.2.1, k.2.2.1, k.2.2.2.1, k.2.2.2.2.1, el k.2.2.2.2.2.1, k.2.2.2.2.2.2⟩)))
  · exact Or.inr (Or.inr (Or.inr (Or.inr (Or.inl k))))
  · exact Or.inr (Or.inr (Or.inr (Or.inr (Or.inr (Or.inl k)))))
  · exact Or.inr (Or.inr (Or.inr (Or.inr (Or.inr (Or.inr (Or.inl k))))))
  · exact Or.inr (Or.inr (Or.inr (Or.inr (Or.inr (Or.inr (Or.inr k))))))
theorem fld_blk (x : Cl) (bk : Int) (h : Ce.okCl x) (mo : x.kind = 1 ∨ x.kind = 2 ∨ x.kind = 3) : Ce.okCl { x with blk := bk } ↔ 0 ≤ bk ∧ bk ≤ 255 := by
  obtain ⟨a, m, k⟩ := h
  constructor
  · rintro ⟨_, _, k'⟩
    rcases k' with k | k | k | k | k | k | k | k
    · exact ⟨k.2.1.2.2.1, k.2.1.2.2.2⟩
    · exact ⟨k.2.1.2.2.1, k.2.1.2.2.2⟩
    · exact ⟨k.2.1.2.2.1, k.2.1.2.2.2⟩
    all_goals (exfalso; have k1 : x.kind = _ := k.1; omega)
  · intro hb
    refine ⟨a, m, ?_⟩
    rcases k with k | k | k | k | k | k | k | k
    · exact Or.inl ⟨k.1, ⟨k.2.1.1, k.2.1.2.1, hb.1, hb.2⟩, k.2.2⟩
    · exact Or.inr (Or.inl ⟨k.1, ⟨k.2.1.1, k.2.1.2.1, hb.1, hb.2⟩, k.2.2⟩)
    · exact Or.inr (Or.inr (Or.inl ⟨k.1, ⟨k.2.1.1, k.2.1.2.1, hb.1, hb.2⟩, k.2.2⟩))
    all_goals (exfalso; have k1 : x.kind = _ := k.1; omega)
theorem fld_blk0 (x : Cl) (bk : Int) (h : Ce.okCl x) (mo : ¬ (x.kind = 1 ∨ x.kind = 2 ∨ x.kind = 3)) : Ce.okCl { x with blk := bk } ↔ bk = 0 := by
  obtain ⟨a, m, k⟩ := h
  constructor
  · rintro ⟨_, _, k'⟩
    rcases k' with k | k | k | k | k | k | k | k
    iterate 3 (exfalso; have k1 : x.kind = _ := k.1; omega)
    · exact k.2.2.2.2.1
    · exact k.2.2.2.1
    · exact k.2.1.2.2
    · exact k.2.1.2.2
    · exact k.2.1.2.2
  · rintro rfl
    refine ⟨a, m, ?_⟩
    rcases k with k | k | k | k | k | k | k | k
    iterate 3 (exfalso; have k1 : x.kind = _ := k.1; omega)
    · exact Or.inr (Or.inr (Or.inr (Or.inl ⟨k.1, k.2.1, k.2.2.1, k.2.2.2.1, rfl, k.2.2.2.2.2⟩)))
    · exact Or.inr (Or.inr (Or.inr (Or.inr (Or.inl ⟨k.1, k.2.1, k.2.2.1, rfl, k.2.2.2.2⟩))))
    · exact Or.inr (Or.inr (Or.inr (Or.inr (Or.inr (Or.inl ⟨k.1, ⟨k.2.1.1, k.2.1.2.1, rfl⟩, k.2.2⟩)))))
    · exact Or.inr (Or.inr (Or.inr (Or.inr (Or.inr (Or.inr (Or.inl ⟨k.1, ⟨k.2.1.1, k.2.1.2.1, rfl⟩, k.2.2⟩))))))
    · exact Or.inr (Or.inr (Or.inr (Or.inr (Or.inr (Or.inr (Or.inr ⟨k.1, ⟨k.2.1.1, k.2.1.2.1, rfl⟩, k.2.2⟩))))))
set_option maxRecDepth 100000 in
set_option maxHeartbeats 12800000 in
theorem cellFields_any (w : World) (x : Cl) (A : Option Addr) (c : Nat) (_ : x.okB) (_ : x.body.length ≤ c) (_ : c ≤ maxLen) (hr : Rd w.heap.size w A (bv x.body)) (num : Int) (bnum : 0 ≤ num ∧ num ≤ 18446744073709551615) (mn : Int) (_ : -9223372036854775808 ≤ mn ∧ mn ≤ 9223372036854775807) (bk : Int) (_ : -9223372036854775808 ≤ bk ∧ bk ≤ 9223372036854775807) : Calls Try.prog 10 #[.agg (clA x A c), .int .u64 num, .int .i64 mn, .int .i64 bk] w (RetB (.bool true) w) := by
  obtain ⟨zc, hzc⟩ : ∃ z, z = clA zeroCl none 0 := ⟨_, rfl⟩
  have hzv : ∀ W, (zeroValue 27).run Try.prog W = .ok (.agg zc) W := fun _ => by rw [hzc]; kernel_rfl
  obtain ⟨NU, rfl⟩ : ∃ N : Nat, num = (N : Int) := ⟨num.toNat, by omega⟩
  clear bnum
  obtain ⟨y1, hy1⟩ : ∃ y : Cl, y = { x with min := mn } := ⟨_, rfl⟩
  obtain ⟨y2, hy2⟩ : ∃ y : Cl, y = { x with num := NU } := ⟨_, rfl⟩
  obtain ⟨y3, hy3⟩ : ∃ y : Cl, y = { x with blk := bk } := ⟨_, rfl⟩
  obtain ⟨e1, he1⟩ : ∃ e, e = clA y1 A c := ⟨_, rfl⟩
  obtain ⟨e2, he2⟩ : ∃ e, e = clA y2 A c := ⟨_, rfl⟩
  obtain ⟨e3, he3⟩ : ∃ e, e = clA y3 A c := ⟨_, rfl⟩
  have H1 := Lib.hid (show ∀ W, Calls Try.prog 15 #[.agg e1] W (RetB (.bool (decide (okCl y1))) W) from fun W => by rw [he1]; exact right_any y1 A c W)
  have H2 := Lib.hid (show ∀ W, Calls Try.prog 15 #[.agg e2] W (RetB (.bool (decide (okCl y2))) W) from fun W => by rw [he2]; exact right_any y2 A c W)
  have H3 := Lib.hid (show ∀ W, Calls Try.prog 15 #[.agg e3] W (RetB (.bool (decide (okCl y3))) W) from fun W => by rw [he3]; exact right_any y3 A c W)
  have HSET1 := Lib.hid (show (clA x A c).setIfInBounds 2 (.int .i64 mn) = e1 from by rw [he1, hy1]; rfl)
  have HSET2 := Lib.hid (show (clA x A c).setIfInBounds 1 (.int .u64 (NU : Int)) = e2 from by rw [he2, hy2]; rfl)
  have HSET3 := Lib.hid (show (clA x A c).setIfInBounds 5 (.int .i64 bk) = e3 from by rw [he3, hy3]; rfl)
  have HI1 := Lib.hid (show (Try.prog.info? 27).map (·.size) = some e1.size from by rw [he1]; kernel_rfl)
  have HI2 := Lib.hid (show (Try.prog.info? 27).map (·.size) = some e2.size from by rw [he2]; kernel_rfl)
  have HI3 := Lib.hid (show (Try.prog.info? 27).map (·.size) = some e3.size from by rw [he3]; kernel_rfl)
  have HZ := Lib.hid (show e1.size = (clA x A c).size ∧ e2.size = (clA x A c).size ∧ e3.size = (clA x A c).size from by rw [he1, he2, he3]; exact ⟨rfl, rfl, rfl⟩)
  have HXX := Lib.hid (show (clA x A c)[2]? = some (.int .i64 x.min) ∧ (clA x A c)[1]? = some (.int .u64 (x.num : Int)) ∧ (clA x A c)[5]? = some (.int .i64 x.blk) from ⟨rfl, rfl, rfl⟩)
  have HZC := Lib.hid (show zc.size = (clA x A c).size from by rw [hzc]; rfl)
  have HY1 := Lib.hid hy1
  have HY2 := Lib.hid hy2
  have HY3 := Lib.hid hy3
  clear he1 he2 he3 hy1 hy2 hy3 hzc
  obtain ⟨cs, hcs⟩ : ∃ cs, cs = clA x A c := ⟨_, rfl⟩
  rw [← hcs] at HSET1 HSET2 HSET3 HZ HXX HZC ⊢
  obtain ⟨w0, hw0⟩ : ∃ v, v = (w.alloc (.cells cs 27)) := ⟨_, rfl⟩
  have BW := Lib.hid (show Below w.heap.size w w0 from by rw [hw0]; exact bel1 _ _)
  have X := Lib.hid (show Blk w0 (w.heap.size) cs 27 from by rw [hw0]; exact heap_alloc_new _ _)
  have HEN := Lib.hid (show ∀ W, Below w0.heap.size w0 W → Calls Try.prog 18 #[.agg cs] W (RetRowE (bv (encX x)) (errX x) W) from fun W hW => by rw [hcs]; exact encode_any x A c W ((hr.below BW.out).below (hW.mono BW.out.size)) (Nat.le_trans BW.out.size hW.size))
  have HRT := Lib.hid (show ∀ W, Calls Try.prog 15 #[.agg cs] W (RetB (.bool (decide (okCl x))) W) from fun W => by rw [hcs]; exact right_any x A c W)
  have HCR := Lib.hid (show ∀ W, Below w0.heap.size w0 W → Calls Try.prog 13 #[.agg cs] W (RetB (.bool (decide (okCl x))) W) from fun W hW => by rw [hcs]; exact cright_any x A c W ((hr.below BW.out).below (hW.mono BW.out.size)) (Nat.le_trans BW.out.size hW.size))
  have HSZ := Lib.hid (show ∀ W, Calls Try.prog 16 #[.agg cs] W (RetB (.int .i64 (if okCl x then ((encCl x).length : Int) else 0)) W) from fun W => by rw [hcs]; exact size_any x A c W)
  have HCE := Lib.hid (show okCl x → ∀ W, Below w0.heap.size w0 W → Calls Try.prog 14 #[.agg cs] W (RetRow 5 (bv (encCl x)) W) from fun ok W hW => by rw [hcs]; exact cencode_yes x ok A c W ((hr.below BW.out).below (hW.mono BW.out.size)) (Nat.le_trans BW.out.size hW.size))
  have HMO := Lib.hid (show ∀ W, Calls Try.prog 17 #[.agg cs] W (RetB (.bool (decide (x.kind = 1 ∨ x.kind = 2 ∨ x.kind = 3))) W) from fun W => by rw [hcs]; exact moment_cl x A c W)
  have HC := Lib.hid (show cs[0]? = some (.int .i64 x.kind) ∧ cs[10]? = some (.slice A x.body.length c) from by rw [hcs]; exact ⟨rfl, rfl⟩)
  have HI := Lib.hid (show (Try.prog.info? 27).map (·.size) = some cs.size from by rw [hcs]; kernel_rfl)
  have HO := Lib.hid (show cs.all (·.oneCell') = true from by rw [hcs]; simp [clA, Value.oneCell'])
  have HCS := Lib.hid hcs
  have HRD := Lib.hid (hr.below BW.out)
  obtain ⟨n, hn⟩ : ∃ n, n = x.body.length := ⟨_, rfl⟩
  rw [← hn] at HC
  have HN := Lib.hid hn
  have B := Lib.hid (Below.refl w0.heap.size w0)
  clear hcs hn hr
  go_enter Try.func10, Try.ntmps10
  go_upto_region 1 with fail
  rw [← hw0]
  clear hw0
  go_wp2_with fail
  refine (ceAwake_any _).mono ?_
  rintro e w1 ⟨rfl, bw⟩
  have B' := Lib.hid (B.out.trans (bw.mono B.out.size))
  clear bw B 
  have B := Lib.hid B'.out
  clear B' 
  have c10 := ((Blk.below X.out B.out).cell 10).trans HC.out.2
  by_cases hbig : 100 < n
  · have n1 : (100 : Int) < (n : Int) := by omega
    go_wp2_with fail
    go_ret
    exact ⟨rfl, BW.out.trans (B.out.mono BW.out.size)⟩
  · have n1 : decide ((100 : Int) < (n : Int)) = false := decide_eq_false (by omega)
    have n2 : decide (100 < n) = false := decide_eq_false hbig
    go_wp2_with (first
      | (refine wpList_execgC (v := .agg cs) (w' := w1) rfl ?hl ?_; case hl => exact exec_load 27 (.tmp 4) rfl rfl (Blk.below X.out B.out) Try.underlying27 rfl HI.out))
    refine (HRT.out _).mono ?_
    rintro e w2 ⟨rfl, bw⟩
    have B' := Lib.hid (B.out.trans (bw.mono B.out.size))
    clear bw B 
    have B := Lib.hid B'.out
    clear B' 
    clear c10 hbig n1 n2
    by_cases ok : okCl x
    rotate_left
    · rw [decide_eq_false ok]
      go_wp2_with fail
      go_ret
      exact ⟨rfl, BW.out.trans (B.out.mono BW.out.size)⟩
    rw [decide_eq_true ok]
    have OK := Lib.hid ok
    clear ok
    go_upto_region 6 with (first
      | (refine wpList_execgC (v := .agg cs) (w' := w2) rfl ?hl ?_; case hl => exact exec_load 27 (.tmp 4) rfl rfl (Blk.below X.out B.out) Try.underlying27 rfl HI.out)
      | (show wpList _ _ _ ({ dst := none, op := .store 27 (.tmp 9) (.tmp 21), type := _, pos := _, after := _, guard := _ } :: _) _ _; apply Classical.byContradiction; intro hneg))
    refine hneg ?_
    clear hneg
    refine wpList_store_row rfl 27 (.tmp 9) (.tmp 21) rfl w2.heap.size cs rfl rfl 27 zc (heap_alloc_new _ _) HI.out HZC.out HO.out ?_
    obtain ⟨w3, hw3⟩ : ∃ v, v = (w2.alloc (.cells zc 27)).setRow w2.heap.size cs := ⟨_, rfl⟩
    obtain ⟨g9, hg9⟩ : ∃ g, g = w2.heap.size := ⟨_, rfl⟩
    rw [← hw3, ← hg9]
    have bn : Below w2.heap.size w2 w3 := by rw [hw3]; exact below_new (Below.refl _ _) (Nat.le_refl _)
    have HG := Lib.hid (show w0.heap.size ≤ g9 from by rw [hg9]; exact B.out.size)
    have D := Lib.hid (show Blk w3 g9 cs 27 from by rw [hw3, hg9]; exact setRow_heap _ _ _ _ _ _ (heap_alloc_new _ _))
    have B' := Lib.hid (B.out.trans (bn.mono B.out.size))
    clear bn hw3 hg9 B
    have B := Lib.hid B'.out
    clear B'
    have cc := (D.out.cell 2).trans HXX.out.1
    have fz := blk_frozen D.out 2
    go_upto_region 7 with fail
    obtain ⟨w4, hw⟩ : ∃ v, v = w3.setCell ⟨g9, 2, none⟩ (.int .i64 mn) := ⟨_, rfl⟩
    rw [← hw]
    have D' := Lib.hid (show Blk w4 g9 e1 27 from by rw [hw, ← HSET1.out]; exact heap_setCell_same _ _ _ _ _ _ D.out)
    have B' := Lib.hid (show Below w0.heap.size w0 w4 from by rw [hw]; exact B.out.setCell HG.out _)
    clear cc fz hw D B
    have D := Lib.hid D'.out
    have B := Lib.hid B'.out
    clear D' B'
    go_wp2_with (first
      | (refine wpList_load_row rfl 27 (.tmp 9) rfl g9 rfl 27 e1 (0, 0) _ D.out Try.underlying27 rfl HI1.out ?_))
    refine (H1.out _).mono ?_
    rintro e w5 ⟨rfl, bw⟩
    have B' := Lib.hid (B.out.trans (bw.mono B.out.size))
    have D' := Lib.hid (Blk.below D.out bw)
    clear bw B D
    have B := Lib.hid B'.out
    have D := Lib.hid D'.out
    clear B' D'
    have hr1 : okCl y1 ↔ 0 ≤ mn ∧ mn ≤ 1073741824 := by
      have h := OK.out
      rw [HY1.out]
      unfold okCl minC at h ⊢
      exact ⟨fun g => g.2.1, fun g => ⟨h.1, g, h.2.2⟩⟩
    rw [decide_iff hr1]
    clear hr1
    by_cases m1 : 0 ≤ mn
    rotate_left
    · rw [decide_eq_false (fun h => m1 h.1)]
      have n1 : decide (mn ≥ 0) = false := decide_eq_false (by omega)
      have n2 : decide (0 ≤ mn) = false := decide_eq_false m1
      go_upto_region 10 with (first
        | (refine wpList_load_row rfl 27 (.tmp 4) rfl w.heap.size rfl 27 cs (0, 0) _ (Blk.below X.out B.out) Try.underlying27 rfl HI.out ?_)
        | (refine wpList_store_row rfl 27 (.tmp 9) (.tmp 33) rfl g9 cs rfl rfl 27 e1 D.out HI.out HZ.out.1 HO.out ?_))
      obtain ⟨w6, hw⟩ : ∃ v, v = w5.setRow g9 cs := ⟨_, rfl⟩
      rw [← hw]
      have D' := Lib.hid (show Blk w6 g9 cs 27 from by rw [hw]; exact setRow_heap _ _ _ _ _ _ D.out)
      have B' := Lib.hid (show Below w0.heap.size w0 w6 from by rw [hw]; exact below_setRow B.out HG.out _)
      clear hw D B
      have D := Lib.hid D'.out
      have B := Lib.hid B'.out
      clear D' B'
      have cc := (D.out.cell 1).trans HXX.out.2.1
      have fz := blk_frozen D.out 1
      go_upto_region 11 with fail
      obtain ⟨w7, hw⟩ : ∃ v, v = w6.setCell ⟨g9, 1, none⟩ (.int .u64 (NU : Int)) := ⟨_, rfl⟩
      rw [← hw]
      have D' := Lib.hid (show Blk w7 g9 e2 27 from by rw [hw, ← HSET2.out]; exact heap_setCell_same _ _ _ _ _ _ D.out)
      have B' := Lib.hid (show Below w0.heap.size w0 w7 from by rw [hw]; exact B.out.setCell HG.out _)
      clear cc fz hw D B
      have D := Lib.hid D'.out
      have B := Lib.hid B'.out
      clear D' B'
      have hbad : ¬ (1 ≤ NU ∧ NU ≤ 65535) → ¬ okCl y2 := fun h g => by rw [HY2.out] at g; exact h g.1
      have hgood : x.num ≤ NU → NU ≤ 65535 → okCl y2 := fun h g => by
        rw [HY2.out]
        exact fld_num x NU OK.out h g
      obtain ⟨xn, hxn⟩ : ∃ n, n = x.num := ⟨_, rfl⟩
      have hx1 : 1 ≤ xn := by rw [hxn]; exact OK.out.1.1
      rw [← hxn] at hgood
      have q1 := (Blk.below X.out B.out).cell 1
      have q2 := q1.trans HXX.out.2.1
      rw [← hxn] at q2
      have HXN := Lib.hid hxn
      clear q1
      by_cases c1 : NU < 1
      · have n4 : decide ((NU : Int) < 1) = true := decide_eq_true (by omega)
        have n5 : decide (NU < 1) = true := decide_eq_true c1
        have n6 : decide ((NU : Int) ≥ (xn : Int)) = false := decide_eq_false (by omega)
        have n7 : decide (xn ≤ NU) = false := decide_eq_false (by omega)
        have h2 : ∀ W, Calls Try.prog 15 #[.agg e2] W (RetB (.bool false) W) := fun W => by have h := H2.out W; rw [decide_eq_false (hbad (by omega))] at h; exact h
        have HB2 := Lib.hid h2
        clear h2 hbad hgood hxn c1 hx1
        go_wp2_with (first | (refine wpList_load_row rfl 27 (.tmp 9) rfl g9 rfl 27 e2 (0, 0) _ D.out Try.underlying27 rfl HI2.out ?_) | (refine wpList_execgC (v := .agg e2) (w' := w7) rfl ?hl ?_; case hl => exact exec_load 27 (.tmp 9) rfl rfl D.out Try.underlying27 rfl HI2.out))
        refine (HB2.out _).mono ?_
        rintro e w8 ⟨rfl, bw⟩
        have B' := Lib.hid (B.out.trans (bw.mono B.out.size))
        have D' := Lib.hid (Blk.below D.out bw)
        clear bw B D
        have B := Lib.hid B'.out
        have D := Lib.hid D'.out
        clear B' D'
        have q3 := ((Blk.below X.out B.out).cell 1).trans HXX.out.2.1
        rw [← HXN.out] at q3
        go_upto_region 14 with (first
          | (refine wpList_load_row rfl 27 (.tmp 4) rfl w.heap.size rfl 27 cs (0, 0) _ (Blk.below X.out B.out) Try.underlying27 rfl HI.out ?_)
          | (refine wpList_store_row rfl 27 (.tmp 9) (.tmp 61) rfl g9 cs rfl rfl 27 e2 D.out HI.out HZ.out.2.1 HO.out ?_))
        obtain ⟨w9, hw⟩ : ∃ v, v = w8.setRow g9 cs := ⟨_, rfl⟩
        rw [← hw]
        have D' := Lib.hid (show Blk w9 g9 cs 27 from by rw [hw]; exact setRow_heap _ _ _ _ _ _ D.out)
        have B' := Lib.hid (show Below w0.heap.size w0 w9 from by rw [hw]; exact below_setRow B.out HG.out _)
        clear hw D B
        have D := Lib.hid D'.out
        have B := Lib.hid B'.out
        clear D' B'
        have cc := (D.out.cell 5).trans HXX.out.2.2
        have fz := blk_frozen D.out 5
        go_upto_region 15 with fail
        obtain ⟨w10, hw⟩ : ∃ v, v = w9.setCell ⟨g9, 5, none⟩ (.int .i64 bk) := ⟨_, rfl⟩
        rw [← hw]
        have D' := Lib.hid (show Blk w10 g9 e3 27 from by rw [hw, ← HSET3.out]; exact heap_setCell_same _ _ _ _ _ _ D.out)
        have B' := Lib.hid (show Below w0.heap.size w0 w10 from by rw [hw]; exact B.out.setCell HG.out _)
        clear cc fz hw D B
        have D := Lib.hid D'.out
        have B := Lib.hid B'.out
        clear D' B'
        go_wp2_with (first
          | (refine wpList_load_row rfl 27 (.tmp 4) rfl w.heap.size rfl 27 cs (0, 0) _ (Blk.below X.out B.out) Try.underlying27 rfl HI.out ?_))
        refine (HMO.out _).mono ?_
        rintro e w11 ⟨rfl, bw⟩
        have B' := Lib.hid (B.out.trans (bw.mono B.out.size))
        have D' := Lib.hid (Blk.below D.out bw)
        clear bw B D
        have B := Lib.hid B'.out
        have D := Lib.hid D'.out
        clear B' D'
        by_cases mo : x.kind = 1 ∨ x.kind = 2 ∨ x.kind = 3
        · rw [decide_eq_true mo]
          have hr3 : okCl y3 ↔ 0 ≤ bk ∧ bk ≤ 255 := by
            rw [HY3.out]
            exact fld_blk x bk OK.out mo
          have H3' := Lib.hid (show ∀ W, Calls Try.prog 15 #[.agg e3] W (RetB (.bool (decide (0 ≤ bk ∧ bk ≤ 255))) W) from fun W => by rw [← decide_iff hr3]; exact H3.out W)
          clear hr3 mo
          go_wp2_with (first
            | (refine wpList_load_row rfl 27 (.tmp 9) rfl g9 rfl 27 e3 (0, 0) _ D.out Try.underlying27 rfl HI3.out ?_))
          refine (H3'.out _).mono ?_
          rintro e w12 ⟨rfl, bw⟩
          have B' := Lib.hid (B.out.trans (bw.mono B.out.size))
          have D' := Lib.hid (Blk.below D.out bw)
          clear bw B D
          have B := Lib.hid B'.out
          have D := Lib.hid D'.out
          clear B' D'
          by_cases m3 : 0 ≤ bk
          rotate_left
          · rw [decide_eq_false (fun h => m3 h.1)]
            have z1 : decide (bk ≥ 0) = false := decide_eq_false (by omega)
            have z2 : decide (0 ≤ bk) = false := decide_eq_false m3
            go_wp2_with fail
            all_goals go_ret
            all_goals exact ⟨rfl, BW.out.trans (B.out.mono BW.out.size)⟩
          by_cases m4 : bk ≤ 255
          · rw [decide_eq_true ⟨m3, m4⟩]
            have z1 : decide (bk ≥ 0) = true := decide_eq_true (by omega)
            have z2 : decide (0 ≤ bk) = true := decide_eq_true m3
            have z3 : decide (bk ≤ 255) = true := decide_eq_true m4
            go_wp2_with fail
            all_goals go_ret
            all_goals exact ⟨rfl, BW.out.trans (B.out.mono BW.out.size)⟩
          · rw [decide_eq_false (fun h => m4 h.2)]
            have z1 : decide (bk ≥ 0) = true := decide_eq_true (by omega)
            have z2 : decide (0 ≤ bk) = true := decide_eq_true m3
            have z3 : decide (bk ≤ 255) = false := decide_eq_false m4
            go_wp2_with fail
            all_goals go_ret
            all_goals exact ⟨rfl, BW.out.trans (B.out.mono BW.out.size)⟩
        · rw [decide_eq_false mo]
          have hr3 : okCl y3 ↔ bk = 0 := by
            rw [HY3.out]
            exact fld_blk0 x bk OK.out mo
          have H3' := Lib.hid (show ∀ W, Calls Try.prog 15 #[.agg e3] W (RetB (.bool (decide (bk = 0))) W) from fun W => by rw [← decide_iff hr3]; exact H3.out W)
          clear hr3 mo
          go_wp2_with (first
            | (refine wpList_load_row rfl 27 (.tmp 9) rfl g9 rfl 27 e3 (0, 0) _ D.out Try.underlying27 rfl HI3.out ?_))
          refine (H3'.out _).mono ?_
          rintro e w12 ⟨rfl, bw⟩
          have B' := Lib.hid (B.out.trans (bw.mono B.out.size))
          have D' := Lib.hid (Blk.below D.out bw)
          clear bw B D
          have B := Lib.hid B'.out
          have D := Lib.hid D'.out
          clear B' D'
          by_cases m3 : bk = 0
          · rw [decide_eq_true m3]
            have z1 : (bk == 0) = true := by simpa using m3
            go_wp2_with fail
            all_goals go_ret
            all_goals exact ⟨rfl, BW.out.trans (B.out.mono BW.out.size)⟩
          · rw [decide_eq_false m3]
            have z1 : (bk == 0) = false := by simpa using m3
            go_wp2_with fail
            all_goals go_ret
            all_goals exact ⟨rfl, BW.out.trans (B.out.mono BW.out.size)⟩
      by_cases c2 : 65535 < NU
      · have n4 : decide ((NU : Int) < 1) = false := decide_eq_false (by omega)
        have n4b : decide (NU < 1) = false := decide_eq_false (by omega)
        have n5 : decide ((65535 : Int) < (NU : Int)) = true := decide_eq_true (by omega)
        have n5b : decide (65535 < NU) = true := decide_eq_true c2
        have n6 : decide ((NU : Int) ≤ 65535) = false := decide_eq_false (by omega)
        have n7 : decide (NU ≤ 65535) = false := decide_eq_false (by omega)
        have n8 : decide ((NU : Int) ≥ (xn : Int)) = decide (xn ≤ NU) := decide_iff (by omega)
        have h2 : ∀ W, Calls Try.prog 15 #[.agg e2] W (RetB (.bool false) W) := fun W => by have h := H2.out W; rw [decide_eq_false (hbad (by omega))] at h; exact h
        have HB2 := Lib.hid h2
        clear h2 hbad hgood hxn c1 c2 hx1
        by_cases c3 : xn ≤ NU
        · have n9 : decide (xn ≤ NU) = true := decide_eq_true c3
          rw [n9] at n8
          clear c3
          go_wp2_with (first | (refine wpList_load_row rfl 27 (.tmp 9) rfl g9 rfl 27 e2 (0, 0) _ D.out Try.underlying27 rfl HI2.out ?_) | (refine wpList_execgC (v := .agg e2) (w' := w7) rfl ?hl ?_; case hl => exact exec_load 27 (.tmp 9) rfl rfl D.out Try.underlying27 rfl HI2.out))
          refine (HB2.out _).mono ?_
          rintro e w8 ⟨rfl, bw⟩
          have B' := Lib.hid (B.out.trans (bw.mono B.out.size))
          have D' := Lib.hid (Blk.below D.out bw)
          clear bw B D
          have B := Lib.hid B'.out
          have D := Lib.hid D'.out
          clear B' D'
          have q3 := ((Blk.below X.out B.out).cell 1).trans HXX.out.2.1
          rw [← HXN.out] at q3
          go_upto_region 14 with (first
            | (refine wpList_load_row rfl 27 (.tmp 4) rfl w.heap.size rfl 27 cs (0, 0) _ (Blk.below X.out B.out) Try.underlying27 rfl HI.out ?_)
            | (refine wpList_store_row rfl 27 (.tmp 9) (.tmp 61) rfl g9 cs rfl rfl 27 e2 D.out HI.out HZ.out.2.1 HO.out ?_))
          obtain ⟨w9, hw⟩ : ∃ v, v = w8.setRow g9 cs := ⟨_, rfl⟩
          rw [← hw]
          have D' := Lib.hid (show Blk w9 g9 cs 27 from by rw [hw]; exact setRow_heap _ _ _ _ _ _ D.out)
          have B' := Lib.hid (show Below w0.heap.size w0 w9 from by rw [hw]; exact below_setRow B.out HG.out _)
          clear hw D B
          have D := Lib.hid D'.out
          have B := Lib.hid B'.out
          clear D' B'
          have cc := (D.out.cell 5).trans HXX.out.2.2
          have fz := blk_frozen D.out 5
          go_upto_region 15 with fail
          obtain ⟨w10, hw⟩ : ∃ v, v = w9.setCell ⟨g9, 5, none⟩ (.int .i64 bk) := ⟨_, rfl⟩
          rw [← hw]
          have D' := Lib.hid (show Blk w10 g9 e3 27 from by rw [hw, ← HSET3.out]; exact heap_setCell_same _ _ _ _ _ _ D.out)
          have B' := Lib.hid (show Below w0.heap.size w0 w10 from by rw [hw]; exact B.out.setCell HG.out _)
          clear cc fz hw D B
          have D := Lib.hid D'.out
          have B := Lib.hid B'.out
          clear D' B'
          go_wp2_with (first
            | (refine wpList_load_row rfl 27 (.tmp 4) rfl w.heap.size rfl 27 cs (0, 0) _ (Blk.below X.out B.out) Try.underlying27 rfl HI.out ?_))
          refine (HMO.out _).mono ?_
          rintro e w11 ⟨rfl, bw⟩
          have B' := Lib.hid (B.out.trans (bw.mono B.out.size))
          have D' := Lib.hid (Blk.below D.out bw)
          clear bw B D
          have B := Lib.hid B'.out
          have D := Lib.hid D'.out
          clear B' D'
          by_cases mo : x.kind = 1 ∨ x.kind = 2 ∨ x.kind = 3
          · rw [decide_eq_true mo]
            have hr3 : okCl y3 ↔ 0 ≤ bk ∧ bk ≤ 255 := by
              rw [HY3.out]
              exact fld_blk x bk OK.out mo
            have H3' := Lib.hid (show ∀ W, Calls Try.prog 15 #[.agg e3] W (RetB (.bool (decide (0 ≤ bk ∧ bk ≤ 255))) W) from fun W => by rw [← decide_iff hr3]; exact H3.out W)
            clear hr3 mo
            go_wp2_with (first
              | (refine wpList_load_row rfl 27 (.tmp 9) rfl g9 rfl 27 e3 (0, 0) _ D.out Try.underlying27 rfl HI3.out ?_))
            refine (H3'.out _).mono ?_
            rintro e w12 ⟨rfl, bw⟩
            have B' := Lib.hid (B.out.trans (bw.mono B.out.size))
            have D' := Lib.hid (Blk.below D.out bw)
            clear bw B D
            have B := Lib.hid B'.out
            have D := Lib.hid D'.out
            clear B' D'
            by_cases m3 : 0 ≤ bk
            rotate_left
            · rw [decide_eq_false (fun h => m3 h.1)]
              have z1 : decide (bk ≥ 0) = false := decide_eq_false (by omega)
              have z2 : decide (0 ≤ bk) = false := decide_eq_false m3
              go_wp2_with fail
              all_goals go_ret
              all_goals exact ⟨rfl, BW.out.trans (B.out.mono BW.out.size)⟩
            by_cases m4 : bk ≤ 255
            · rw [decide_eq_true ⟨m3, m4⟩]
              have z1 : decide (bk ≥ 0) = true := decide_eq_true (by omega)
              have z2 : decide (0 ≤ bk) = true := decide_eq_true m3
              have z3 : decide (bk ≤ 255) = true := decide_eq_true m4
              go_wp2_with fail
              all_goals go_ret
              all_goals exact ⟨rfl, BW.out.trans (B.out.mono BW.out.size)⟩
            · rw [decide_eq_false (fun h => m4 h.2)]
              have z1 : decide (bk ≥ 0) = true := decide_eq_true (by omega)
              have z2 : decide (0 ≤ bk) = true := decide_eq_true m3
              have z3 : decide (bk ≤ 255) = false := decide_eq_false m4
              go_wp2_with fail
              all_goals go_ret
              all_goals exact ⟨rfl, BW.out.trans (B.out.mono BW.out.size)⟩
          · rw [decide_eq_false mo]
            have hr3 : okCl y3 ↔ bk = 0 := by
              rw [HY3.out]
              exact fld_blk0 x bk OK.out mo
            have H3' := Lib.hid (show ∀ W, Calls Try.prog 15 #[.agg e3] W (RetB (.bool (decide (bk = 0))) W) from fun W => by rw [← decide_iff hr3]; exact H3.out W)
            clear hr3 mo
            go_wp2_with (first
              | (refine wpList_load_row rfl 27 (.tmp 9) rfl g9 rfl 27 e3 (0, 0) _ D.out Try.underlying27 rfl HI3.out ?_))
            refine (H3'.out _).mono ?_
            rintro e w12 ⟨rfl, bw⟩
            have B' := Lib.hid (B.out.trans (bw.mono B.out.size))
            have D' := Lib.hid (Blk.below D.out bw)
            clear bw B D
            have B := Lib.hid B'.out
            have D := Lib.hid D'.out
            clear B' D'
            by_cases m3 : bk = 0
            · rw [decide_eq_true m3]
              have z1 : (bk == 0) = true := by simpa using m3
              go_wp2_with fail
              all_goals go_ret
              all_goals exact ⟨rfl, BW.out.trans (B.out.mono BW.out.size)⟩
            · rw [decide_eq_false m3]
              have z1 : (bk == 0) = false := by simpa using m3
              go_wp2_with fail
              all_goals go_ret
              all_goals exact ⟨rfl, BW.out.trans (B.out.mono BW.out.size)⟩
        · have n9 : decide (xn ≤ NU) = false := decide_eq_false c3
          rw [n9] at n8
          clear c3
          go_wp2_with (first | (refine wpList_load_row rfl 27 (.tmp 9) rfl g9 rfl 27 e2 (0, 0) _ D.out Try.underlying27 rfl HI2.out ?_) | (refine wpList_execgC (v := .agg e2) (w' := w7) rfl ?hl ?_; case hl => exact exec_load 27 (.tmp 9) rfl rfl D.out Try.underlying27 rfl HI2.out))
          refine (HB2.out _).mono ?_
          rintro e w8 ⟨rfl, bw⟩
          have B' := Lib.hid (B.out.trans (bw.mono B.out.size))
          have D' := Lib.hid (Blk.below D.out bw)
          clear bw B D
          have B := Lib.hid B'.out
          have D := Lib.hid D'.out
          clear B' D'
          have q3 := ((Blk.below X.out B.out).cell 1).trans HXX.out.2.1
          rw [← HXN.out] at q3
          go_upto_region 14 with (first
            | (refine wpList_load_row rfl 27 (.tmp 4) rfl w.heap.size rfl 27 cs (0, 0) _ (Blk.below X.out B.out) Try.underlying27 rfl HI.out ?_)
            | (refine wpList_store_row rfl 27 (.tmp 9) (.tmp 61) rfl g9 cs rfl rfl 27 e2 D.out HI.out HZ.out.2.1 HO.out ?_))
          obtain ⟨w9, hw⟩ : ∃ v, v = w8.setRow g9 cs := ⟨_, rfl⟩
          rw [← hw]
          have D' := Lib.hid (show Blk w9 g9 cs 27 from by rw [hw]; exact setRow_heap _ _ _ _ _ _ D.out)
          have B' := Lib.hid (show Below w0.heap.size w0 w9 from by rw [hw]; exact below_setRow B.out HG.out _)
          clear hw D B
          have D := Lib.hid D'.out
          have B := Lib.hid B'.out
          clear D' B'
          have cc := (D.out.cell 5).trans HXX.out.2.2
          have fz := blk_frozen D.out 5
          go_upto_region 15 with fail
          obtain ⟨w10, hw⟩ : ∃ v, v = w9.setCell ⟨g9, 5, none⟩ (.int .i64 bk) := ⟨_, rfl⟩
          rw [← hw]
          have D' := Lib.hid (show Blk w10 g9 e3 27 from by rw [hw, ← HSET3.out]; exact heap_setCell_same _ _ _ _ _ _ D.out)
          have B' := Lib.hid (show Below w0.heap.size w0 w10 from by rw [hw]; exact B.out.setCell HG.out _)
          clear cc fz hw D B
          have D := Lib.hid D'.out
          have B := Lib.hid B'.out
          clear D' B'
          go_wp2_with (first
            | (refine wpList_load_row rfl 27 (.tmp 4) rfl w.heap.size rfl 27 cs (0, 0) _ (Blk.below X.out B.out) Try.underlying27 rfl HI.out ?_))
          refine (HMO.out _).mono ?_
          rintro e w11 ⟨rfl, bw⟩
          have B' := Lib.hid (B.out.trans (bw.mono B.out.size))
          have D' := Lib.hid (Blk.below D.out bw)
          clear bw B D
          have B := Lib.hid B'.out
          have D := Lib.hid D'.out
          clear B' D'
          by_cases mo : x.kind = 1 ∨ x.kind = 2 ∨ x.kind = 3
          · rw [decide_eq_true mo]
            have hr3 : okCl y3 ↔ 0 ≤ bk ∧ bk ≤ 255 := by
              rw [HY3.out]
              exact fld_blk x bk OK.out mo
            have H3' := Lib.hid (show ∀ W, Calls Try.prog 15 #[.agg e3] W (RetB (.bool (decide (0 ≤ bk ∧ bk ≤ 255))) W) from fun W => by rw [← decide_iff hr3]; exact H3.out W)
            clear hr3 mo
            go_wp2_with (first
              | (refine wpList_load_row rfl 27 (.tmp 9) rfl g9 rfl 27 e3 (0, 0) _ D.out Try.underlying27 rfl HI3.out ?_))
            refine (H3'.out _).mono ?_
            rintro e w12 ⟨rfl, bw⟩
            have B' := Lib.hid (B.out.trans (bw.mono B.out.size))
            have D' := Lib.hid (Blk.below D.out bw)
            clear bw B D
            have B := Lib.hid B'.out
            have D := Lib.hid D'.out
            clear B' D'
            by_cases m3 : 0 ≤ bk
            rotate_left
            · rw [decide_eq_false (fun h => m3 h.1)]
              have z1 : decide (bk ≥ 0) = false := decide_eq_false (by omega)
              have z2 : decide (0 ≤ bk) = false := decide_eq_false m3
              go_wp2_with fail
              all_goals go_ret
              all_goals exact ⟨rfl, BW.out.trans (B.out.mono BW.out.size)⟩
            by_cases m4 : bk ≤ 255
            · rw [decide_eq_true ⟨m3, m4⟩]
              have z1 : decide (bk ≥ 0) = true := decide_eq_true (by omega)
              have z2 : decide (0 ≤ bk) = true := decide_eq_true m3
              have z3 : decide (bk ≤ 255) = true := decide_eq_true m4
              go_wp2_with fail
              all_goals go_ret
              all_goals exact ⟨rfl, BW.out.trans (B.out.mono BW.out.size)⟩
            · rw [decide_eq_false (fun h => m4 h.2)]
              have z1 : decide (bk ≥ 0) = true := decide_eq_true (by omega)
              have z2 : decide (0 ≤ bk) = true := decide_eq_true m3
              have z3 : decide (bk ≤ 255) = false := decide_eq_false m4
              go_wp2_with fail
              all_goals go_ret
              all_goals exact ⟨rfl, BW.out.trans (B.out.mono BW.out.size)⟩
          · rw [decide_eq_false mo]
            have hr3 : okCl y3 ↔ bk = 0 := by
              rw [HY3.out]
              exact fld_blk0 x bk OK.out mo
            have H3' := Lib.hid (show ∀ W, Calls Try.prog 15 #[.agg e3] W (RetB (.bool (decide (bk = 0))) W) from fun W => by rw [← decide_iff hr3]; exact H3.out W)
            clear hr3 mo
            go_wp2_with (first
              | (refine wpList_load_row rfl 27 (.tmp 9) rfl g9 rfl 27 e3 (0, 0) _ D.out Try.underlying27 rfl HI3.out ?_))
            refine (H3'.out _).mono ?_
            rintro e w12 ⟨rfl, bw⟩
            have B' := Lib.hid (B.out.trans (bw.mono B.out.size))
            have D' := Lib.hid (Blk.below D.out bw)
            clear bw B D
            have B := Lib.hid B'.out
            have D := Lib.hid D'.out
            clear B' D'
            by_cases m3 : bk = 0
            · rw [decide_eq_true m3]
              have z1 : (bk == 0) = true := by simpa using m3
              go_wp2_with fail
              all_goals go_ret
              all_goals exact ⟨rfl, BW.out.trans (B.out.mono BW.out.size)⟩
            · rw [decide_eq_false m3]
              have z1 : (bk == 0) = false := by simpa using m3
              go_wp2_with fail
              all_goals go_ret
              all_goals exact ⟨rfl, BW.out.trans (B.out.mono BW.out.size)⟩
      · have n4 : decide ((NU : Int) < 1) = false := decide_eq_false (by omega)
        have n4b : decide (NU < 1) = false := decide_eq_false (by omega)
        have n5 : decide ((65535 : Int) < (NU : Int)) = false := decide_eq_false (by omega)
        have n5b : decide (65535 < NU) = false := decide_eq_false (by omega)
        have n6 : decide ((NU : Int) ≤ 65535) = true := decide_eq_true (by omega)
        have n7 : decide (NU ≤ 65535) = true := decide_eq_true (by omega)
        have n8 : decide ((NU : Int) ≥ (xn : Int)) = decide (xn ≤ NU) := decide_iff (by omega)
        by_cases c3 : xn ≤ NU
        · have n9 : decide (xn ≤ NU) = true := decide_eq_true c3
          rw [n9] at n8
          have h2 : ∀ W, Calls Try.prog 15 #[.agg e2] W (RetB (.bool true) W) := fun W => by have h := H2.out W; rw [decide_eq_true (hgood c3 (by omega))] at h; exact h
          have HB2 := Lib.hid h2
          clear h2 hbad hgood hxn c1 c2 c3 hx1
          go_wp2_with (first | (refine wpList_load_row rfl 27 (.tmp 9) rfl g9 rfl 27 e2 (0, 0) _ D.out Try.underlying27 rfl HI2.out ?_) | (refine wpList_execgC (v := .agg e2) (w' := w7) rfl ?hl ?_; case hl => exact exec_load 27 (.tmp 9) rfl rfl D.out Try.underlying27 rfl HI2.out))
          refine (HB2.out _).mono ?_
          rintro e w8 ⟨rfl, bw⟩
          have B' := Lib.hid (B.out.trans (bw.mono B.out.size))
          have D' := Lib.hid (Blk.below D.out bw)
          clear bw B D
          have B := Lib.hid B'.out
          have D := Lib.hid D'.out
          clear B' D'
          have q3 := ((Blk.below X.out B.out).cell 1).trans HXX.out.2.1
          rw [← HXN.out] at q3
          go_upto_region 14 with (first
            | (refine wpList_load_row rfl 27 (.tmp 4) rfl w.heap.size rfl 27 cs (0, 0) _ (Blk.below X.out B.out) Try.underlying27 rfl HI.out ?_)
            | (refine wpList_store_row rfl 27 (.tmp 9) (.tmp 61) rfl g9 cs rfl rfl 27 e2 D.out HI.out HZ.out.2.1 HO.out ?_))
          obtain ⟨w9, hw⟩ : ∃ v, v = w8.setRow g9 cs := ⟨_, rfl⟩
          rw [← hw]
          have D' := Lib.hid (show Blk w9 g9 cs 27 from by rw [hw]; exact setRow_heap _ _ _ _ _ _ D.out)
          have B' := Lib.hid (show Below w0.heap.size w0 w9 from by rw [hw]; exact below_setRow B.out HG.out _)
          clear hw D B
          have D := Lib.hid D'.out
          have B := Lib.hid B'.out
          clear D' B'
          have cc := (D.out.cell 5).trans HXX.out.2.2
          have fz := blk_frozen D.out 5
          go_upto_region 15 with fail
          obtain ⟨w10, hw⟩ : ∃ v, v = w9.setCell ⟨g9, 5, none⟩ (.int .i64 bk) := ⟨_, rfl⟩
          rw [← hw]
          have D' := Lib.hid (show Blk w10 g9 e3 27 from by rw [hw, ← HSET3.out]; exact heap_setCell_same _ _ _ _ _ _ D.out)
          have B' := Lib.hid (show Below w0.heap.size w0 w10 from by rw [hw]; exact B.out.setCell HG.out _)
          clear cc fz hw D B
          have D := Lib.hid D'.out
          have B := Lib.hid B'.out
          clear D' B'
          go_wp2_with (first
            | (refine wpList_load_row rfl 27 (.tmp 4) rfl w.heap.size rfl 27 cs (0, 0) _ (Blk.below X.out B.out) Try.underlying27 rfl HI.out ?_))
          refine (HMO.out _).mono ?_
          rintro e w11 ⟨rfl, bw⟩
          have B' := Lib.hid (B.out.trans (bw.mono B.out.size))
          have D' := Lib.hid (Blk.below D.out bw)
          clear bw B D
          have B := Lib.hid B'.out
          have D := Lib.hid D'.out
          clear B' D'
          by_cases mo : x.kind = 1 ∨ x.kind = 2 ∨ x.kind = 3
          · rw [decide_eq_true mo]
            have hr3 : okCl y3 ↔ 0 ≤ bk ∧ bk ≤ 255 := by
              rw [HY3.out]
              exact fld_blk x bk OK.out mo
            have H3' := Lib.hid (show ∀ W, Calls Try.prog 15 #[.agg e3] W (RetB (.bool (decide (0 ≤ bk ∧ bk ≤ 255))) W) from fun W => by rw [← decide_iff hr3]; exact H3.out W)
            clear hr3 mo
            go_wp2_with (first
              | (refine wpList_load_row rfl 27 (.tmp 9) rfl g9 rfl 27 e3 (0, 0) _ D.out Try.underlying27 rfl HI3.out ?_))
            refine (H3'.out _).mono ?_
            rintro e w12 ⟨rfl, bw⟩
            have B' := Lib.hid (B.out.trans (bw.mono B.out.size))
            have D' := Lib.hid (Blk.below D.out bw)
            clear bw B D
            have B := Lib.hid B'.out
            have D := Lib.hid D'.out
            clear B' D'
            by_cases m3 : 0 ≤ bk
            rotate_left
            · rw [decide_eq_false (fun h => m3 h.1)]
              have z1 : decide (bk ≥ 0) = false := decide_eq_false (by omega)
              have z2 : decide (0 ≤ bk) = false := decide_eq_false m3
              go_wp2_with fail
              all_goals go_ret
              all_goals exact ⟨rfl, BW.out.trans (B.out.mono BW.out.size)⟩
            by_cases m4 : bk ≤ 255
            · rw [decide_eq_true ⟨m3, m4⟩]
              have z1 : decide (bk ≥ 0) = true := decide_eq_true (by omega)
              have z2 : decide (0 ≤ bk) = true := decide_eq_true m3
              have z3 : decide (bk ≤ 255) = true := decide_eq_true m4
              go_wp2_with fail
              all_goals go_ret
              all_goals exact ⟨rfl, BW.out.trans (B.out.mono BW.out.size)⟩
            · rw [decide_eq_false (fun h => m4 h.2)]
              have z1 : decide (bk ≥ 0) = true := decide_eq_true (by omega)
              have z2 : decide (0 ≤ bk) = true := decide_eq_true m3
              have z3 : decide (bk ≤ 255) = false := decide_eq_false m4
              go_wp2_with fail
              all_goals go_ret
              all_goals exact ⟨rfl, BW.out.trans (B.out.mono BW.out.size)⟩
          · rw [decide_eq_false mo]
            have hr3 : okCl y3 ↔ bk = 0 := by
              rw [HY3.out]
              exact fld_blk0 x bk OK.out mo
            have H3' := Lib.hid (show ∀ W, Calls Try.prog 15 #[.agg e3] W (RetB (.bool (decide (bk = 0))) W) from fun W => by rw [← decide_iff hr3]; exact H3.out W)
            clear hr3 mo
            go_wp2_with (first
              | (refine wpList_load_row rfl 27 (.tmp 9) rfl g9 rfl 27 e3 (0, 0) _ D.out Try.underlying27 rfl HI3.out ?_))
            refine (H3'.out _).mono ?_
            rintro e w12 ⟨rfl, bw⟩
            have B' := Lib.hid (B.out.trans (bw.mono B.out.size))
            have D' := Lib.hid (Blk.below D.out bw)
            clear bw B D
            have B := Lib.hid B'.out
            have D := Lib.hid D'.out
            clear B' D'
            by_cases m3 : bk = 0
            · rw [decide_eq_true m3]
              have z1 : (bk == 0) = true := by simpa using m3
              go_wp2_with fail
              all_goals go_ret
              all_goals exact ⟨rfl, BW.out.trans (B.out.mono BW.out.size)⟩
            · rw [decide_eq_false m3]
              have z1 : (bk == 0) = false := by simpa using m3
              go_wp2_with fail
              all_goals go_ret
              all_goals exact ⟨rfl, BW.out.trans (B.out.mono BW.out.size)⟩
        · have n9 : decide (xn ≤ NU) = false := decide_eq_false c3
          rw [n9] at n8
          clear hbad hgood hxn c1 c2 c3 hx1
          go_upto_region 14 with (first
            | (refine wpList_load_row rfl 27 (.tmp 4) rfl w.heap.size rfl 27 cs (0, 0) _ (Blk.below X.out B.out) Try.underlying27 rfl HI.out ?_)
            | (refine wpList_store_row rfl 27 (.tmp 9) (.tmp 61) rfl g9 cs rfl rfl 27 e2 D.out HI.out HZ.out.2.1 HO.out ?_))
          obtain ⟨w9, hw⟩ : ∃ v, v = w7.setRow g9 cs := ⟨_, rfl⟩
          rw [← hw]
          have D' := Lib.hid (show Blk w9 g9 cs 27 from by rw [hw]; exact setRow_heap _ _ _ _ _ _ D.out)
          have B' := Lib.hid (show Below w0.heap.size w0 w9 from by rw [hw]; exact below_setRow B.out HG.out _)
          clear hw D B
          have D := Lib.hid D'.out
          have B := Lib.hid B'.out
          clear D' B'
          have cc := (D.out.cell 5).trans HXX.out.2.2
          have fz := blk_frozen D.out 5
          go_upto_region 15 with fail
          obtain ⟨w10, hw⟩ : ∃ v, v = w9.setCell ⟨g9, 5, none⟩ (.int .i64 bk) := ⟨_, rfl⟩
          rw [← hw]
          have D' := Lib.hid (show Blk w10 g9 e3 27 from by rw [hw, ← HSET3.out]; exact heap_setCell_same _ _ _ _ _ _ D.out)
          have B' := Lib.hid (show Below w0.heap.size w0 w10 from by rw [hw]; exact B.out.setCell HG.out _)
          clear cc fz hw D B
          have D := Lib.hid D'.out
          have B := Lib.hid B'.out
          clear D' B'
          go_wp2_with (first
            | (refine wpList_load_row rfl 27 (.tmp 4) rfl w.heap.size rfl 27 cs (0, 0) _ (Blk.below X.out B.out) Try.underlying27 rfl HI.out ?_))
          refine (HMO.out _).mono ?_
          rintro e w11 ⟨rfl, bw⟩
          have B' := Lib.hid (B.out.trans (bw.mono B.out.size))
          have D' := Lib.hid (Blk.below D.out bw)
          clear bw B D
          have B := Lib.hid B'.out
          have D := Lib.hid D'.out
          clear B' D'
          by_cases mo : x.kind = 1 ∨ x.kind = 2 ∨ x.kind = 3
          · rw [decide_eq_true mo]
            have hr3 : okCl y3 ↔ 0 ≤ bk ∧ bk ≤ 255 := by
              rw [HY3.out]
              exact fld_blk x bk OK.out mo
            have H3' := Lib.hid (show ∀ W, Calls Try.prog 15 #[.agg e3] W (RetB (.bool (decide (0 ≤ bk ∧ bk ≤ 255))) W) from fun W => by rw [← decide_iff hr3]; exact H3.out W)
            clear hr3 mo
            go_wp2_with (first
              | (refine wpList_load_row rfl 27 (.tmp 9) rfl g9 rfl 27 e3 (0, 0) _ D.out Try.underlying27 rfl HI3.out ?_))
            refine (H3'.out _).mono ?_
            rintro e w12 ⟨rfl, bw⟩
            have B' := Lib.hid (B.out.trans (bw.mono B.out.size))
            have D' := Lib.hid (Blk.below D.out bw)
            clear bw B D
            have B := Lib.hid B'.out
            have D := Lib.hid D'.out
            clear B' D'
            by_cases m3 : 0 ≤ bk
            rotate_left
            · rw [decide_eq_false (fun h => m3 h.1)]
              have z1 : decide (bk ≥ 0) = false := decide_eq_false (by omega)
              have z2 : decide (0 ≤ bk) = false := decide_eq_false m3
              go_wp2_with fail
              all_goals go_ret
              all_goals exact ⟨rfl, BW.out.trans (B.out.mono BW.out.size)⟩
            by_cases m4 : bk ≤ 255
            · rw [decide_eq_true ⟨m3, m4⟩]
              have z1 : decide (bk ≥ 0) = true := decide_eq_true (by omega)
              have z2 : decide (0 ≤ bk) = true := decide_eq_true m3
              have z3 : decide (bk ≤ 255) = true := decide_eq_true m4
              go_wp2_with fail
              all_goals go_ret
              all_goals exact ⟨rfl, BW.out.trans (B.out.mono BW.out.size)⟩
            · rw [decide_eq_false (fun h => m4 h.2)]
              have z1 : decide (bk ≥ 0) = true := decide_eq_true (by omega)
              have z2 : decide (0 ≤ bk) = true := decide_eq_true m3
              have z3 : decide (bk ≤ 255) = false := decide_eq_false m4
              go_wp2_with fail
              all_goals go_ret
              all_goals exact ⟨rfl, BW.out.trans (B.out.mono BW.out.size)⟩
          · rw [decide_eq_false mo]
            have hr3 : okCl y3 ↔ bk = 0 := by
              rw [HY3.out]
              exact fld_blk0 x bk OK.out mo
            have H3' := Lib.hid (show ∀ W, Calls Try.prog 15 #[.agg e3] W (RetB (.bool (decide (bk = 0))) W) from fun W => by rw [← decide_iff hr3]; exact H3.out W)
            clear hr3 mo
            go_wp2_with (first
              | (refine wpList_load_row rfl 27 (.tmp 9) rfl g9 rfl 27 e3 (0, 0) _ D.out Try.underlying27 rfl HI3.out ?_))
            refine (H3'.out _).mono ?_
            rintro e w12 ⟨rfl, bw⟩
            have B' := Lib.hid (B.out.trans (bw.mono B.out.size))
            have D' := Lib.hid (Blk.below D.out bw)
            clear bw B D
            have B := Lib.hid B'.out
            have D := Lib.hid D'.out
            clear B' D'
            by_cases m3 : bk = 0
            · rw [decide_eq_true m3]
              have z1 : (bk == 0) = true := by simpa using m3
              go_wp2_with fail
              all_goals go_ret
              all_goals exact ⟨rfl, BW.out.trans (B.out.mono BW.out.size)⟩
            · rw [decide_eq_false m3]
              have z1 : (bk == 0) = false := by simpa using m3
              go_wp2_with fail
              all_goals go_ret
              all_goals exact ⟨rfl, BW.out.trans (B.out.mono BW.out.size)⟩
    by_cases m2 : mn ≤ 1073741824
    · rw [decide_eq_true ⟨m1, m2⟩]
      have n1 : decide (mn ≥ 0) = true := decide_eq_true (by omega)
      have n2 : decide (0 ≤ mn) = true := decide_eq_true m1
      have n3 : decide (mn ≤ 1073741824) = true := decide_eq_true m2
      go_upto_region 10 with (first
        | (refine wpList_load_row rfl 27 (.tmp 4) rfl w.heap.size rfl 27 cs (0, 0) _ (Blk.below X.out B.out) Try.underlying27 rfl HI.out ?_)
        | (refine wpList_store_row rfl 27 (.tmp 9) (.tmp 33) rfl g9 cs rfl rfl 27 e1 D.out HI.out HZ.out.1 HO.out ?_))
      obtain ⟨w6, hw⟩ : ∃ v, v = w5.setRow g9 cs := ⟨_, rfl⟩
      rw [← hw]
      have D' := Lib.hid (show Blk w6 g9 cs 27 from by rw [hw]; exact setRow_heap _ _ _ _ _ _ D.out)
      have B' := Lib.hid (show Below w0.heap.size w0 w6 from by rw [hw]; exact below_setRow B.out HG.out _)
      clear hw D B
      have D := Lib.hid D'.out
      have B := Lib.hid B'.out
      clear D' B'
      have cc := (D.out.cell 1).trans HXX.out.2.1
      have fz := blk_frozen D.out 1
      go_upto_region 11 with fail
      obtain ⟨w7, hw⟩ : ∃ v, v = w6.setCell ⟨g9, 1, none⟩ (.int .u64 (NU : Int)) := ⟨_, rfl⟩
      rw [← hw]
      have D' := Lib.hid (show Blk w7 g9 e2 27 from by rw [hw, ← HSET2.out]; exact heap_setCell_same _ _ _ _ _ _ D.out)
      have B' := Lib.hid (show Below w0.heap.size w0 w7 from by rw [hw]; exact B.out.setCell HG.out _)
      clear cc fz hw D B
      have D := Lib.hid D'.out
      have B := Lib.hid B'.out
      clear D' B'
      have hbad : ¬ (1 ≤ NU ∧ NU ≤ 65535) → ¬ okCl y2 := fun h g => by rw [HY2.out] at g; exact h g.1
      have hgood : x.num ≤ NU → NU ≤ 65535 → okCl y2 := fun h g => by
        rw [HY2.out]
        exact fld_num x NU OK.out h g
      obtain ⟨xn, hxn⟩ : ∃ n, n = x.num := ⟨_, rfl⟩
      have hx1 : 1 ≤ xn := by rw [hxn]; exact OK.out.1.1
      rw [← hxn] at hgood
      have q1 := (Blk.below X.out B.out).cell 1
      have q2 := q1.trans HXX.out.2.1
      rw [← hxn] at q2
      have HXN := Lib.hid hxn
      clear q1
      by_cases c1 : NU < 1
      · have n4 : decide ((NU : Int) < 1) = true := decide_eq_true (by omega)
        have n5 : decide (NU < 1) = true := decide_eq_true c1
        have n6 : decide ((NU : Int) ≥ (xn : Int)) = false := decide_eq_false (by omega)
        have n7 : decide (xn ≤ NU) = false := decide_eq_false (by omega)
        have h2 : ∀ W, Calls Try.prog 15 #[.agg e2] W (RetB (.bool false) W) := fun W => by have h := H2.out W; rw [decide_eq_false (hbad (by omega))] at h; exact h
        have HB2 := Lib.hid h2
        clear h2 hbad hgood hxn c1 hx1
        go_wp2_with (first | (refine wpList_load_row rfl 27 (.tmp 9) rfl g9 rfl 27 e2 (0, 0) _ D.out Try.underlying27 rfl HI2.out ?_) | (refine wpList_execgC (v := .agg e2) (w' := w7) rfl ?hl ?_; case hl => exact exec_load 27 (.tmp 9) rfl rfl D.out Try.underlying27 rfl HI2.out))
        refine (HB2.out _).mono ?_
        rintro e w8 ⟨rfl, bw⟩
        have B' := Lib.hid (B.out.trans (bw.mono B.out.size))
        have D' := Lib.hid (Blk.below D.out bw)
        clear bw B D
        have B := Lib.hid B'.out
        have D := Lib.hid D'.out
        clear B' D'
        have q3 := ((Blk.below X.out B.out).cell 1).trans HXX.out.2.1
        rw [← HXN.out] at q3
        go_upto_region 14 with (first
          | (refine wpList_load_row rfl 27 (.tmp 4) rfl w.heap.size rfl 27 cs (0, 0) _ (Blk.below X.out B.out) Try.underlying27 rfl HI.out ?_)
          | (refine wpList_store_row rfl 27 (.tmp 9) (.tmp 61) rfl g9 cs rfl rfl 27 e2 D.out HI.out HZ.out.2.1 HO.out ?_))
        obtain ⟨w9, hw⟩ : ∃ v, v = w8.setRow g9 cs := ⟨_, rfl⟩
        rw [← hw]
        have D' := Lib.hid (show Blk w9 g9 cs 27 from by rw [hw]; exact setRow_heap _ _ _ _ _ _ D.out)
        have B' := Lib.hid (show Below w0.heap.size w0 w9 from by rw [hw]; exact below_setRow B.out HG.out _)
        clear hw D B
        have D := Lib.hid D'.out
        have B := Lib.hid B'.out
        clear D' B'
        have cc := (D.out.cell 5).trans HXX.out.2.2
        have fz := blk_frozen D.out 5
        go_upto_region 15 with fail
        obtain ⟨w10, hw⟩ : ∃ v, v = w9.setCell ⟨g9, 5, none⟩ (.int .i64 bk) := ⟨_, rfl⟩
        rw [← hw]
        have D' := Lib.hid (show Blk w10 g9 e3 27 from by rw [hw, ← HSET3.out]; exact heap_setCell_same _ _ _ _ _ _ D.out)
        have B' := Lib.hid (show Below w0.heap.size w0 w10 from by rw [hw]; exact B.out.setCell HG.out _)
        clear cc fz hw D B
        have D := Lib.hid D'.out
        have B := Lib.hid B'.out
        clear D' B'
        go_wp2_with (first
          | (refine wpList_load_row rfl 27 (.tmp 4) rfl w.heap.size rfl 27 cs (0, 0) _ (Blk.below X.out B.out) Try.underlying27 rfl HI.out ?_))
        refine (HMO.out _).mono ?_
        rintro e w11 ⟨rfl, bw⟩
        have B' := Lib.hid (B.out.trans (bw.mono B.out.size))
        have D' := Lib.hid (Blk.below D.out bw)
        clear bw B D
        have B := Lib.hid B'.out
        have D := Lib.hid D'.out
        clear B' D'
        by_cases mo : x.kind = 1 ∨ x.kind = 2 ∨ x.kind = 3
        · rw [decide_eq_true mo]
          have hr3 : okCl y3 ↔ 0 ≤ bk ∧ bk ≤ 255 := by
            rw [HY3.out]
            exact fld_blk x bk OK.out mo
          have H3' := Lib.hid (show ∀ W, Calls Try.prog 15 #[.agg e3] W (RetB (.bool (decide (0 ≤ bk ∧ bk ≤ 255))) W) from fun W => by rw [← decide_iff hr3]; exact H3.out W)
          clear hr3 mo
          go_wp2_with (first
            | (refine wpList_load_row rfl 27 (.tmp 9) rfl g9 rfl 27 e3 (0, 0) _ D.out Try.underlying27 rfl HI3.out ?_))
          refine (H3'.out _).mono ?_
          rintro e w12 ⟨rfl, bw⟩
          have B' := Lib.hid (B.out.trans (bw.mono B.out.size))
          have D' := Lib.hid (Blk.below D.out bw)
          clear bw B D
          have B := Lib.hid B'.out
          have D := Lib.hid D'.out
          clear B' D'
          by_cases m3 : 0 ≤ bk
          rotate_left
          · rw [decide_eq_false (fun h => m3 h.1)]
            have z1 : decide (bk ≥ 0) = false := decide_eq_false (by omega)
            have z2 : decide (0 ≤ bk) = false := decide_eq_false m3
            go_wp2_with fail
            all_goals go_ret
            all_goals exact ⟨rfl, BW.out.trans (B.out.mono BW.out.size)⟩
          by_cases m4 : bk ≤ 255
          · rw [decide_eq_true ⟨m3, m4⟩]
            have z1 : decide (bk ≥ 0) = true := decide_eq_true (by omega)
            have z2 : decide (0 ≤ bk) = true := decide_eq_true m3
            have z3 : decide (bk ≤ 255) = true := decide_eq_true m4
            go_wp2_with fail
            all_goals go_ret
            all_goals exact ⟨rfl, BW.out.trans (B.out.mono BW.out.size)⟩
          · rw [decide_eq_false (fun h => m4 h.2)]
            have z1 : decide (bk ≥ 0) = true := decide_eq_true (by omega)
            have z2 : decide (0 ≤ bk) = true := decide_eq_true m3
            have z3 : decide (bk ≤ 255) = false := decide_eq_false m4
            go_wp2_with fail
            all_goals go_ret
            all_goals exact ⟨rfl, BW.out.trans (B.out.mono BW.out.size)⟩
        · rw [decide_eq_false mo]
          have hr3 : okCl y3 ↔ bk = 0 := by
            rw [HY3.out]
            exact fld_blk0 x bk OK.out mo
          have H3' := Lib.hid (show ∀ W, Calls Try.prog 15 #[.agg e3] W (RetB (.bool (decide (bk = 0))) W) from fun W => by rw [← decide_iff hr3]; exact H3.out W)
          clear hr3 mo
          go_wp2_with (first
            | (refine wpList_load_row rfl 27 (.tmp 9) rfl g9 rfl 27 e3 (0, 0) _ D.out Try.underlying27 rfl HI3.out ?_))
          refine (H3'.out _).mono ?_
          rintro e w12 ⟨rfl, bw⟩
          have B' := Lib.hid (B.out.trans (bw.mono B.out.size))
          have D' := Lib.hid (Blk.below D.out bw)
          clear bw B D
          have B := Lib.hid B'.out
          have D := Lib.hid D'.out
          clear B' D'
          by_cases m3 : bk = 0
          · rw [decide_eq_true m3]
            have z1 : (bk == 0) = true := by simpa using m3
            go_wp2_with fail
            all_goals go_ret
            all_goals exact ⟨rfl, BW.out.trans (B.out.mono BW.out.size)⟩
          · rw [decide_eq_false m3]
            have z1 : (bk == 0) = false := by simpa using m3
            go_wp2_with fail
            all_goals go_ret
            all_goals exact ⟨rfl, BW.out.trans (B.out.mono BW.out.size)⟩
      by_cases c2 : 65535 < NU
      · have n4 : decide ((NU : Int) < 1) = false := decide_eq_false (by omega)
        have n4b : decide (NU < 1) = false := decide_eq_false (by omega)
        have n5 : decide ((65535 : Int) < (NU : Int)) = true := decide_eq_true (by omega)
        have n5b : decide (65535 < NU) = true := decide_eq_true c2
        have n6 : decide ((NU : Int) ≤ 65535) = false := decide_eq_false (by omega)
        have n7 : decide (NU ≤ 65535) = false := decide_eq_false (by omega)
        have n8 : decide ((NU : Int) ≥ (xn : Int)) = decide (xn ≤ NU) := decide_iff (by omega)
        have h2 : ∀ W, Calls Try.prog 15 #[.agg e2] W (RetB (.bool false) W) := fun W => by have h := H2.out W; rw [decide_eq_false (hbad (by omega))] at h; exact h
        have HB2 := Lib.hid h2
        clear h2 hbad hgood hxn c1 c2 hx1
        by_cases c3 : xn ≤ NU
        · have n9 : decide (xn ≤ NU) = true := decide_eq_true c3
          rw [n9] at n8
          clear c3
          go_wp2_with (first | (refine wpList_load_row rfl 27 (.tmp 9) rfl g9 rfl 27 e2 (0, 0) _ D.out Try.underlying27 rfl HI2.out ?_) | (refine wpList_execgC (v := .agg e2) (w' := w7) rfl ?hl ?_; case hl => exact exec_load 27 (.tmp 9) rfl rfl D.out Try.underlying27 rfl HI2.out))
          refine (HB2.out _).mono ?_
          rintro e w8 ⟨rfl, bw⟩
          have B' := Lib.hid (B.out.trans (bw.mono B.out.size))
          have D' := Lib.hid (Blk.below D.out bw)
          clear bw B D
          have B := Lib.hid B'.out
          have D := Lib.hid D'.out
          clear B' D'
          have q3 := ((Blk.below X.out B.out).cell 1).trans HXX.out.2.1
          rw [← HXN.out] at q3
          go_upto_region 14 with (first
            | (refine wpList_load_row rfl 27 (.tmp 4) rfl w.heap.size rfl 27 cs (0, 0) _ (Blk.below X.out B.out) Try.underlying27 rfl HI.out ?_)
            | (refine wpList_store_row rfl 27 (.tmp 9) (.tmp 61) rfl g9 cs rfl rfl 27 e2 D.out HI.out HZ.out.2.1 HO.out ?_))
          obtain ⟨w9, hw⟩ : ∃ v, v = w8.setRow g9 cs := ⟨_, rfl⟩
          rw [← hw]
          have D' := Lib.hid (show Blk w9 g9 cs 27 from by rw [hw]; exact setRow_heap _ _ _ _ _ _ D.out)
          have B' := Lib.hid (show Below w0.heap.size w0 w9 from by rw [hw]; exact below_setRow B.out HG.out _)
          clear hw D B
          have D := Lib.hid D'.out
          have B := Lib.hid B'.out
          clear D' B'
          have cc := (D.out.cell 5).trans HXX.out.2.2
          have fz := blk_frozen D.out 5
          go_upto_region 15 with fail
          obtain ⟨w10, hw⟩ : ∃ v, v = w9.setCell ⟨g9, 5, none⟩ (.int .i64 bk) := ⟨_, rfl⟩
          rw [← hw]
          have D' := Lib.hid (show Blk w10 g9 e3 27 from by rw [hw, ← HSET3.out]; exact heap_setCell_same _ _ _ _ _ _ D.out)
          have B' := Lib.hid (show Below w0.heap.size w0 w10 from by rw [hw]; exact B.out.setCell HG.out _)
          clear cc fz hw D B
          have D := Lib.hid D'.out
          have B := Lib.hid B'.out
          clear D' B'
          go_wp2_with (first
            | (refine wpList_load_row rfl 27 (.tmp 4) rfl w.heap.size rfl 27 cs (0, 0) _ (Blk.below X.out B.out) Try.underlying27 rfl HI.out ?_))
          refine (HMO.out _).mono ?_
          rintro e w11 ⟨rfl, bw⟩
          have B' := Lib.hid (B.out.trans (bw.mono B.out.size))
          have D' := Lib.hid (Blk.below D.out bw)
          clear bw B D
          have B := Lib.hid B'.out
          have D := Lib.hid D'.out
          clear B' D'
          by_cases mo : x.kind = 1 ∨ x.kind = 2 ∨ x.kind = 3
          · rw [decide_eq_true mo]
            have hr3 : okCl y3 ↔ 0 ≤ bk ∧ bk ≤ 255 := by
              rw [HY3.out]
              exact fld_blk x bk OK.out mo
            have H3' := Lib.hid (show ∀ W, Calls Try.prog 15 #[.agg e3] W (RetB (.bool (decide (0 ≤ bk ∧ bk ≤ 255))) W) from fun W => by rw [← decide_iff hr3]; exact H3.out W)
            clear hr3 mo
            go_wp2_with (first
              | (refine wpList_load_row rfl 27 (.tmp 9) rfl g9 rfl 27 e3 (0, 0) _ D.out Try.underlying27 rfl HI3.out ?_))
            refine (H3'.out _).mono ?_
            rintro e w12 ⟨rfl, bw⟩
            have B' := Lib.hid (B.out.trans (bw.mono B.out.size))
            have D' := Lib.hid (Blk.below D.out bw)
            clear bw B D
            have B := Lib.hid B'.out
            have D := Lib.hid D'.out
            clear B' D'
            by_cases m3 : 0 ≤ bk
            rotate_left
            · rw [decide_eq_false (fun h => m3 h.1)]
              have z1 : decide (bk ≥ 0) = false := decide_eq_false (by omega)
              have z2 : decide (0 ≤ bk) = false := decide_eq_false m3
              go_wp2_with fail
              all_goals go_ret
              all_goals exact ⟨rfl, BW.out.trans (B.out.mono BW.out.size)⟩
            by_cases m4 : bk ≤ 255
            · rw [decide_eq_true ⟨m3, m4⟩]
              have z1 : decide (bk ≥ 0) = true := decide_eq_true (by omega)
              have z2 : decide (0 ≤ bk) = true := decide_eq_true m3
              have z3 : decide (bk ≤ 255) = true := decide_eq_true m4
              go_wp2_with fail
              all_goals go_ret
              all_goals exact ⟨rfl, BW.out.trans (B.out.mono BW.out.size)⟩
            · rw [decide_eq_false (fun h => m4 h.2)]
              have z1 : decide (bk ≥ 0) = true := decide_eq_true (by omega)
              have z2 : decide (0 ≤ bk) = true := decide_eq_true m3
              have z3 : decide (bk ≤ 255) = false := decide_eq_false m4
              go_wp2_with fail
              all_goals go_ret
              all_goals exact ⟨rfl, BW.out.trans (B.out.mono BW.out.size)⟩
          · rw [decide_eq_false mo]
            have hr3 : okCl y3 ↔ bk = 0 := by
              rw [HY3.out]
              exact fld_blk0 x bk OK.out mo
            have H3' := Lib.hid (show ∀ W, Calls Try.prog 15 #[.agg e3] W (RetB (.bool (decide (bk = 0))) W) from fun W => by rw [← decide_iff hr3]; exact H3.out W)
            clear hr3 mo
            go_wp2_with (first
              | (refine wpList_load_row rfl 27 (.tmp 9) rfl g9 rfl 27 e3 (0, 0) _ D.out Try.underlying27 rfl HI3.out ?_))
            refine (H3'.out _).mono ?_
            rintro e w12 ⟨rfl, bw⟩
            have B' := Lib.hid (B.out.trans (bw.mono B.out.size))
            have D' := Lib.hid (Blk.below D.out bw)
            clear bw B D
            have B := Lib.hid B'.out
            have D := Lib.hid D'.out
            clear B' D'
            by_cases m3 : bk = 0
            · rw [decide_eq_true m3]
              have z1 : (bk == 0) = true := by simpa using m3
              go_wp2_with fail
              all_goals go_ret
              all_goals exact ⟨rfl, BW.out.trans (B.out.mono BW.out.size)⟩
            · rw [decide_eq_false m3]
              have z1 : (bk == 0) = false := by simpa using m3
              go_wp2_with fail
              all_goals go_ret
              all_goals exact ⟨rfl, BW.out.trans (B.out.mono BW.out.size)⟩
        · have n9 : decide (xn ≤ NU) = false := decide_eq_false c3
          rw [n9] at n8
          clear c3
          go_wp2_with (first | (refine wpList_load_row rfl 27 (.tmp 9) rfl g9 rfl 27 e2 (0, 0) _ D.out Try.underlying27 rfl HI2.out ?_) | (refine wpList_execgC (v := .agg e2) (w' := w7) rfl ?hl ?_; case hl => exact exec_load 27 (.tmp 9) rfl rfl D.out Try.underlying27 rfl HI2.out))
          refine (HB2.out _).mono ?_
          rintro e w8 ⟨rfl, bw⟩
          have B' := Lib.hid (B.out.trans (bw.mono B.out.size))
          have D' := Lib.hid (Blk.below D.out bw)
          clear bw B D
          have B := Lib.hid B'.out
          have D := Lib.hid D'.out
          clear B' D'
          have q3 := ((Blk.below X.out B.out).cell 1).trans HXX.out.2.1
          rw [← HXN.out] at q3
          go_upto_region 14 with (first
            | (refine wpList_load_row rfl 27 (.tmp 4) rfl w.heap.size rfl 27 cs (0, 0) _ (Blk.below X.out B.out) Try.underlying27 rfl HI.out ?_)
            | (refine wpList_store_row rfl 27 (.tmp 9) (.tmp 61) rfl g9 cs rfl rfl 27 e2 D.out HI.out HZ.out.2.1 HO.out ?_))
          obtain ⟨w9, hw⟩ : ∃ v, v = w8.setRow g9 cs := ⟨_, rfl⟩
          rw [← hw]
          have D' := Lib.hid (show Blk w9 g9 cs 27 from by rw [hw]; exact setRow_heap _ _ _ _ _ _ D.out)
          have B' := Lib.hid (show Below w0.heap.size w0 w9 from by rw [hw]; exact below_setRow B.out HG.out _)
          clear hw D B
          have D := Lib.hid D'.out
          have B := Lib.hid B'.out
          clear D' B'
          have cc := (D.out.cell 5).trans HXX.out.2.2
          have fz := blk_frozen D.out 5
          go_upto_region 15 with fail
          obtain ⟨w10, hw⟩ : ∃ v, v = w9.setCell ⟨g9, 5, none⟩ (.int .i64 bk) := ⟨_, rfl⟩
          rw [← hw]
          have D' := Lib.hid (show Blk w10 g9 e3 27 from by rw [hw, ← HSET3.out]; exact heap_setCell_same _ _ _ _ _ _ D.out)
          have B' := Lib.hid (show Below w0.heap.size w0 w10 from by rw [hw]; exact B.out.setCell HG.out _)
          clear cc fz hw D B
          have D := Lib.hid D'.out
          have B := Lib.hid B'.out
          clear D' B'
          go_wp2_with (first
            | (refine wpList_load_row rfl 27 (.tmp 4) rfl w.heap.size rfl 27 cs (0, 0) _ (Blk.below X.out B.out) Try.underlying27 rfl HI.out ?_))
          refine (HMO.out _).mono ?_
          rintro e w11 ⟨rfl, bw⟩
          have B' := Lib.hid (B.out.trans (bw.mono B.out.size))
          have D' := Lib.hid (Blk.below D.out bw)
          clear bw B D
          have B := Lib.hid B'.out
          have D := Lib.hid D'.out
          clear B' D'
          by_cases mo : x.kind = 1 ∨ x.kind = 2 ∨ x.kind = 3
          · rw [decide_eq_true mo]
            have hr3 : okCl y3 ↔ 0 ≤ bk ∧ bk ≤ 255 := by
              rw [HY3.out]
              exact fld_blk x bk OK.out mo
            have H3' := Lib.hid (show ∀ W, Calls Try.prog 15 #[.agg e3] W (RetB (.bool (decide (0 ≤ bk ∧ bk ≤ 255))) W) from fun W => by rw [← decide_iff hr3]; exact H3.out W)
            clear hr3 mo
            go_wp2_with (first
              | (refine wpList_load_row rfl 27 (.tmp 9) rfl g9 rfl 27 e3 (0, 0) _ D.out Try.underlying27 rfl HI3.out ?_))
            refine (H3'.out _).mono ?_
            rintro e w12 ⟨rfl, bw⟩
            have B' := Lib.hid (B.out.trans (bw.mono B.out.size))
            have D' := Lib.hid (Blk.below D.out bw)
            clear bw B D
            have B := Lib.hid B'.out
            have D := Lib.hid D'.out
            clear B' D'
            by_cases m3 : 0 ≤ bk
            rotate_left
            · rw [decide_eq_false (fun h => m3 h.1)]
              have z1 : decide (bk ≥ 0) = false := decide_eq_false (by omega)
              have z2 : decide (0 ≤ bk) = false := decide_eq_false m3
              go_wp2_with fail
              all_goals go_ret
              all_goals exact ⟨rfl, BW.out.trans (B.out.mono BW.out.size)⟩
            by_cases m4 : bk ≤ 255
            · rw [decide_eq_true ⟨m3, m4⟩]
              have z1 : decide (bk ≥ 0) = true := decide_eq_true (by omega)
              have z2 : decide (0 ≤ bk) = true := decide_eq_true m3
              have z3 : decide (bk ≤ 255) = true := decide_eq_true m4
              go_wp2_with fail
              all_goals go_ret
              all_goals exact ⟨rfl, BW.out.trans (B.out.mono BW.out.size)⟩
            · rw [decide_eq_false (fun h => m4 h.2)]
              have z1 : decide (bk ≥ 0) = true := decide_eq_true (by omega)
              have z2 : decide (0 ≤ bk) = true := decide_eq_true m3
              have z3 : decide (bk ≤ 255) = false := decide_eq_false m4
              go_wp2_with fail
              all_goals go_ret
              all_goals exact ⟨rfl, BW.out.trans (B.out.mono BW.out.size)⟩
          · rw [decide_eq_false mo]
            have hr3 : okCl y3 ↔ bk = 0 := by
              rw [HY3.out]
              exact fld_blk0 x bk OK.out mo
            have H3' := Lib.hid (show ∀ W, Calls Try.prog 15 #[.agg e3] W (RetB (.bool (decide (bk = 0))) W) from fun W => by rw [← decide_iff hr3]; exact H3.out W)
            clear hr3 mo
            go_wp2_with (first
              | (refine wpList_load_row rfl 27 (.tmp 9) rfl g9 rfl 27 e3 (0, 0) _ D.out Try.underlying27 rfl HI3.out ?_))
            refine (H3'.out _).mono ?_
            rintro e w12 ⟨rfl, bw⟩
            have B' := Lib.hid (B.out.trans (bw.mono B.out.size))
            have D' := Lib.hid (Blk.below D.out bw)
            clear bw B D
            have B := Lib.hid B'.out
            have D := Lib.hid D'.out
            clear B' D'
            by_cases m3 : bk = 0
            · rw [decide_eq_true m3]
              have z1 : (bk == 0) = true := by simpa using m3
              go_wp2_with fail
              all_goals go_ret
              all_goals exact ⟨rfl, BW.out.trans (B.out.mono BW.out.size)⟩
            · rw [decide_eq_false m3]
              have z1 : (bk == 0) = false := by simpa using m3
              go_wp2_with fail
              all_goals go_ret
              all_goals exact ⟨rfl, BW.out.trans (B.out.mono BW.out.size)⟩
      · have n4 : decide ((NU : Int) < 1) = false := decide_eq_false (by omega)
        have n4b : decide (NU < 1) = false := decide_eq_false (by omega)
        have n5 : decide ((65535 : Int) < (NU : Int)) = false := decide_eq_false (by omega)
        have n5b : decide (65535 < NU) = false := decide_eq_false (by omega)
        have n6 : decide ((NU : Int) ≤ 65535) = true := decide_eq_true (by omega)
        have n7 : decide (NU ≤ 65535) = true := decide_eq_true (by omega)
        have n8 : decide ((NU : Int) ≥ (xn : Int)) = decide (xn ≤ NU) := decide_iff (by omega)
        by_cases c3 : xn ≤ NU
        · have n9 : decide (xn ≤ NU) = true := decide_eq_true c3
          rw [n9] at n8
          have h2 : ∀ W, Calls Try.prog 15 #[.agg e2] W (RetB (.bool true) W) := fun W => by have h := H2.out W; rw [decide_eq_true (hgood c3 (by omega))] at h; exact h
          have HB2 := Lib.hid h2
          clear h2 hbad hgood hxn c1 c2 c3 hx1
          go_wp2_with (first | (refine wpList_load_row rfl 27 (.tmp 9) rfl g9 rfl 27 e2 (0, 0) _ D.out Try.underlying27 rfl HI2.out ?_) | (refine wpList_execgC (v := .agg e2) (w' := w7) rfl ?hl ?_; case hl => exact exec_load 27 (.tmp 9) rfl rfl D.out Try.underlying27 rfl HI2.out))
          refine (HB2.out _).mono ?_
          rintro e w8 ⟨rfl, bw⟩
          have B' := Lib.hid (B.out.trans (bw.mono B.out.size))
          have D' := Lib.hid (Blk.below D.out bw)
          clear bw B D
          have B := Lib.hid B'.out
          have D := Lib.hid D'.out
          clear B' D'
          have q3 := ((Blk.below X.out B.out).cell 1).trans HXX.out.2.1
          rw [← HXN.out] at q3
          go_upto_region 14 with (first
            | (refine wpList_load_row rfl 27 (.tmp 4) rfl w.heap.size rfl 27 cs (0, 0) _ (Blk.below X.out B.out) Try.underlying27 rfl HI.out ?_)
            | (refine wpList_store_row rfl 27 (.tmp 9) (.tmp 61) rfl g9 cs rfl rfl 27 e2 D.out HI.out HZ.out.2.1 HO.out ?_))
          obtain ⟨w9, hw⟩ : ∃ v, v = w8.setRow g9 cs := ⟨_, rfl⟩
          rw [← hw]
          have D' := Lib.hid (show Blk w9 g9 cs 27 from by rw [hw]; exact setRow_heap _ _ _ _ _ _ D.out)
          have B' := Lib.hid (show Below w0.heap.size w0 w9 from by rw [hw]; exact below_setRow B.out HG.out _)
          clear hw D B
          have D := Lib.hid D'.out
          have B := Lib.hid B'.out
          clear D' B'
          have cc := (D.out.cell 5).trans HXX.out.2.2
          have fz := blk_frozen D.out 5
          go_upto_region 15 with fail
          obtain ⟨w10, hw⟩ : ∃ v, v = w9.setCell ⟨g9, 5, none⟩ (.int .i64 bk) := ⟨_, rfl⟩
          rw [← hw]
          have D' := Lib.hid (show Blk w10 g9 e3 27 from by rw [hw, ← HSET3.out]; exact heap_setCell_same _ _ _ _ _ _ D.out)
          have B' := Lib.hid (show Below w0.heap.size w0 w10 from by rw [hw]; exact B.out.setCell HG.out _)
          clear cc fz hw D B
          have D := Lib.hid D'.out
          have B := Lib.hid B'.out
          clear D' B'
          go_wp2_with (first
            | (refine wpList_load_row rfl 27 (.tmp 4) rfl w.heap.size rfl 27 cs (0, 0) _ (Blk.below X.out B.out) Try.underlying27 rfl HI.out ?_))
          refine (HMO.out _).mono ?_
          rintro e w11 ⟨rfl, bw⟩
          have B' := Lib.hid (B.out.trans (bw.mono B.out.size))
          have D' := Lib.hid (Blk.below D.out bw)
          clear bw B D
          have B := Lib.hid B'.out
          have D := Lib.hid D'.out
          clear B' D'
          by_cases mo : x.kind = 1 ∨ x.kind = 2 ∨ x.kind = 3
          · rw [decide_eq_true mo]
            have hr3 : okCl y3 ↔ 0 ≤ bk ∧ bk ≤ 255 := by
              rw [HY3.out]
              exact fld_blk x bk OK.out mo
            have H3' := Lib.hid (show ∀ W, Calls Try.prog 15 #[.agg e3] W (RetB (.bool (decide (0 ≤ bk ∧ bk ≤ 255))) W) from fun W => by rw [← decide_iff hr3]; exact H3.out W)
            clear hr3 mo
            go_wp2_with (first
              | (refine wpList_load_row rfl 27 (.tmp 9) rfl g9 rfl 27 e3 (0, 0) _ D.out Try.underlying27 rfl HI3.out ?_))
            refine (H3'.out _).mono ?_
            rintro e w12 ⟨rfl, bw⟩
            have B' := Lib.hid (B.out.trans (bw.mono B.out.size))
            have D' := Lib.hid (Blk.below D.out bw)
            clear bw B D
            have B := Lib.hid B'.out
            have D := Lib.hid D'.out
            clear B' D'
            by_cases m3 : 0 ≤ bk
            rotate_left
            · rw [decide_eq_false (fun h => m3 h.1)]
              have z1 : decide (bk ≥ 0) = false := decide_eq_false (by omega)
              have z2 : decide (0 ≤ bk) = false := decide_eq_false m3
              go_wp2_with fail
              all_goals go_ret
              all_goals exact ⟨rfl, BW.out.trans (B.out.mono BW.out.size)⟩
            by_cases m4 : bk ≤ 255
            · rw [decide_eq_true ⟨m3, m4⟩]
              have z1 : decide (bk ≥ 0) = true := decide_eq_true (by omega)
              have z2 : decide (0 ≤ bk) = true := decide_eq_true m3
              have z3 : decide (bk ≤ 255) = true := decide_eq_true m4
              go_wp2_with fail
              all_goals go_ret
              all_goals exact ⟨rfl, BW.out.trans (B.out.mono BW.out.size)⟩
            · rw [decide_eq_false (fun h => m4 h.2)]
              have z1 : decide (bk ≥ 0) = true := decide_eq_true (by omega)
              have z2 : decide (0 ≤ bk) = true := decide_eq_true m3
              have z3 : decide (bk ≤ 255) = false := decide_eq_false m4
              go_wp2_with fail
              all_goals go_ret
              all_goals exact ⟨rfl, BW.out.trans (B.out.mono BW.out.size)⟩
          · rw [decide_eq_false mo]
            have hr3 : okCl y3 ↔ bk = 0 := by
              rw [HY3.out]
              exact fld_blk0 x bk OK.out mo
            have H3' := Lib.hid (show ∀ W, Calls Try.prog 15 #[.agg e3] W (RetB (.bool (decide (bk = 0))) W) from fun W => by rw [← decide_iff hr3]; exact H3.out W)
            clear hr3 mo
            go_wp2_with (first
              | (refine wpList_load_row rfl 27 (.tmp 9) rfl g9 rfl 27 e3 (0, 0) _ D.out Try.underlying27 rfl HI3.out ?_))
            refine (H3'.out _).mono ?_
            rintro e w12 ⟨rfl, bw⟩
            have B' := Lib.hid (B.out.trans (bw.mono B.out.size))
            have D' := Lib.hid (Blk.below D.out bw)
            clear bw B D
            have B := Lib.hid B'.out
            have D := Lib.hid D'.out
            clear B' D'
            by_cases m3 : bk = 0
            · rw [decide_eq_true m3]
              have z1 : (bk == 0) = true := by simpa using m3
              go_wp2_with fail
              all_goals go_ret
              all_goals exact ⟨rfl, BW.out.trans (B.out.mono BW.out.size)⟩
            · rw [decide_eq_false m3]
              have z1 : (bk == 0) = false := by simpa using m3
              go_wp2_with fail
              all_goals go_ret
              all_goals exact ⟨rfl, BW.out.trans (B.out.mono BW.out.size)⟩
        · have n9 : decide (xn ≤ NU) = false := decide_eq_false c3
          rw [n9] at n8
          clear hbad hgood hxn c1 c2 c3 hx1
          go_upto_region 14 with (first
            | (refine wpList_load_row rfl 27 (.tmp 4) rfl w.heap.size rfl 27 cs (0, 0) _ (Blk.below X.out B.out) Try.underlying27 rfl HI.out ?_)
            | (refine wpList_store_row rfl 27 (.tmp 9) (.tmp 61) rfl g9 cs rfl rfl 27 e2 D.out HI.out HZ.out.2.1 HO.out ?_))
          obtain ⟨w9, hw⟩ : ∃ v, v = w7.setRow g9 cs := ⟨_, rfl⟩
          rw [← hw]
          have D' := Lib.hid (show Blk w9 g9 cs 27 from by rw [hw]; exact setRow_heap _ _ _ _ _ _ D.out)
          have B' := Lib.hid (show Below w0.heap.size w0 w9 from by rw [hw]; exact below_setRow B.out HG.out _)
          clear hw D B
          have D := Lib.hid D'.out
          have B := Lib.hid B'.out
          clear D' B'
          have cc := (D.out.cell 5).trans HXX.out.2.2
          have fz := blk_frozen D.out 5
          go_upto_region 15 with fail
          obtain ⟨w10, hw⟩ : ∃ v, v = w9.setCell ⟨g9, 5, none⟩ (.int .i64 bk) := ⟨_, rfl⟩
          rw [← hw]
          have D' := Lib.hid (show Blk w10 g9 e3 27 from by rw [hw, ← HSET3.out]; exact heap_setCell_same _ _ _ _ _ _ D.out)
          have B' := Lib.hid (show Below w0.heap.size w0 w10 from by rw [hw]; exact B.out.setCell HG.out _)
          clear cc fz hw D B
          have D := Lib.hid D'.out
          have B := Lib.hid B'.out
          clear D' B'
          go_wp2_with (first
            | (refine wpList_load_row rfl 27 (.tmp 4) rfl w.heap.size rfl 27 cs (0, 0) _ (Blk.below X.out B.out) Try.underlying27 rfl HI.out ?_))
          refine (HMO.out _).mono ?_
          rintro e w11 ⟨rfl, bw⟩
          have B' := Lib.hid (B.out.trans (bw.mono B.out.size))
          have D' := Lib.hid (Blk.below D.out bw)
          clear bw B D
          have B := Lib.hid B'.out
          have D := Lib.hid D'.out
          clear B' D'
          by_cases mo : x.kind = 1 ∨ x.kind = 2 ∨ x.kind = 3
          · rw [decide_eq_true mo]
            have hr3 : okCl y3 ↔ 0 ≤ bk ∧ bk ≤ 255 := by
              rw [HY3.out]
              exact fld_blk x bk OK.out mo
            have H3' := Lib.hid (show ∀ W, Calls Try.prog 15 #[.agg e3] W (RetB (.bool (decide (0 ≤ bk ∧ bk ≤ 255))) W) from fun W => by rw [← decide_iff hr3]; exact H3.out W)
            clear hr3 mo
            go_wp2_with (first
              | (refine wpList_load_row rfl 27 (.tmp 9) rfl g9 rfl 27 e3 (0, 0) _ D.out Try.underlying27 rfl HI3.out ?_))
            refine (H3'.out _).mono ?_
            rintro e w12 ⟨rfl, bw⟩
            have B' := Lib.hid (B.out.trans (bw.mono B.out.size))
            have D' := Lib.hid (Blk.below D.out bw)
            clear bw B D
            have B := Lib.hid B'.out
            have D := Lib.hid D'.out
            clear B' D'
            by_cases m3 : 0 ≤ bk
            rotate_left
            · rw [decide_eq_false (fun h => m3 h.1)]
              have z1 : decide (bk ≥ 0) = false := decide_eq_false (by omega)
              have z2 : decide (0 ≤ bk) = false := decide_eq_false m3
              go_wp2_with fail
              all_goals go_ret
              all_goals exact ⟨rfl, BW.out.trans (B.out.mono BW.out.size)⟩
            by_cases m4 : bk ≤ 255
            · rw [decide_eq_true ⟨m3, m4⟩]
              have z1 : decide (bk ≥ 0) = true := decide_eq_true (by omega)
              have z2 : decide (0 ≤ bk) = true := decide_eq_true m3
              have z3 : decide (bk ≤ 255) = true := decide_eq_true m4
              go_wp2_with fail
              all_goals go_ret
              all_goals exact ⟨rfl, BW.out.trans (B.out.mono BW.out.size)⟩
            · rw [decide_eq_false (fun h => m4 h.2)]
              have z1 : decide (bk ≥ 0) = true := decide_eq_true (by omega)
              have z2 : decide (0 ≤ bk) = true := decide_eq_true m3
              have z3 : decide (bk ≤ 255) = false := decide_eq_false m4
              go_wp2_with fail
              all_goals go_ret
              all_goals exact ⟨rfl, BW.out.trans (B.out.mono BW.out.size)⟩
          · rw [decide_eq_false mo]
            have hr3 : okCl y3 ↔ bk = 0 := by
              rw [HY3.out]
              exact fld_blk0 x bk OK.out mo
            have H3' := Lib.hid (show ∀ W, Calls Try.prog 15 #[.agg e3] W (RetB (.bool (decide (bk = 0))) W) from fun W => by rw [← decide_iff hr3]; exact H3.out W)
            clear hr3 mo
            go_wp2_with (first
              | (refine wpList_load_row rfl 27 (.tmp 9) rfl g9 rfl 27 e3 (0, 0) _ D.out Try.underlying27 rfl HI3.out ?_))
            refine (H3'.out _).mono ?_
            rintro e w12 ⟨rfl, bw⟩
            have B' := Lib.hid (B.out.trans (bw.mono B.out.size))
            have D' := Lib.hid (Blk.below D.out bw)
            clear bw B D
            have B := Lib.hid B'.out
            have D := Lib.hid D'.out
            clear B' D'
            by_cases m3 : bk = 0
            · rw [decide_eq_true m3]
              have z1 : (bk == 0) = true := by simpa using m3
              go_wp2_with fail
              all_goals go_ret
              all_goals exact ⟨rfl, BW.out.trans (B.out.mono BW.out.size)⟩
            · rw [decide_eq_false m3]
              have z1 : (bk == 0) = false := by simpa using m3
              go_wp2_with fail
              all_goals go_ret
              all_goals exact ⟨rfl, BW.out.trans (B.out.mono BW.out.size)⟩
    · rw [decide_eq_false (fun h => m2 h.2)]
      have n1 : decide (mn ≥ 0) = true := decide_eq_true (by omega)
      have n2 : decide (0 ≤ mn) = true := decide_eq_true m1
      have n3 : decide (mn ≤ 1073741824) = false := decide_eq_false m2
      go_upto_region 10 with (first
        | (refine wpList_load_row rfl 27 (.tmp 4) rfl w.heap.size rfl 27 cs (0, 0) _ (Blk.below X.out B.out) Try.underlying27 rfl HI.out ?_)
        | (refine wpList_store_row rfl 27 (.tmp 9) (.tmp 33) rfl g9 cs rfl rfl 27 e1 D.out HI.out HZ.out.1 HO.out ?_))
      obtain ⟨w6, hw⟩ : ∃ v, v = w5.setRow g9 cs := ⟨_, rfl⟩
      rw [← hw]
      have D' := Lib.hid (show Blk w6 g9 cs 27 from by rw [hw]; exact setRow_heap _ _ _ _ _ _ D.out)
      have B' := Lib.hid (show Below w0.heap.size w0 w6 from by rw [hw]; exact below_setRow B.out HG.out _)
      clear hw D B
      have D := Lib.hid D'.out
      have B := Lib.hid B'.out
      clear D' B'
      have cc := (D.out.cell 1).trans HXX.out.2.1
      have fz := blk_frozen D.out 1
      go_upto_region 11 with fail
      obtain ⟨w7, hw⟩ : ∃ v, v = w6.setCell ⟨g9, 1, none⟩ (.int .u64 (NU : Int)) := ⟨_, rfl⟩
      rw [← hw]
      have D' := Lib.hid (show Blk w7 g9 e2 27 from by rw [hw, ← HSET2.out]; exact heap_setCell_same _ _ _ _ _ _ D.out)
      have B' := Lib.hid (show Below w0.heap.size w0 w7 from by rw [hw]; exact B.out.setCell HG.out _)
      clear cc fz hw D B
      have D := Lib.hid D'.out
      have B := Lib.hid B'.out
      clear D' B'
      have hbad : ¬ (1 ≤ NU ∧ NU ≤ 65535) → ¬ okCl y2 := fun h g => by rw [HY2.out] at g; exact h g.1
      have hgood : x.num ≤ NU → NU ≤ 65535 → okCl y2 := fun h g => by
        rw [HY2.out]
        exact fld_num x NU OK.out h g
      obtain ⟨xn, hxn⟩ : ∃ n, n = x.num := ⟨_, rfl⟩
      have hx1 : 1 ≤ xn := by rw [hxn]; exact OK.out.1.1
      rw [← hxn] at hgood
      have q1 := (Blk.below X.out B.out).cell 1
      have q2 := q1.trans HXX.out.2.1
      rw [← hxn] at q2
      have HXN := Lib.hid hxn
      clear q1
      by_cases c1 : NU < 1
      · have n4 : decide ((NU : Int) < 1) = true := decide_eq_true (by omega)
        have n5 : decide (NU < 1) = true := decide_eq_true c1
        have n6 : decide ((NU : Int) ≥ (xn : Int)) = false := decide_eq_false (by omega)
        have n7 : decide (xn ≤ NU) = false := decide_eq_false (by omega)
        have h2 : ∀ W, Calls Try.prog 15 #[.agg e2] W (RetB (.bool false) W) := fun W => by have h := H2.out W; rw [decide_eq_false (hbad (by omega))] at h; exact h
        have HB2 := Lib.hid h2
        clear h2 hbad hgood hxn c1 hx1
        go_wp2_with (first | (refine wpList_load_row rfl 27 (.tmp 9) rfl g9 rfl 27 e2 (0, 0) _ D.out Try.underlying27 rfl HI2.out ?_) | (refine wpList_execgC (v := .agg e2) (w' := w7) rfl ?hl ?_; case hl => exact exec_load 27 (.tmp 9) rfl rfl D.out Try.underlying27 rfl HI2.out))
        refine (HB2.out _).mono ?_
        rintro e w8 ⟨rfl, bw⟩
        have B' := Lib.hid (B.out.trans (bw.mono B.out.size))
        have D' := Lib.hid (Blk.below D.out bw)
        clear bw B D
        have B := Lib.hid B'.out
        have D := Lib.hid D'.out
        clear B' D'
        have q3 := ((Blk.below X.out B.out).cell 1).trans HXX.out.2.1
        rw [← HXN.out] at q3
        go_upto_region 14 with (first
          | (refine wpList_load_row rfl 27 (.tmp 4) rfl w.heap.size rfl 27 cs (0, 0) _ (Blk.below X.out B.out) Try.underlying27 rfl HI.out ?_)
          | (refine wpList_store_row rfl 27 (.tmp 9) (.tmp 61) rfl g9 cs rfl rfl 27 e2 D.out HI.out HZ.out.2.1 HO.out ?_))
        obtain ⟨w9, hw⟩ : ∃ v, v = w8.setRow g9 cs := ⟨_, rfl⟩
        rw [← hw]
        have D' := Lib.hid (show Blk w9 g9 cs 27 from by rw [hw]; exact setRow_heap _ _ _ _ _ _ D.out)
        have B' := Lib.hid (show Below w0.heap.size w0 w9 from by rw [hw]; exact below_setRow B.out HG.out _)
        clear hw D B
        have D := Lib.hid D'.out
        have B := Lib.hid B'.out
        clear D' B'
        have cc := (D.out.cell 5).trans HXX.out.2.2
        have fz := blk_frozen D.out 5
        go_upto_region 15 with fail
        obtain ⟨w10, hw⟩ : ∃ v, v = w9.setCell ⟨g9, 5, none⟩ (.int .i64 bk) := ⟨_, rfl⟩
        rw [← hw]
        have D' := Lib.hid (show Blk w10 g9 e3 27 from by rw [hw, ← HSET3.out]; exact heap_setCell_same _ _ _ _ _ _ D.out)
        have B' := Lib.hid (show Below w0.heap.size w0 w10 from by rw [hw]; exact B.out.setCell HG.out _)
        clear cc fz hw D B
        have D := Lib.hid D'.out
        have B := Lib.hid B'.out
        clear D' B'
        go_wp2_with (first
          | (refine wpList_load_row rfl 27 (.tmp 4) rfl w.heap.size rfl 27 cs (0, 0) _ (Blk.below X.out B.out) Try.underlying27 rfl HI.out ?_))
        refine (HMO.out _).mono ?_
        rintro e w11 ⟨rfl, bw⟩
        have B' := Lib.hid (B.out.trans (bw.mono B.out.size))
        have D' := Lib.hid (Blk.below D.out bw)
        clear bw B D
        have B := Lib.hid B'.out
        have D := Lib.hid D'.out
        clear B' D'
        by_cases mo : x.kind = 1 ∨ x.kind = 2 ∨ x.kind = 3
        · rw [decide_eq_true mo]
          have hr3 : okCl y3 ↔ 0 ≤ bk ∧ bk ≤ 255 := by
            rw [HY3.out]
            exact fld_blk x bk OK.out mo
          have H3' := Lib.hid (show ∀ W, Calls Try.prog 15 #[.agg e3] W (RetB (.bool (decide (0 ≤ bk ∧ bk ≤ 255))) W) from fun W => by rw [← decide_iff hr3]; exact H3.out W)
          clear hr3 mo
          go_wp2_with (first
            | (refine wpList_load_row rfl 27 (.tmp 9) rfl g9 rfl 27 e3 (0, 0) _ D.out Try.underlying27 rfl HI3.out ?_))
          refine (H3'.out _).mono ?_
          rintro e w12 ⟨rfl, bw⟩
          have B' := Lib.hid (B.out.trans (bw.mono B.out.size))
          have D' := Lib.hid (Blk.below D.out bw)
          clear bw B D
          have B := Lib.hid B'.out
          have D := Lib.hid D'.out
          clear B' D'
          by_cases m3 : 0 ≤ bk
          rotate_left
          · rw [decide_eq_false (fun h => m3 h.1)]
            have z1 : decide (bk ≥ 0) = false := decide_eq_false (by omega)
            have z2 : decide (0 ≤ bk) = false := decide_eq_false m3
            go_wp2_with fail
            all_goals go_ret
            all_goals exact ⟨rfl, BW.out.trans (B.out.mono BW.out.size)⟩
          by_cases m4 : bk ≤ 255
          · rw [decide_eq_true ⟨m3, m4⟩]
            have z1 : decide (bk ≥ 0) = true := decide_eq_true (by omega)
            have z2 : decide (0 ≤ bk) = true := decide_eq_true m3
            have z3 : decide (bk ≤ 255) = true := decide_eq_true m4
            go_wp2_with fail
            all_goals go_ret
            all_goals exact ⟨rfl, BW.out.trans (B.out.mono BW.out.size)⟩
          · rw [decide_eq_false (fun h => m4 h.2)]
            have z1 : decide (bk ≥ 0) = true := decide_eq_true (by omega)
            have z2 : decide (0 ≤ bk) = true := decide_eq_true m3
            have z3 : decide (bk ≤ 255) = false := decide_eq_false m4
            go_wp2_with fail
            all_goals go_ret
            all_goals exact ⟨rfl, BW.out.trans (B.out.mono BW.out.size)⟩
        · rw [decide_eq_false mo]
          have hr3 : okCl y3 ↔ bk = 0 := by
            rw [HY3.out]
            exact fld_blk0 x bk OK.out mo
          have H3' := Lib.hid (show ∀ W, Calls Try.prog 15 #[.agg e3] W (RetB (.bool (decide (bk = 0))) W) from fun W => by rw [← decide_iff hr3]; exact H3.out W)
          clear hr3 mo
          go_wp2_with (first
            | (refine wpList_load_row rfl 27 (.tmp 9) rfl g9 rfl 27 e3 (0, 0) _ D.out Try.underlying27 rfl HI3.out ?_))
          refine (H3'.out _).mono ?_
          rintro e w12 ⟨rfl, bw⟩
          have B' := Lib.hid (B.out.trans (bw.mono B.out.size))
          have D' := Lib.hid (Blk.below D.out bw)
          clear bw B D
          have B := Lib.hid B'.out
          have D := Lib.hid D'.out
          clear B' D'
          by_cases m3 : bk = 0
          · rw [decide_eq_true m3]
            have z1 : (bk == 0) = true := by simpa using m3
            go_wp2_with fail
            all_goals go_ret
            all_goals exact ⟨rfl, BW.out.trans (B.out.mono BW.out.size)⟩
          · rw [decide_eq_false m3]
            have z1 : (bk == 0) = false := by simpa using m3
            go_wp2_with fail
            all_goals go_ret
            all_goals exact ⟨rfl, BW.out.trans (B.out.mono BW.out.size)⟩
      by_cases c2 : 65535 < NU
      · have n4 : decide ((NU : Int) < 1) = false := decide_eq_false (by omega)
        have n4b : decide (NU < 1) = false := decide_eq_false (by omega)
        have n5 : decide ((65535 : Int) < (NU : Int)) = true := decide_eq_true (by omega)
        have n5b : decide (65535 < NU) = true := decide_eq_true c2
        have n6 : decide ((NU : Int) ≤ 65535) = false := decide_eq_false (by omega)
        have n7 : decide (NU ≤ 65535) = false := decide_eq_false (by omega)
        have n8 : decide ((NU : Int) ≥ (xn : Int)) = decide (xn ≤ NU) := decide_iff (by omega)
        have h2 : ∀ W, Calls Try.prog 15 #[.agg e2] W (RetB (.bool false) W) := fun W => by have h := H2.out W; rw [decide_eq_false (hbad (by omega))] at h; exact h
        have HB2 := Lib.hid h2
        clear h2 hbad hgood hxn c1 c2 hx1
        by_cases c3 : xn ≤ NU
        · have n9 : decide (xn ≤ NU) = true := decide_eq_true c3
          rw [n9] at n8
          clear c3
          go_wp2_with (first | (refine wpList_load_row rfl 27 (.tmp 9) rfl g9 rfl 27 e2 (0, 0) _ D.out Try.underlying27 rfl HI2.out ?_) | (refine wpList_execgC (v := .agg e2) (w' := w7) rfl ?hl ?_; case hl => exact exec_load 27 (.tmp 9) rfl rfl D.out Try.underlying27 rfl HI2.out))
          refine (HB2.out _).mono ?_
          rintro e w8 ⟨rfl, bw⟩
          have B' := Lib.hid (B.out.trans (bw.mono B.out.size))
          have D' := Lib.hid (Blk.below D.out bw)
          clear bw B D
          have B := Lib.hid B'.out
          have D := Lib.hid D'.out
          clear B' D'
          have q3 := ((Blk.below X.out B.out).cell 1).trans HXX.out.2.1
          rw [← HXN.out] at q3
          go_upto_region 14 with (first
            | (refine wpList_load_row rfl 27 (.tmp 4) rfl w.heap.size rfl 27 cs (0, 0) _ (Blk.below X.out B.out) Try.underlying27 rfl HI.out ?_)
            | (refine wpList_store_row rfl 27 (.tmp 9) (.tmp 61) rfl g9 cs rfl rfl 27 e2 D.out HI.out HZ.out.2.1 HO.out ?_))
          obtain ⟨w9, hw⟩ : ∃ v, v = w8.setRow g9 cs := ⟨_, rfl⟩
          rw [← hw]
          have D' := Lib.hid (show Blk w9 g9 cs 27 from by rw [hw]; exact setRow_heap _ _ _ _ _ _ D.out)
          have B' := Lib.hid (show Below w0.heap.size w0 w9 from by rw [hw]; exact below_setRow B.out HG.out _)
          clear hw D B
          have D := Lib.hid D'.out
          have B := Lib.hid B'.out
          clear D' B'
          have cc := (D.out.cell 5).trans HXX.out.2.2
          have fz := blk_frozen D.out 5
          go_upto_region 15 with fail
          obtain ⟨w10, hw⟩ : ∃ v, v = w9.setCell ⟨g9, 5, none⟩ (.int .i64 bk) := ⟨_, rfl⟩
          rw [← hw]
          have D' := Lib.hid (show Blk w10 g9 e3 27 from by rw [hw, ← HSET3.out]; exact heap_setCell_same _ _ _ _ _ _ D.out)
          have B' := Lib.hid (show Below w0.heap.size w0 w10 from by rw [hw]; exact B.out.setCell HG.out _)
          clear cc fz hw D B
          have D := Lib.hid D'.out
          have B := Lib.hid B'.out
          clear D' B'
          go_wp2_with (first
            | (refine wpList_load_row rfl 27 (.tmp 4) rfl w.heap.size rfl 27 cs (0, 0) _ (Blk.below X.out B.out) Try.underlying27 rfl HI.out ?_))
          refine (HMO.out _).mono ?_
          rintro e w11 ⟨rfl, bw⟩
          have B' := Lib.hid (B.out.trans (bw.mono B.out.size))
          have D' := Lib.hid (Blk.below D.out bw)
          clear bw B D
          have B := Lib.hid B'.out
          have D := Lib.hid D'.out
          clear B' D'
          by_cases mo : x.kind = 1 ∨ x.kind = 2 ∨ x.kind = 3
          · rw [decide_eq_true mo]
            have hr3 : okCl y3 ↔ 0 ≤ bk ∧ bk ≤ 255 := by
              rw [HY3.out]
              exact fld_blk x bk OK.out mo
            have H3' := Lib.hid (show ∀ W, Calls Try.prog 15 #[.agg e3] W (RetB (.bool (decide (0 ≤ bk ∧ bk ≤ 255))) W) from fun W => by rw [← decide_iff hr3]; exact H3.out W)
            clear hr3 mo
            go_wp2_with (first
              | (refine wpList_load_row rfl 27 (.tmp 9) rfl g9 rfl 27 e3 (0, 0) _ D.out Try.underlying27 rfl HI3.out ?_))
            refine (H3'.out _).mono ?_
            rintro e w12 ⟨rfl, bw⟩
            have B' := Lib.hid (B.out.trans (bw.mono B.out.size))
            have D' := Lib.hid (Blk.below D.out bw)
            clear bw B D
            have B := Lib.hid B'.out
            have D := Lib.hid D'.out
            clear B' D'
            by_cases m3 : 0 ≤ bk
            rotate_left
            · rw [decide_eq_false (fun h => m3 h.1)]
              have z1 : decide (bk ≥ 0) = false := decide_eq_false (by omega)
              have z2 : decide (0 ≤ bk) = false := decide_eq_false m3
              go_wp2_with fail
              all_goals go_ret
              all_goals exact ⟨rfl, BW.out.trans (B.out.mono BW.out.size)⟩
            by_cases m4 : bk ≤ 255
            · rw [decide_eq_true ⟨m3, m4⟩]
              have z1 : decide (bk ≥ 0) = true := decide_eq_true (by omega)
              have z2 : decide (0 ≤ bk) = true := decide_eq_true m3
              have z3 : decide (bk ≤ 255) = true := decide_eq_true m4
              go_wp2_with fail
              all_goals go_ret
              all_goals exact ⟨rfl, BW.out.trans (B.out.mono BW.out.size)⟩
            · rw [decide_eq_false (fun h => m4 h.2)]
              have z1 : decide (bk ≥ 0) = true := decide_eq_true (by omega)
              have z2 : decide (0 ≤ bk) = true := decide_eq_true m3
              have z3 : decide (bk ≤ 255) = false := decide_eq_false m4
              go_wp2_with fail
              all_goals go_ret
              all_goals exact ⟨rfl, BW.out.trans (B.out.mono BW.out.size)⟩
          · rw [decide_eq_false mo]
            have hr3 : okCl y3 ↔ bk = 0 := by
              rw [HY3.out]
              exact fld_blk0 x bk OK.out mo
            have H3' := Lib.hid (show ∀ W, Calls Try.prog 15 #[.agg e3] W (RetB (.bool (decide (bk = 0))) W) from fun W => by rw [← decide_iff hr3]; exact H3.out W)
            clear hr3 mo
            go_wp2_with (first
              | (refine wpList_load_row rfl 27 (.tmp 9) rfl g9 rfl 27 e3 (0, 0) _ D.out Try.underlying27 rfl HI3.out ?_))
            refine (H3'.out _).mono ?_
            rintro e w12 ⟨rfl, bw⟩
            have B' := Lib.hid (B.out.trans (bw.mono B.out.size))
            have D' := Lib.hid (Blk.below D.out bw)
            clear bw B D
            have B := Lib.hid B'.out
            have D := Lib.hid D'.out
            clear B' D'
            by_cases m3 : bk = 0
            · rw [decide_eq_true m3]
              have z1 : (bk == 0) = true := by simpa using m3
              go_wp2_with fail
              all_goals go_ret
              all_goals exact ⟨rfl, BW.out.trans (B.out.mono BW.out.size)⟩
            · rw [decide_eq_false m3]
              have z1 : (bk == 0) = false := by simpa using m3
              go_wp2_with fail
              all_goals go_ret
              all_goals exact ⟨rfl, BW.out.trans (B.out.mono BW.out.size)⟩
        · have n9 : decide (xn ≤ NU) = false := decide_eq_false c3
          rw [n9] at n8
          clear c3
          go_wp2_with (first | (refine wpList_load_row rfl 27 (.tmp 9) rfl g9 rfl 27 e2 (0, 0) _ D.out Try.underlying27 rfl HI2.out ?_) | (refine wpList_execgC (v := .agg e2) (w' := w7) rfl ?hl ?_; case hl => exact exec_load 27 (.tmp 9) rfl rfl D.out Try.underlying27 rfl HI2.out))
          refine (HB2.out _).mono ?_
          rintro e w8 ⟨rfl, bw⟩
          have B' := Lib.hid (B.out.trans (bw.mono B.out.size))
          have D' := Lib.hid (Blk.below D.out bw)
          clear bw B D
          have B := Lib.hid B'.out
          have D := Lib.hid D'.out
          clear B' D'
          have q3 := ((Blk.below X.out B.out).cell 1).trans HXX.out.2.1
          rw [← HXN.out] at q3
          go_upto_region 14 with (first
            | (refine wpList_load_row rfl 27 (.tmp 4) rfl w.heap.size rfl 27 cs (0, 0) _ (Blk.below X.out B.out) Try.underlying27 rfl HI.out ?_)
            | (refine wpList_store_row rfl 27 (.tmp 9) (.tmp 61) rfl g9 cs rfl rfl 27 e2 D.out HI.out HZ.out.2.1 HO.out ?_))
          obtain ⟨w9, hw⟩ : ∃ v, v = w8.setRow g9 cs := ⟨_, rfl⟩
          rw [← hw]
          have D' := Lib.hid (show Blk w9 g9 cs 27 from by rw [hw]; exact setRow_heap _ _ _ _ _ _ D.out)
          have B' := Lib.hid (show Below w0.heap.size w0 w9 from by rw [hw]; exact below_setRow B.out HG.out _)
          clear hw D B
          have D := Lib.hid D'.out
          have B := Lib.hid B'.out
          clear D' B'
          have cc := (D.out.cell 5).trans HXX.out.2.2
          have fz := blk_frozen D.out 5
          go_upto_region 15 with fail
          obtain ⟨w10, hw⟩ : ∃ v, v = w9.setCell ⟨g9, 5, none⟩ (.int .i64 bk) := ⟨_, rfl⟩
          rw [← hw]
          have D' := Lib.hid (show Blk w10 g9 e3 27 from by rw [hw, ← HSET3.out]; exact heap_setCell_same _ _ _ _ _ _ D.out)
          have B' := Lib.hid (show Below w0.heap.size w0 w10 from by rw [hw]; exact B.out.setCell HG.out _)
          clear cc fz hw D B
          have D := Lib.hid D'.out
          have B := Lib.hid B'.out
          clear D' B'
          go_wp2_with (first
            | (refine wpList_load_row rfl 27 (.tmp 4) rfl w.heap.size rfl 27 cs (0, 0) _ (Blk.below X.out B.out) Try.underlying27 rfl HI.out ?_))
          refine (HMO.out _).mono ?_
          rintro e w11 ⟨rfl, bw⟩
          have B' := Lib.hid (B.out.trans (bw.mono B.out.size))
          have D' := Lib.hid (Blk.below D.out bw)
          clear bw B D
          have B := Lib.hid B'.out
          have D := Lib.hid D'.out
          clear B' D'
          by_cases mo : x.kind = 1 ∨ x.kind = 2 ∨ x.kind = 3
          · rw [decide_eq_true mo]
            have hr3 : okCl y3 ↔ 0 ≤ bk ∧ bk ≤ 255 := by
              rw [HY3.out]
              exact fld_blk x bk OK.out mo
            have H3' := Lib.hid (show ∀ W, Calls Try.prog 15 #[.agg e3] W (RetB (.bool (decide (0 ≤ bk ∧ bk ≤ 255))) W) from fun W => by rw [← decide_iff hr3]; exact H3.out W)
            clear hr3 mo
            go_wp2_with (first
              | (refine wpList_load_row rfl 27 (.tmp 9) rfl g9 rfl 27 e3 (0, 0) _ D.out Try.underlying27 rfl HI3.out ?_))
            refine (H3'.out _).mono ?_
            rintro e w12 ⟨rfl, bw⟩
            have B' := Lib.hid (B.out.trans (bw.mono B.out.size))
            have D' := Lib.hid (Blk.below D.out bw)
            clear bw B D
            have B := Lib.hid B'.out
            have D := Lib.hid D'.out
            clear B' D'
            by_cases m3 : 0 ≤ bk
            rotate_left
            · rw [decide_eq_false (fun h => m3 h.1)]
              have z1 : decide (bk ≥ 0) = false := decide_eq_false (by omega)
              have z2 : decide (0 ≤ bk) = false := decide_eq_false m3
              go_wp2_with fail
              all_goals go_ret
              all_goals exact ⟨rfl, BW.out.trans (B.out.mono BW.out.size)⟩
            by_cases m4 : bk ≤ 255
            · rw [decide_eq_true ⟨m3, m4⟩]
              have z1 : decide (bk ≥ 0) = true := decide_eq_true (by omega)
              have z2 : decide (0 ≤ bk) = true := decide_eq_true m3
              have z3 : decide (bk ≤ 255) = true := decide_eq_true m4
              go_wp2_with fail
              all_goals go_ret
              all_goals exact ⟨rfl, BW.out.trans (B.out.mono BW.out.size)⟩
            · rw [decide_eq_false (fun h => m4 h.2)]
              have z1 : decide (bk ≥ 0) = true := decide_eq_true (by omega)
              have z2 : decide (0 ≤ bk) = true := decide_eq_true m3
              have z3 : decide (bk ≤ 255) = false := decide_eq_false m4
              go_wp2_with fail
              all_goals go_ret
              all_goals exact ⟨rfl, BW.out.trans (B.out.mono BW.out.size)⟩
          · rw [decide_eq_false mo]
            have hr3 : okCl y3 ↔ bk = 0 := by
              rw [HY3.out]
              exact fld_blk0 x bk OK.out mo
            have H3' := Lib.hid (show ∀ W, Calls Try.prog 15 #[.agg e3] W (RetB (.bool (decide (bk = 0))) W) from fun W => by rw [← decide_iff hr3]; exact H3.out W)
            clear hr3 mo
            go_wp2_with (first
              | (refine wpList_load_row rfl 27 (.tmp 9) rfl g9 rfl 27 e3 (0, 0) _ D.out Try.underlying27 rfl HI3.out ?_))
            refine (H3'.out _).mono ?_
            rintro e w12 ⟨rfl, bw⟩
            have B' := Lib.hid (B.out.trans (bw.mono B.out.size))
            have D' := Lib.hid (Blk.below D.out bw)
            clear bw B D
            have B := Lib.hid B'.out
            have D := Lib.hid D'.out
            clear B' D'
            by_cases m3 : bk = 0
            · rw [decide_eq_true m3]
              have z1 : (bk == 0) = true := by simpa using m3
              go_wp2_with fail
              all_goals go_ret
              all_goals exact ⟨rfl, BW.out.trans (B.out.mono BW.out.size)⟩
            · rw [decide_eq_false m3]
              have z1 : (bk == 0) = false := by simpa using m3
              go_wp2_with fail
              all_goals go_ret
              all_goals exact ⟨rfl, BW.out.trans (B.out.mono BW.out.size)⟩
      · have n4 : decide ((NU : Int) < 1) = false := decide_eq_false (by omega)
        have n4b : decide (NU < 1) = false := decide_eq_false (by omega)
        have n5 : decide ((65535 : Int) < (NU : Int)) = false := decide_eq_false (by omega)
        have n5b : decide (65535 < NU) = false := decide_eq_false (by omega)
        have n6 : decide ((NU : Int) ≤ 65535) = true := decide_eq_true (by omega)
        have n7 : decide (NU ≤ 65535) = true := decide_eq_true (by omega)
        have n8 : decide ((NU : Int) ≥ (xn : Int)) = decide (xn ≤ NU) := decide_iff (by omega)
        by_cases c3 : xn ≤ NU
        · have n9 : decide (xn ≤ NU) = true := decide_eq_true c3
          rw [n9] at n8
          have h2 : ∀ W, Calls Try.prog 15 #[.agg e2] W (RetB (.bool true) W) := fun W => by have h := H2.out W; rw [decide_eq_true (hgood c3 (by omega))] at h; exact h
          have HB2 := Lib.hid h2
          clear h2 hbad hgood hxn c1 c2 c3 hx1
          go_wp2_with (first | (refine wpList_load_row rfl 27 (.tmp 9) rfl g9 rfl 27 e2 (0, 0) _ D.out Try.underlying27 rfl HI2.out ?_) | (refine wpList_execgC (v := .agg e2) (w' := w7) rfl ?hl ?_; case hl => exact exec_load 27 (.tmp 9) rfl rfl D.out Try.underlying27 rfl HI2.out))
          refine (HB2.out _).mono ?_
          rintro e w8 ⟨rfl, bw⟩
          have B' := Lib.hid (B.out.trans (bw.mono B.out.size))
          have D' := Lib.hid (Blk.below D.out bw)
          clear bw B D
          have B := Lib.hid B'.out
          have D := Lib.hid D'.out
          clear B' D'
          have q3 := ((Blk.below X.out B.out).cell 1).trans HXX.out.2.1
          rw [← HXN.out] at q3
          go_upto_region 14 with (first
            | (refine wpList_load_row rfl 27 (.tmp 4) rfl w.heap.size rfl 27 cs (0, 0) _ (Blk.below X.out B.out) Try.underlying27 rfl HI.out ?_)
            | (refine wpList_store_row rfl 27 (.tmp 9) (.tmp 61) rfl g9 cs rfl rfl 27 e2 D.out HI.out HZ.out.2.1 HO.out ?_))
          obtain ⟨w9, hw⟩ : ∃ v, v = w8.setRow g9 cs := ⟨_, rfl⟩
          rw [← hw]
          have D' := Lib.hid (show Blk w9 g9 cs 27 from by rw [hw]; exact setRow_heap _ _ _ _ _ _ D.out)
          have B' := Lib.hid (show Below w0.heap.size w0 w9 from by rw [hw]; exact below_setRow B.out HG.out _)
          clear hw D B
          have D := Lib.hid D'.out
          have B := Lib.hid B'.out
          clear D' B'
          have cc := (D.out.cell 5).trans HXX.out.2.2
          have fz := blk_frozen D.out 5
          go_upto_region 15 with fail
          obtain ⟨w10, hw⟩ : ∃ v, v = w9.setCell ⟨g9, 5, none⟩ (.int .i64 bk) := ⟨_, rfl⟩
          rw [← hw]
          have D' := Lib.hid (show Blk w10 g9 e3 27 from by rw [hw, ← HSET3.out]; exact heap_setCell_same _ _ _ _ _ _ D.out)
          have B' := Lib.hid (show Below w0.heap.size w0 w10 from by rw [hw]; exact B.out.setCell HG.out _)
          clear cc fz hw D B
          have D := Lib.hid D'.out
          have B := Lib.hid B'.out
          clear D' B'
          go_wp2_with (first
            | (refine wpList_load_row rfl 27 (.tmp 4) rfl w.heap.size rfl 27 cs (0, 0) _ (Blk.below X.out B.out) Try.underlying27 rfl HI.out ?_))
          refine (HMO.out _).mono ?_
          rintro e w11 ⟨rfl, bw⟩
          have B' := Lib.hid (B.out.trans (bw.mono B.out.size))
          have D' := Lib.hid (Blk.below D.out bw)
          clear bw B D
          have B := Lib.hid B'.out
          have D := Lib.hid D'.out
          clear B' D'
          by_cases mo : x.kind = 1 ∨ x.kind = 2 ∨ x.kind = 3
          · rw [decide_eq_true mo]
            have hr3 : okCl y3 ↔ 0 ≤ bk ∧ bk ≤ 255 := by
              rw [HY3.out]
              exact fld_blk x bk OK.out mo
            have H3' := Lib.hid (show ∀ W, Calls Try.prog 15 #[.agg e3] W (RetB (.bool (decide (0 ≤ bk ∧ bk ≤ 255))) W) from fun W => by rw [← decide_iff hr3]; exact H3.out W)
            clear hr3 mo
            go_wp2_with (first
              | (refine wpList_load_row rfl 27 (.tmp 9) rfl g9 rfl 27 e3 (0, 0) _ D.out Try.underlying27 rfl HI3.out ?_))
            refine (H3'.out _).mono ?_
            rintro e w12 ⟨rfl, bw⟩
            have B' := Lib.hid (B.out.trans (bw.mono B.out.size))
            have D' := Lib.hid (Blk.below D.out bw)
            clear bw B D
            have B := Lib.hid B'.out
            have D := Lib.hid D'.out
            clear B' D'
            by_cases m3 : 0 ≤ bk
            rotate_left
            · rw [decide_eq_false (fun h => m3 h.1)]
              have z1 : decide (bk ≥ 0) = false := decide_eq_false (by omega)
              have z2 : decide (0 ≤ bk) = false := decide_eq_false m3
              go_wp2_with fail
              all_goals go_ret
              all_goals exact ⟨rfl, BW.out.trans (B.out.mono BW.out.size)⟩
            by_cases m4 : bk ≤ 255
            · rw [decide_eq_true ⟨m3, m4⟩]
              have z1 : decide (bk ≥ 0) = true := decide_eq_true (by omega)
              have z2 : decide (0 ≤ bk) = true := decide_eq_true m3
              have z3 : decide (bk ≤ 255) = true := decide_eq_true m4
              go_wp2_with fail
              all_goals go_ret
              all_goals exact ⟨rfl, BW.out.trans (B.out.mono BW.out.size)⟩
            · rw [decide_eq_false (fun h => m4 h.2)]
              have z1 : decide (bk ≥ 0) = true := decide_eq_true (by omega)
              have z2 : decide (0 ≤ bk) = true := decide_eq_true m3
              have z3 : decide (bk ≤ 255) = false := decide_eq_false m4
              go_wp2_with fail
              all_goals go_ret
              all_goals exact ⟨rfl, BW.out.trans (B.out.mono BW.out.size)⟩
          · rw [decide_eq_false mo]
            have hr3 : okCl y3 ↔ bk = 0 := by
              rw [HY3.out]
              exact fld_blk0 x bk OK.out mo
            have H3' := Lib.hid (show ∀ W, Calls Try.prog 15 #[.agg e3] W (RetB (.bool (decide (bk = 0))) W) from fun W => by rw [← decide_iff hr3]; exact H3.out W)
            clear hr3 mo
            go_wp2_with (first
              | (refine wpList_load_row rfl 27 (.tmp 9) rfl g9 rfl 27 e3 (0, 0) _ D.out Try.underlying27 rfl HI3.out ?_))
            refine (H3'.out _).mono ?_
            rintro e w12 ⟨rfl, bw⟩
            have B' := Lib.hid (B.out.trans (bw.mono B.out.size))
            have D' := Lib.hid (Blk.below D.out bw)
            clear bw B D
            have B := Lib.hid B'.out
            have D := Lib.hid D'.out
            clear B' D'
            by_cases m3 : bk = 0
            · rw [decide_eq_true m3]
              have z1 : (bk == 0) = true := by simpa using m3
              go_wp2_with fail
              all_goals go_ret
              all_goals exact ⟨rfl, BW.out.trans (B.out.mono BW.out.size)⟩
            · rw [decide_eq_false m3]
              have z1 : (bk == 0) = false := by simpa using m3
              go_wp2_with fail
              all_goals go_ret
              all_goals exact ⟨rfl, BW.out.trans (B.out.mono BW.out.size)⟩
        · have n9 : decide (xn ≤ NU) = false := decide_eq_false c3
          rw [n9] at n8
          clear hbad hgood hxn c1 c2 c3 hx1
          go_upto_region 14 with (first
            | (refine wpList_load_row rfl 27 (.tmp 4) rfl w.heap.size rfl 27 cs (0, 0) _ (Blk.below X.out B.out) Try.underlying27 rfl HI.out ?_)
            | (refine wpList_store_row rfl 27 (.tmp 9) (.tmp 61) rfl g9 cs rfl rfl 27 e2 D.out HI.out HZ.out.2.1 HO.out ?_))
          obtain ⟨w9, hw⟩ : ∃ v, v = w7.setRow g9 cs := ⟨_, rfl⟩
          rw [← hw]
          have D' := Lib.hid (show Blk w9 g9 cs 27 from by rw [hw]; exact setRow_heap _ _ _ _ _ _ D.out)
          have B' := Lib.hid (show Below w0.heap.size w0 w9 from by rw [hw]; exact below_setRow B.out HG.out _)
          clear hw D B
          have D := Lib.hid D'.out
          have B := Lib.hid B'.out
          clear D' B'
          have cc := (D.out.cell 5).trans HXX.out.2.2
          have fz := blk_frozen D.out 5
          go_upto_region 15 with fail
          obtain ⟨w10, hw⟩ : ∃ v, v = w9.setCell ⟨g9, 5, none⟩ (.int .i64 bk) := ⟨_, rfl⟩
          rw [← hw]
          have D' := Lib.hid (show Blk w10 g9 e3 27 from by rw [hw, ← HSET3.out]; exact heap_setCell_same _ _ _ _ _ _ D.out)
          have B' := Lib.hid (show Below w0.heap.size w0 w10 from by rw [hw]; exact B.out.setCell HG.out _)
          clear cc fz hw D B
          have D := Lib.hid D'.out
          have B := Lib.hid B'.out
          clear D' B'
          go_wp2_with (first
            | (refine wpList_load_row rfl 27 (.tmp 4) rfl w.heap.size rfl 27 cs (0, 0) _ (Blk.below X.out B.out) Try.underlying27 rfl HI.out ?_))
          refine (HMO.out _).mono ?_
          rintro e w11 ⟨rfl, bw⟩
          have B' := Lib.hid (B.out.trans (bw.mono B.out.size))
          have D' := Lib.hid (Blk.below D.out bw)
          clear bw B D
          have B := Lib.hid B'.out
          have D := Lib.hid D'.out
          clear B' D'
          by_cases mo : x.kind = 1 ∨ x.kind = 2 ∨ x.kind = 3
          · rw [decide_eq_true mo]
            have hr3 : okCl y3 ↔ 0 ≤ bk ∧ bk ≤ 255 := by
              rw [HY3.out]
              exact fld_blk x bk OK.out mo
            have H3' := Lib.hid (show ∀ W, Calls Try.prog 15 #[.agg e3] W (RetB (.bool (decide (0 ≤ bk ∧ bk ≤ 255))) W) from fun W => by rw [← decide_iff hr3]; exact H3.out W)
            clear hr3 mo
            go_wp2_with (first
              | (refine wpList_load_row rfl 27 (.tmp 9) rfl g9 rfl 27 e3 (0, 0) _ D.out Try.underlying27 rfl HI3.out ?_))
            refine (H3'.out _).mono ?_
            rintro e w12 ⟨rfl, bw⟩
            have B' := Lib.hid (B.out.trans (bw.mono B.out.size))
            have D' := Lib.hid (Blk.below D.out bw)
            clear bw B D
            have B := Lib.hid B'.out
            have D := Lib.hid D'.out
            clear B' D'
            by_cases m3 : 0 ≤ bk
            rotate_left
            · rw [decide_eq_false (fun h => m3 h.1)]
              have z1 : decide (bk ≥ 0) = false := decide_eq_false (by omega)
              have z2 : decide (0 ≤ bk) = false := decide_eq_false m3
              go_wp2_with fail
              all_goals go_ret
              all_goals exact ⟨rfl, BW.out.trans (B.out.mono BW.out.size)⟩
            by_cases m4 : bk ≤ 255
            · rw [decide_eq_true ⟨m3, m4⟩]
              have z1 : decide (bk ≥ 0) = true := decide_eq_true (by omega)
              have z2 : decide (0 ≤ bk) = true := decide_eq_true m3
              have z3 : decide (bk ≤ 255) = true := decide_eq_true m4
              go_wp2_with fail
              all_goals go_ret
              all_goals exact ⟨rfl, BW.out.trans (B.out.mono BW.out.size)⟩
            · rw [decide_eq_false (fun h => m4 h.2)]
              have z1 : decide (bk ≥ 0) = true := decide_eq_true (by omega)
              have z2 : decide (0 ≤ bk) = true := decide_eq_true m3
              have z3 : decide (bk ≤ 255) = false := decide_eq_false m4
              go_wp2_with fail
              all_goals go_ret
              all_goals exact ⟨rfl, BW.out.trans (B.out.mono BW.out.size)⟩
          · rw [decide_eq_false mo]
            have hr3 : okCl y3 ↔ bk = 0 := by
              rw [HY3.out]
              exact fld_blk0 x bk OK.out mo
            have H3' := Lib.hid (show ∀ W, Calls Try.prog 15 #[.agg e3] W (RetB (.bool (decide (bk = 0))) W) from fun W => by rw [← decide_iff hr3]; exact H3.out W)
            clear hr3 mo
            go_wp2_with (first
              | (refine wpList_load_row rfl 27 (.tmp 9) rfl g9 rfl 27 e3 (0, 0) _ D.out Try.underlying27 rfl HI3.out ?_))
            refine (H3'.out _).mono ?_
            rintro e w12 ⟨rfl, bw⟩
            have B' := Lib.hid (B.out.trans (bw.mono B.out.size))
            have D' := Lib.hid (Blk.below D.out bw)
            clear bw B D
            have B := Lib.hid B'.out
            have D := Lib.hid D'.out
            clear B' D'
            by_cases m3 : bk = 0
            · rw [decide_eq_true m3]
              have z1 : (bk == 0) = true := by simpa using m3
              go_wp2_with fail
              all_goals go_ret
              all_goals exact ⟨rfl, BW.out.trans (B.out.mono BW.out.size)⟩
            · rw [decide_eq_false m3]
              have z1 : (bk == 0) = false := by simpa using m3
              go_wp2_with fail
              all_goals go_ret
              all_goals exact ⟨rfl, BW.out.trans (B.out.mono BW.out.size)⟩
theorem cellFields_own : ownKnob Try.prog.godebug = none := by kernel_rfl
theorem cellFields_laid : laidOutB Try.prog = true := by kernel_rfl

set_option maxRecDepth 100000 in
theorem cellFields_lifted (os : Os) (started : os.Started) (H : Type) (enc : TypeId × Value → H) :
    ReturnsInHanded {} Try.checked os 10 .any (Rows.cellFieldsSpec.pre6 enc Try.prog Try.f10 Rows.cellFieldsRow.domain false) (Rows.cellFieldsSpec.post enc Try.prog Try.f10 false true false false) := by
  refine returnsInHanded_of_change (C := Try.checked) cellFields_own started (by kernel_rfl) Try.func10
    (ChangeSpec.witness6 (enc := enc) (C := Try.checked) false ⟨#[], #[.agg #[.int .i64 0, .int .u64 0, .int .i64 0, .int .i64 0, .int .i64 0, .int .i64 0, .int .u64 0, .int .i64 0, .int .i64 0, .int .i64 0, .slice none 0 0], .int .u64 0, .int .i64 0, .int .i64 0], []⟩ 8 (by kernel_rfl) (by kernel_rfl) (by kernel_rfl) (by kernel_rfl)) ?_
  intro W base args ds gs before hval0 hW _ _
  have hval : ∀ (j : Nat) t v, Try.f10.params[j]? = some t → args[j]? = some v → Value.okWide Try.prog W .any base t v := hval0
  have hW' := hW
  obtain ⟨p, q, hA0, hV, rfl, hfz, hnd⟩ := hW
  have hA : DataW.TrodAll enc Try.prog W 0 (fun _ => true) true Try.f10.params.toList args.toList ds p := hA0
  rw [Try.params10] at hA hval
  obtain ⟨v0, vs0, d0, ds0, p0, q0, hargs, rfl, rfl, h0, r0⟩ := trodAll_cons hA
  obtain ⟨v1, vs1, d1, ds1, p1, q1, rfl, rfl, rfl, h1, r1⟩ := trodAll_cons r0
  obtain ⟨v2, vs2, d2, ds2, p2, q2, rfl, rfl, rfl, h2, r2⟩ := trodAll_cons r1
  obtain ⟨v3, vs3, d3, ds3, p3, q3, rfl, rfl, rfl, h3, r3⟩ := trodAll_cons r2
  obtain ⟨rfl, rfl, rfl⟩ := trodAll_nil r3
  obtain rfl : args = #[v0, v1, v2, v3] := by cases args; simp_all
  obtain ⟨rfl, rfl⟩ := trodVars_none hV
  have lt0 : ∀ x ∈ p0, x.block < W.heap.size := by obtain ⟨m, hm⟩ := h0; exact DataW.trod_lt m _ _ _ hm
  obtain ⟨y0, a0, c0, rfl, hb0, hc0, hm0, hr0⟩ := Ce.open_cellA (hval 0 27 v0 rfl rfl) h0
  obtain ⟨a1, rfl, rfl, rfl, w1⟩ := open_int Try.underlying22 (hval 1 22 v1 rfl rfl) h1
  have b1 := bounds_u64 w1
  obtain ⟨a2, rfl, rfl, rfl, w2⟩ := open_int Try.underlying3 (hval 2 3 v2 rfl rfl) h2
  have b2 := bounds_i64 w2
  obtain ⟨a3, rfl, rfl, rfl, w3⟩ := open_int Try.underlying3 (hval 3 3 v3 rfl rfl) h3
  have b3 := bounds_i64 w3
  clear hA0 hval0
  refine (cellFields_any W y0 a0 c0 hb0 hc0 hm0 hr0 a1 b1 a2 b2 a3 b3).mono fun e W' ⟨he, bel⟩ => ?_
  subst he
  exact ⟨_, rfl, _, _, _, [], _, [], hW', trodAll_mk1 (shut_bool Try.underlying4 _), (trodAll_cons_mk (Below.trod cellFields_laid (by kernel_rfl) (of_decide_eq_true (by kernel_rfl)) h0 bel lt0) (trodAll_cons_mk (shut_int Try.underlying22 w1) (trodAll_cons_mk (shut_int Try.underlying3 w2) (trodAll_cons_mk (shut_int Try.underlying3 w3) trodAll_mk0)))), rfl, bel.frame _, fun h => by cases h⟩

theorem cellFields_holds : Rows.CellFieldsSaid :=
  OpenClaim.holds_of_wide 10 Try.f10 rfl rfl rfl rfl rfl rfl rfl ⟨rfl, rfl, rfl, rfl, rfl⟩ rfl rfl rfl rfl rfl (by kernel_rfl) Try.func10 (by kernel_rfl)
    (of_decide_eq_true (by kernel_rfl)) (by unfold Func.isWrapper; rw [if_neg (of_decide_eq_false (by kernel_rfl))]; exact ⟨rfl, rfl⟩)
    (fun os started H enc _ => cellFields_lifted os started H enc)

#print axioms cellFields_holds

end Go.Proofs.Ytjcmmeppadhjiaa
