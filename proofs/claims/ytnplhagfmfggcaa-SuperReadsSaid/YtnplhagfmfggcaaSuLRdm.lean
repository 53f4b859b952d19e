/-
  SuperReads: of two supers that were written, whichever first, the one with the greater version is read, if they stand at unlike places; else the later one.
-/
import Derived.Test.YtnplhagfmfggcaaSx1
import Derived.Test.YtnplhagfmfggcaaRows
import Derived.ProofKit
import Derived.OpenShut
import Derived.ShutString
import Derived.ChangeOld
namespace Go.Proofs.Ytnplhagfmfggcaa
open Go.RowKit Kd Mi Sx Su Go.ChangeShapes Go.WideShapes Go.ChangeAt
attribute [local go_sem ↓] Go.wp_at_zero Go.wp_at_succ
/-- Which of two is read. -/
def pickR (s t : Sp) : Sp := if placeP s ≠ placeP t ∧ t.v < s.v then s else t
def twoL (s t : Sp) : List (List UInt8) := (zeros4.set (placeP s) (secP litSumL s)).set (placeP t) (secP litSumL t)
def twoD (s t : Sp) (a : Nat) : Option Sp := if placeP t = a then some t else if placeP s = a then some s else none
theorem two_at (s t : Sp) (a : Nat) : (twoL s t).getD a zeroS = secD (twoD s t a) := by
  have h1 := place_lt s
  have h2 := place_lt t
  rw [twoL, Su.set_getD (by simp [zeros4]; omega), Su.set_getD (by simp [zeros4]; omega), zeros_getD, twoD]
  split
  · rfl
  · split <;> rfl
theorem two_fit (s t : Sp) (hs : okP s = true ∧ s.v < 18446744073709551616) (ht : okP t = true ∧ t.v < 18446744073709551616) (a : Nat) : fitD a (twoD s t a) := by
  unfold twoD
  split
  · rename_i h; exact ⟨ht.1, ht.2, h⟩
  · split
    · rename_i h; exact ⟨hs.1, hs.2, h⟩
    · trivial
theorem two_take (s t : Sp) : takeD (takeD (zeroP, false) (twoD s t 0)) (twoD s t 1) = (pickR s t, true) := by
  have h1 := place_lt s
  have h2 := place_lt t
  unfold pickR twoD
  rcases (show placeP s = 0 ∨ placeP s = 1 by omega) with e1 | e1 <;> rcases (show placeP t = 0 ∨ placeP t = 1 by omega) with e2 | e2 <;> rw [e1, e2]
  · simp [takeD]
  · by_cases h : t.v < s.v
    · have h' : ¬ s.v < t.v := by omega
      simp [takeD, h, h']
    · have h' : s.v < t.v := by
        have hne : s.v ≠ t.v := fun e => by have : placeP s = placeP t := by unfold placeP; rw [e]
                                            omega
        omega
      simp [takeD, h, h']
  · by_cases h : t.v < s.v
    · simp [takeD, h]
    · simp [takeD, h]
  · simp [takeD]
set_option maxRecDepth 100000 in
set_option maxHeartbeats 12800000 in
theorem superReads_any (w : World) (s : Sp) (hs : s.ok) (t : Sp) (ht : t.ok) : Calls Try.prog 9 #[spA s, spA t] w (RetB (.bool true) w) := by
  have HS := Lib.hid hs
  have HT := Lib.hid ht
  clear hs ht
  have hzl : ∀ W, (zeroValue 117).run Try.prog W = .ok (.agg zeroLit) W := fun _ => by kernel_rfl
  have hzs := zero_super
  obtain ⟨w1, hw1⟩ : ∃ W, W = ((w.alloc (.cells #[.int .u64 (s.v : Int), .int .i64 s.n, .int .u64 (s.t : Int)] 100)).alloc (.cells #[.int .u64 (t.v : Int), .int .i64 t.n, .int .u64 (t.t : Int)] 100)) := ⟨_, rfl⟩
  have X1_s := Lib.hid (show Blk w1 w.heap.size #[.int .u64 (s.v : Int), .int .i64 s.n, .int .u64 (s.t : Int)] 100 by rw [hw1]; exact heap_alloc2_old _ _ _)
  have X1_t := Lib.hid (show Blk w1 (w.heap.size + 1) #[.int .u64 (t.v : Int), .int .i64 t.n, .int .u64 (t.t : Int)] 100 by rw [hw1]; exact heap_alloc2_new _ _ _)
  have B1 := Lib.hid (show Below w.heap.size w w1 by rw [hw1]; exact ((Below.refl _ _).alloc (Nat.le_refl _) _).alloc (by simp) _)
  unfold spA
  go_enter Try.func9, Try.ntmps9
  go_wp2_with fail
  rw [← hw1]
  clear hw1
  refine (awake_any w1).mono ?_
  rintro e wp2 ⟨rfl, bw⟩
  have Xp2_s := Lib.hid (X1_s.out.below bw)
  have Xp2_t := Lib.hid (X1_t.out.below bw)
  have Bp2 := Lib.hid (B1.out.trans (bw.mono B1.out.size))
  clear bw B1 X1_s X1_t
  have cc0 := Xp2_s.out.cell 0
  have cc1 := Xp2_s.out.cell 1
  have cc2 := Xp2_s.out.cell 2
  have cc3 := Xp2_t.out.cell 0
  have cc4 := Xp2_t.out.cell 1
  have cc5 := Xp2_t.out.cell 2
  go_wp2_with fail
  clear cc0 cc1 cc2 cc3 cc4 cc5
  refine (may_any s wp2).mono ?_
  rintro e wp3 ⟨rfl, bw⟩
  have Xp3_s := Lib.hid (Xp2_s.out.below bw)
  have Xp3_t := Lib.hid (Xp2_t.out.below bw)
  have Bp3 := Lib.hid (Bp2.out.trans (bw.mono Bp2.out.size))
  clear bw Bp2 Xp2_s Xp2_t
  by_cases hos : okP s = true
  · skip
    rw [hos]
    have HOS := Lib.hid hos
    clear hos
    have cc0 := Xp3_s.out.cell 0
    have cc1 := Xp3_s.out.cell 1
    have cc2 := Xp3_s.out.cell 2
    have cc3 := Xp3_t.out.cell 0
    have cc4 := Xp3_t.out.cell 1
    have cc5 := Xp3_t.out.cell 2
    go_wp2_with fail
    clear cc0 cc1 cc2 cc3 cc4 cc5
    refine (may_any t wp3).mono ?_
    rintro e wp4 ⟨rfl, bw⟩
    have Xp4_s := Lib.hid (Xp3_s.out.below bw)
    have Xp4_t := Lib.hid (Xp3_t.out.below bw)
    have Bp4 := Lib.hid (Bp3.out.trans (bw.mono Bp3.out.size))
    clear bw Bp3 Xp3_s Xp3_t
    by_cases hot : okP t = true
    · skip
      rw [hot]
      have HOT := Lib.hid hot
      clear hot
      have cc0 := Xp4_s.out.cell 0
      have cc1 := Xp4_s.out.cell 1
      have cc2 := Xp4_s.out.cell 2
      have cc3 := Xp4_t.out.cell 0
      have cc4 := Xp4_t.out.cell 1
      have cc5 := Xp4_t.out.cell 2
      go_wp2_with fail
      clear cc0 cc1 cc2 cc3 cc4 cc5
      refine (pair_any wp4).mono ?_
      rintro e wq5 ⟨pw, g1, g2, bx, g, sq5, Fq5, rfl, h⟩
      have Hq5 := Lib.hid h
      clear h
      have cc0 := (Xp4_s.out.below Hq5.out.live.bel).cell 0
      have cc1 := (Xp4_s.out.below Hq5.out.live.bel).cell 1
      have cc2 := (Xp4_s.out.below Hq5.out.live.bel).cell 2
      have cc3 := (Xp4_t.out.below Hq5.out.live.bel).cell 0
      have cc4 := (Xp4_t.out.below Hq5.out.live.bel).cell 1
      have cc5 := (Xp4_t.out.below Hq5.out.live.bel).cell 2
      go_wp2_with fail
      clear cc0 cc1 cc2 cc3 cc4 cc5
      have HRD := Lib.hid (su_read (d0 := none) (d1 := none) (_e := 0) Hq5.out (row_fit (zeros_getD 0) (zeros_getD 0) trivial (by omega)) (row_fit (zeros_getD 1) (zeros_getD 1) trivial (by omega)) (zeroP, 4) (by rw [show (Sc.startM zeros4 zeros4 4).read (gdS litS bx).f 0 = (zeroS, 9) from start_read (k := 0) (by omega) (by rw [zeros_getD]; exact Lo.zero_no (k := 0) (by omega))]; rfl))
      unfold spA at HRD
      refine (HRD.out).mono ?_
      rintro e wm6 ⟨rfl, sm6, Fm6, h, hmv⟩
      have Hm6 := Lib.hid (show Mu.LM pw g1 g2 (gdS litS bx) g wp4 wm6 sm6 Fm6 (Sc.startM zeros4 zeros4 4) 0 from h)
      clear h hmv Hq5
      have hq := eq_super zeroP
      have hq2 : zeroP.v = 0 ∧ zeroP.n = 0 ∧ zeroP.t = 0 := ⟨rfl, rfl, rfl⟩
      have cc0 := (Xp4_s.out.below Hm6.out.live.bel).cell 0
      have cc1 := (Xp4_s.out.below Hm6.out.live.bel).cell 1
      have cc2 := (Xp4_s.out.below Hm6.out.live.bel).cell 2
      have cc3 := (Xp4_t.out.below Hm6.out.live.bel).cell 0
      have cc4 := (Xp4_t.out.below Hm6.out.live.bel).cell 1
      have cc5 := (Xp4_t.out.below Hm6.out.live.bel).cell 2
      have cc6 : (wm6.alloc (.cells #[.int .u64 0, .int .i64 0, .int .u64 0] 100)).cell? _ = _ := ((Xp4_s.out.below Hm6.out.live.bel).below (show Below wm6.heap.size wm6 (wm6.alloc (.cells #[.int .u64 0, .int .i64 0, .int .u64 0] 100)) from (Below.refl _ _).alloc (Nat.le_refl _) _)).cell 0
      have cc7 : (wm6.alloc (.cells #[.int .u64 0, .int .i64 0, .int .u64 0] 100)).cell? _ = _ := ((Xp4_s.out.below Hm6.out.live.bel).below (show Below wm6.heap.size wm6 (wm6.alloc (.cells #[.int .u64 0, .int .i64 0, .int .u64 0] 100)) from (Below.refl _ _).alloc (Nat.le_refl _) _)).cell 1
      have cc8 : (wm6.alloc (.cells #[.int .u64 0, .int .i64 0, .int .u64 0] 100)).cell? _ = _ := ((Xp4_s.out.below Hm6.out.live.bel).below (show Below wm6.heap.size wm6 (wm6.alloc (.cells #[.int .u64 0, .int .i64 0, .int .u64 0] 100)) from (Below.refl _ _).alloc (Nat.le_refl _) _)).cell 2
      have cc9 : (wm6.alloc (.cells #[.int .u64 0, .int .i64 0, .int .u64 0] 100)).cell? _ = _ := ((Xp4_t.out.below Hm6.out.live.bel).below (show Below wm6.heap.size wm6 (wm6.alloc (.cells #[.int .u64 0, .int .i64 0, .int .u64 0] 100)) from (Below.refl _ _).alloc (Nat.le_refl _) _)).cell 0
      have cc10 : (wm6.alloc (.cells #[.int .u64 0, .int .i64 0, .int .u64 0] 100)).cell? _ = _ := ((Xp4_t.out.below Hm6.out.live.bel).below (show Below wm6.heap.size wm6 (wm6.alloc (.cells #[.int .u64 0, .int .i64 0, .int .u64 0] 100)) from (Below.refl _ _).alloc (Nat.le_refl _) _)).cell 1
      have cc11 : (wm6.alloc (.cells #[.int .u64 0, .int .i64 0, .int .u64 0] 100)).cell? _ = _ := ((Xp4_t.out.below Hm6.out.live.bel).below (show Below wm6.heap.size wm6 (wm6.alloc (.cells #[.int .u64 0, .int .i64 0, .int .u64 0] 100)) from (Below.refl _ _).alloc (Nat.le_refl _) _)).cell 2
      go_wp2_with fail
      clear cc0 cc1 cc2 cc3 cc4 cc5 cc6 cc7 cc8 cc9 cc10 cc11
      obtain ⟨wa7, hwa7⟩ : ∃ W, W = wm6.alloc (.cells #[.int .u64 0, .int .i64 0, .int .u64 0] 100) := ⟨_, rfl⟩
      have Ha7 := Lib.hid (Hm6.out.below (show Below wm6.heap.size wm6 wa7 by rw [hwa7]; exact (Below.refl _ _).alloc (Nat.le_refl _) _))
      rw [← hwa7]
      clear hwa7 Hm6
      refine (su_write Ha7.out s HS.out HOS.out (by omega)).mono ?_
      rintro e wm8 ⟨rfl, sm8, Fm8, h, hmv⟩
      have Hm8 := Lib.hid (show Mu.LM pw g1 g2 (gdS litS bx) g wp4 wm8 sm8 Fm8 (Sc.startM (zeros4.set (placeP s) (secP litSumL s)) (zeros4.set (placeP s) (secP litSumL s)) 4) 0 from h)
      clear h hmv Ha7
      have cc0 := (Xp4_s.out.below Hm8.out.live.bel).cell 0
      have cc1 := (Xp4_s.out.below Hm8.out.live.bel).cell 1
      have cc2 := (Xp4_s.out.below Hm8.out.live.bel).cell 2
      have cc3 := (Xp4_t.out.below Hm8.out.live.bel).cell 0
      have cc4 := (Xp4_t.out.below Hm8.out.live.bel).cell 1
      have cc5 := (Xp4_t.out.below Hm8.out.live.bel).cell 2
      go_wp2_with fail
      clear cc0 cc1 cc2 cc3 cc4 cc5
      refine (su_write Hm8.out t HT.out HOT.out (by omega)).mono ?_
      rintro e wm9 ⟨rfl, sm9, Fm9, h, hmv⟩
      have Hm9 := Lib.hid (show Mu.LM pw g1 g2 (gdS litS bx) g wp4 wm9 sm9 Fm9 (Sc.startM (twoL s t) (twoL s t) 4) 0 from h)
      clear h hmv Hm8
      have cc0 := (Xp4_s.out.below Hm9.out.live.bel).cell 0
      have cc1 := (Xp4_s.out.below Hm9.out.live.bel).cell 1
      have cc2 := (Xp4_s.out.below Hm9.out.live.bel).cell 2
      have cc3 := (Xp4_t.out.below Hm9.out.live.bel).cell 0
      have cc4 := (Xp4_t.out.below Hm9.out.live.bel).cell 1
      have cc5 := (Xp4_t.out.below Hm9.out.live.bel).cell 2
      go_wp2_with fail
      clear cc0 cc1 cc2 cc3 cc4 cc5
      have hso := And.intro HOS.out HS.out.1
      have hto := And.intro HOT.out HT.out.1
      have HRD := Lib.hid (su_read (_e := 0) Hm9.out (row_fit (two_at s t 0) (two_at s t 0) (two_fit s t hso hto 0) (by omega)) (row_fit (two_at s t 1) (two_at s t 1) (two_fit s t hso hto 1) (by omega)) (pickR s t, 0) (by rw [two_take]; rfl))
      clear hso hto
      obtain ⟨r, hr⟩ : ∃ r, r = pickR s t := ⟨_, rfl⟩
      rw [← hr] at HRD
      have HR := Lib.hid hr
      clear hr
      unfold spA at HRD
      refine (HRD.out).mono ?_
      rintro e wm10 ⟨rfl, sm10, Fm10, h, hmv⟩
      have Hm10 := Lib.hid (show Mu.LM pw g1 g2 (gdS litS bx) g wp4 wm10 sm10 Fm10 (Sc.startM (twoL s t) (twoL s t) 4) 0 from h)
      clear h hmv Hm9
      clear HRD hq hq2
      have m1 := tmod_place s
      have m2 := tmod_place t
      by_cases hne : placeP s = placeP t
      · skip
        have hrt : r = t := by rw [HR.out, pickR, if_neg (fun h => h.1 hne)]
        subst hrt
        have n1 : ((placeP s : Nat) : Int) = ((placeP r : Nat) : Int) := by rw [hne]
        clear hne HR
        have hq := eq_super r
        have cc0 := (Xp4_s.out.below Hm10.out.live.bel).cell 0
        have cc1 := (Xp4_s.out.below Hm10.out.live.bel).cell 1
        have cc2 := (Xp4_s.out.below Hm10.out.live.bel).cell 2
        have cc3 := (Xp4_t.out.below Hm10.out.live.bel).cell 0
        have cc4 := (Xp4_t.out.below Hm10.out.live.bel).cell 1
        have cc5 := (Xp4_t.out.below Hm10.out.live.bel).cell 2
        have cc6 : (wm10.alloc (.cells #[.int .u64 (r.v : Int), .int .i64 r.n, .int .u64 (r.t : Int)] 100)).cell? _ = _ := ((Xp4_s.out.below Hm10.out.live.bel).below (show Below wm10.heap.size wm10 (wm10.alloc (.cells #[.int .u64 (r.v : Int), .int .i64 r.n, .int .u64 (r.t : Int)] 100)) from (Below.refl _ _).alloc (Nat.le_refl _) _)).cell 0
        have cc7 : (wm10.alloc (.cells #[.int .u64 (r.v : Int), .int .i64 r.n, .int .u64 (r.t : Int)] 100)).cell? _ = _ := ((Xp4_s.out.below Hm10.out.live.bel).below (show Below wm10.heap.size wm10 (wm10.alloc (.cells #[.int .u64 (r.v : Int), .int .i64 r.n, .int .u64 (r.t : Int)] 100)) from (Below.refl _ _).alloc (Nat.le_refl _) _)).cell 1
        have cc8 : (wm10.alloc (.cells #[.int .u64 (r.v : Int), .int .i64 r.n, .int .u64 (r.t : Int)] 100)).cell? _ = _ := ((Xp4_s.out.below Hm10.out.live.bel).below (show Below wm10.heap.size wm10 (wm10.alloc (.cells #[.int .u64 (r.v : Int), .int .i64 r.n, .int .u64 (r.t : Int)] 100)) from (Below.refl _ _).alloc (Nat.le_refl _) _)).cell 2
        have cc9 : (wm10.alloc (.cells #[.int .u64 (r.v : Int), .int .i64 r.n, .int .u64 (r.t : Int)] 100)).cell? _ = _ := ((Xp4_t.out.below Hm10.out.live.bel).below (show Below wm10.heap.size wm10 (wm10.alloc (.cells #[.int .u64 (r.v : Int), .int .i64 r.n, .int .u64 (r.t : Int)] 100)) from (Below.refl _ _).alloc (Nat.le_refl _) _)).cell 0
        have cc10 : (wm10.alloc (.cells #[.int .u64 (r.v : Int), .int .i64 r.n, .int .u64 (r.t : Int)] 100)).cell? _ = _ := ((Xp4_t.out.below Hm10.out.live.bel).below (show Below wm10.heap.size wm10 (wm10.alloc (.cells #[.int .u64 (r.v : Int), .int .i64 r.n, .int .u64 (r.t : Int)] 100)) from (Below.refl _ _).alloc (Nat.le_refl _) _)).cell 1
        have cc11 : (wm10.alloc (.cells #[.int .u64 (r.v : Int), .int .i64 r.n, .int .u64 (r.t : Int)] 100)).cell? _ = _ := ((Xp4_t.out.below Hm10.out.live.bel).below (show Below wm10.heap.size wm10 (wm10.alloc (.cells #[.int .u64 (r.v : Int), .int .i64 r.n, .int .u64 (r.t : Int)] 100)) from (Below.refl _ _).alloc (Nat.le_refl _) _)).cell 2
        go_wp2_with fail
        clear cc0 cc1 cc2 cc3 cc4 cc5 cc6 cc7 cc8 cc9 cc10 cc11
        go_ret
        exact ⟨rfl, (Bp4.out.trans (Hm10.out.live.bel.mono Bp4.out.size)).alloc ((Bp4.out.trans (Hm10.out.live.bel.mono Bp4.out.size)).size) _⟩
      · skip
        have n1 : ¬ ((placeP s : Nat) : Int) = ((placeP t : Nat) : Int) := by omega
        by_cases hlt : t.v < s.v
        · skip
          have hrs : r = s := by rw [HR.out, pickR, if_pos ⟨hne, hlt⟩]
          subst hrs
          have n2 : ((t.v : Nat) : Int) < ((r.v : Nat) : Int) := by omega
          clear hne HR hlt
          have hq := eq_super r
          have cc0 := (Xp4_s.out.below Hm10.out.live.bel).cell 0
          have cc1 := (Xp4_s.out.below Hm10.out.live.bel).cell 1
          have cc2 := (Xp4_s.out.below Hm10.out.live.bel).cell 2
          have cc3 := (Xp4_t.out.below Hm10.out.live.bel).cell 0
          have cc4 := (Xp4_t.out.below Hm10.out.live.bel).cell 1
          have cc5 := (Xp4_t.out.below Hm10.out.live.bel).cell 2
          have cc6 : (wm10.alloc (.cells #[.int .u64 (r.v : Int), .int .i64 r.n, .int .u64 (r.t : Int)] 100)).cell? _ = _ := ((Xp4_s.out.below Hm10.out.live.bel).below (show Below wm10.heap.size wm10 (wm10.alloc (.cells #[.int .u64 (r.v : Int), .int .i64 r.n, .int .u64 (r.t : Int)] 100)) from (Below.refl _ _).alloc (Nat.le_refl _) _)).cell 0
          have cc7 : (wm10.alloc (.cells #[.int .u64 (r.v : Int), .int .i64 r.n, .int .u64 (r.t : Int)] 100)).cell? _ = _ := ((Xp4_s.out.below Hm10.out.live.bel).below (show Below wm10.heap.size wm10 (wm10.alloc (.cells #[.int .u64 (r.v : Int), .int .i64 r.n, .int .u64 (r.t : Int)] 100)) from (Below.refl _ _).alloc (Nat.le_refl _) _)).cell 1
          have cc8 : (wm10.alloc (.cells #[.int .u64 (r.v : Int), .int .i64 r.n, .int .u64 (r.t : Int)] 100)).cell? _ = _ := ((Xp4_s.out.below Hm10.out.live.bel).below (show Below wm10.heap.size wm10 (wm10.alloc (.cells #[.int .u64 (r.v : Int), .int .i64 r.n, .int .u64 (r.t : Int)] 100)) from (Below.refl _ _).alloc (Nat.le_refl _) _)).cell 2
          have cc9 : (wm10.alloc (.cells #[.int .u64 (r.v : Int), .int .i64 r.n, .int .u64 (r.t : Int)] 100)).cell? _ = _ := ((Xp4_t.out.below Hm10.out.live.bel).below (show Below wm10.heap.size wm10 (wm10.alloc (.cells #[.int .u64 (r.v : Int), .int .i64 r.n, .int .u64 (r.t : Int)] 100)) from (Below.refl _ _).alloc (Nat.le_refl _) _)).cell 0
          have cc10 : (wm10.alloc (.cells #[.int .u64 (r.v : Int), .int .i64 r.n, .int .u64 (r.t : Int)] 100)).cell? _ = _ := ((Xp4_t.out.below Hm10.out.live.bel).below (show Below wm10.heap.size wm10 (wm10.alloc (.cells #[.int .u64 (r.v : Int), .int .i64 r.n, .int .u64 (r.t : Int)] 100)) from (Below.refl _ _).alloc (Nat.le_refl _) _)).cell 1
          have cc11 : (wm10.alloc (.cells #[.int .u64 (r.v : Int), .int .i64 r.n, .int .u64 (r.t : Int)] 100)).cell? _ = _ := ((Xp4_t.out.below Hm10.out.live.bel).below (show Below wm10.heap.size wm10 (wm10.alloc (.cells #[.int .u64 (r.v : Int), .int .i64 r.n, .int .u64 (r.t : Int)] 100)) from (Below.refl _ _).alloc (Nat.le_refl _) _)).cell 2
          go_wp2_with fail
          clear cc0 cc1 cc2 cc3 cc4 cc5 cc6 cc7 cc8 cc9 cc10 cc11
          go_ret
          exact ⟨rfl, (Bp4.out.trans (Hm10.out.live.bel.mono Bp4.out.size)).alloc ((Bp4.out.trans (Hm10.out.live.bel.mono Bp4.out.size)).size) _⟩
        · skip
          have hrt : r = t := by rw [HR.out, pickR, if_neg (fun h => hlt h.2)]
          subst hrt
          have n2 : ¬ ((r.v : Nat) : Int) < ((s.v : Nat) : Int) := by omega
          clear hne HR hlt
          have hq := eq_super r
          have cc0 := (Xp4_s.out.below Hm10.out.live.bel).cell 0
          have cc1 := (Xp4_s.out.below Hm10.out.live.bel).cell 1
          have cc2 := (Xp4_s.out.below Hm10.out.live.bel).cell 2
          have cc3 := (Xp4_t.out.below Hm10.out.live.bel).cell 0
          have cc4 := (Xp4_t.out.below Hm10.out.live.bel).cell 1
          have cc5 := (Xp4_t.out.below Hm10.out.live.bel).cell 2
          have cc6 : (wm10.alloc (.cells #[.int .u64 (r.v : Int), .int .i64 r.n, .int .u64 (r.t : Int)] 100)).cell? _ = _ := ((Xp4_s.out.below Hm10.out.live.bel).below (show Below wm10.heap.size wm10 (wm10.alloc (.cells #[.int .u64 (r.v : Int), .int .i64 r.n, .int .u64 (r.t : Int)] 100)) from (Below.refl _ _).alloc (Nat.le_refl _) _)).cell 0
          have cc7 : (wm10.alloc (.cells #[.int .u64 (r.v : Int), .int .i64 r.n, .int .u64 (r.t : Int)] 100)).cell? _ = _ := ((Xp4_s.out.below Hm10.out.live.bel).below (show Below wm10.heap.size wm10 (wm10.alloc (.cells #[.int .u64 (r.v : Int), .int .i64 r.n, .int .u64 (r.t : Int)] 100)) from (Below.refl _ _).alloc (Nat.le_refl _) _)).cell 1
          have cc8 : (wm10.alloc (.cells #[.int .u64 (r.v : Int), .int .i64 r.n, .int .u64 (r.t : Int)] 100)).cell? _ = _ := ((Xp4_s.out.below Hm10.out.live.bel).below (show Below wm10.heap.size wm10 (wm10.alloc (.cells #[.int .u64 (r.v : Int), .int .i64 r.n, .int .u64 (r.t : Int)] 100)) from (Below.refl _ _).alloc (Nat.le_refl _) _)).cell 2
          have cc9 : (wm10.alloc (.cells #[.int .u64 (r.v : Int), .int .i64 r.n, .int .u64 (r.t : Int)] 100)).cell? _ = _ := ((Xp4_t.out.below Hm10.out.live.bel).below (show Below wm10.heap.size wm10 (wm10.alloc (.cells #[.int .u64 (r.v : Int), .int .i64 r.n, .int .u64 (r.t : Int)] 100)) from (Below.refl _ _).alloc (Nat.le_refl _) _)).cell 0
          have cc10 : (wm10.alloc (.cells #[.int .u64 (r.v : Int), .int .i64 r.n, .int .u64 (r.t : Int)] 100)).cell? _ = _ := ((Xp4_t.out.below Hm10.out.live.bel).below (show Below wm10.heap.size wm10 (wm10.alloc (.cells #[.int .u64 (r.v : Int), .int .i64 r.n, .int .u64 (r.t : Int)] 100)) from (Below.refl _ _).alloc (Nat.le_refl _) _)).cell 1
          have cc11 : (wm10.alloc (.cells #[.int .u64 (r.v : Int), .int .i64 r.n, .int .u64 (r.t : Int)] 100)).cell? _ = _ := ((Xp4_t.out.below Hm10.out.live.bel).below (show Below wm10.heap.size wm10 (wm10.alloc (.cells #[.int .u64 (r.v : Int), .int .i64 r.n, .int .u64 (r.t : Int)] 100)) from (Below.refl _ _).alloc (Nat.le_refl _) _)).cell 2
          go_wp2_with fail
          clear cc0 cc1 cc2 cc3 cc4 cc5 cc6 cc7 cc8 cc9 cc10 cc11
          go_ret
          exact ⟨rfl, (Bp4.out.trans (Hm10.out.live.bel.mono Bp4.out.size)).alloc ((Bp4.out.trans (Hm10.out.live.bel.mono Bp4.out.size)).size) _⟩
    · have hk : okP t = false := by simpa using hot
      rw [hk]
      clear hot hk
      have cc0 := Xp4_s.out.cell 0
      have cc1 := Xp4_s.out.cell 1
      have cc2 := Xp4_s.out.cell 2
      have cc3 := Xp4_t.out.cell 0
      have cc4 := Xp4_t.out.cell 1
      have cc5 := Xp4_t.out.cell 2
      go_wp2_with fail
      clear cc0 cc1 cc2 cc3 cc4 cc5
      go_ret
      exact ⟨rfl, Bp4.out⟩
  · have hk : okP s = false := by simpa using hos
    rw [hk]
    clear hos hk
    have cc0 := Xp3_s.out.cell 0
    have cc1 := Xp3_s.out.cell 1
    have cc2 := Xp3_s.out.cell 2
    have cc3 := Xp3_t.out.cell 0
    have cc4 := Xp3_t.out.cell 1
    have cc5 := Xp3_t.out.cell 2
    go_wp2_with fail
    clear cc0 cc1 cc2 cc3 cc4 cc5
    go_ret
    exact ⟨rfl, Bp3.out⟩
theorem superReads_own : ownKnob Try.prog.godebug = none := by kernel_rfl
theorem superReads_laid : laidOutB Try.prog = true := by kernel_rfl

set_option maxRecDepth 100000 in
theorem superReads_lifted (os : Os) (started : os.Started) (H : Type) (enc : TypeId × Value → H) :
    ReturnsInHanded {} Try.checked os 9 .any (Rows.superReadsSpec.pre6 enc Try.prog Try.f9 Rows.superReadsRow.domain false) (Rows.superReadsSpec.post enc Try.prog Try.f9 false true false false) := by
  refine returnsInHanded_of_change (C := Try.checked) superReads_own started (by kernel_rfl) Try.func9
    (ChangeSpec.witness6 (enc := enc) (C := Try.checked) false ⟨#[], #[.agg #[.int .u64 0, .int .i64 0, .int .u64 0], .agg #[.int .u64 0, .int .i64 0, .int .u64 0]], []⟩ 8 (by kernel_rfl) (by kernel_rfl) (by kernel_rfl) (by kernel_rfl)) ?_
  intro W base args ds gs before hval0 hW _ _
  have hval : ∀ (j : Nat) t v, Try.f9.params[j]? = some t → args[j]? = some v → Value.okWide Try.prog W .any base t v := hval0
  have hW' := hW
  obtain ⟨p, q, hA0, hV, rfl, hfz, hnd⟩ := hW
  have hA : DataW.TrodAll enc Try.prog W 0 (fun _ => true) true Try.f9.params.toList args.toList ds p := hA0
  rw [Try.params9] at hA hval
  obtain ⟨v0, vs0, d0, ds0, p0, q0, hargs, rfl, rfl, h0, r0⟩ := trodAll_cons hA
  obtain ⟨v1, vs1, d1, ds1, p1, q1, rfl, rfl, rfl, h1, r1⟩ := trodAll_cons r0
  obtain ⟨rfl, rfl, rfl⟩ := trodAll_nil r1
  obtain rfl : args = #[v0, v1] := by cases args; simp_all
  obtain ⟨rfl, rfl⟩ := trodVars_none hV
  have lt0 : ∀ x ∈ p0, x.block < W.heap.size := by obtain ⟨m, hm⟩ := h0; exact DataW.trod_lt m _ _ _ hm
  obtain ⟨x0, rfl, ox0⟩ := Su.open_super (hval 0 100 v0 rfl rfl) h0
  have lt1 : ∀ x ∈ p1, x.block < W.heap.size := by obtain ⟨m, hm⟩ := h1; exact DataW.trod_lt m _ _ _ hm
  obtain ⟨x1, rfl, ox1⟩ := Su.open_super (hval 1 100 v1 rfl rfl) h1
  clear hA0 hval0
  refine (superReads_any W x0 ox0 x1 ox1).mono fun e W' ⟨he, bel⟩ => ?_
  subst he
  exact ⟨_, rfl, _, _, _, [], _, [], hW', trodAll_mk1 (shut_bool Try.underlying4 _), (trodAll_cons_mk (Below.trod superReads_laid (by kernel_rfl) (of_decide_eq_true (by kernel_rfl)) h0 bel lt0) (trodAll_cons_mk (Below.trod superReads_laid (by kernel_rfl) (of_decide_eq_true (by kernel_rfl)) h1 bel lt1) trodAll_mk0)), rfl, bel.frame _, fun h => by cases h⟩

theorem superReads_holds : Rows.SuperReadsSaid :=
  OpenClaim.holds_of_wide 9 Try.f9 rfl rfl rfl rfl rfl rfl rfl ⟨rfl, rfl, rfl, rfl, rfl⟩ rfl rfl rfl rfl rfl (by kernel_rfl) Try.func9 (by kernel_rfl)
    (of_decide_eq_true (by kernel_rfl)) (by unfold Func.isWrapper; rw [if_neg (of_decide_eq_false (by kernel_rfl))]; exact ⟨rfl, rfl⟩)
    (fun os started H enc _ => superReads_lifted os started H enc)

#print axioms superReads_holds

end Go.Proofs.Ytnplhagfmfggcaa
