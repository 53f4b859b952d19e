/-
  SuperRows: through versions that rise one by one the last one is read each time, and the one ahead of it stands in the other place.
-/
import Derived.Test.YtnplhagfmfggcaaSz1
import Derived.OrdersHeld
import Derived.Deep.RegionHeld
import Derived.Test.YtnplhagfmfggcaaRows
import Derived.ProofKit
import Derived.OpenShut
import Derived.ShutString
import Derived.ChangeOld
namespace Go.Proofs.Ytnplhagfmfggcaa
open Go.RowKit Kd Mi Sx Su Go.ChangeShapes Go.WideShapes Go.ChangeAt
attribute [local go_sem ↓] Go.wp_at_zero Go.wp_at_succ
theorem cell_below {w w' : World} {a : Addr} {v : Value} (h : Below w.heap.size w w') (hc : w.cell? a = some v) : w'.cell? a = some v := by
  have hl := World.block_lt_of_cell? w _ hc
  rw [← hc]; unfold World.cell?; rw [h.block _ hl]
set_option maxRecDepth 100000 in
set_option maxHeartbeats 12800000 in
theorem superRows_any (w : World) (f0 : Int) (hf0 : 0 ≤ f0 ∧ f0 ≤ 65535) (A : Option Addr) (N c : Nat) (l : List Sp) (hl : l.length = N) (_ : N ≤ c) (hm : c ≤ maxLen) (hr : Rd w.heap.size w A (sps l)) (hz : ∀ y ∈ l, y.ok) : Calls Try.prog 11 #[.int .u16 f0, .slice A N c] w (RetB (.bool true) w) := by
  obtain ⟨fr, rfl⟩ := Int.eq_ofNat_of_zero_le hf0.1
  have HM := Lib.hid (show N ≤ 9223372036854775807 by unfold maxLen at hm; omega)
  have HF := Lib.hid (show fr ≤ 65535 by omega)
  have HR := Lib.hid hr
  have HL := Lib.hid hl
  have HZ := Lib.hid hz
  have hzs := zero_super
  have hzl : ∀ W, (zeroValue 117).run Try.prog W = .ok (.agg zeroLit) W := fun _ => by kernel_rfl
  have fw : IntKind.u64.wrap (fr : Int) = (fr : Int) := IntWalk.u64_in _ (by omega)
  clear hl hr hm hz hf0
  go_enter Try.func11, Try.ntmps11
  go_wp2_with fail
  refine (awake_any w).mono ?_
  rintro e w2 ⟨rfl, bw⟩
  have B2 := Lib.hid bw
  clear bw
  by_cases hn : 20 < N
  · have n1 : (20 : Int) < (N : Int) := by omega
    go_wp2_with fail
    go_ret
    exact ⟨rfl, B2.out⟩
  have n1 : ¬ (20 : Int) < (N : Int) := by omega
  have HN := Lib.hid (show N ≤ 20 by omega)
  clear hn
  go_wp2_with fail
  refine (pair_any w2).mono ?_
  rintro e w3 ⟨pw, g1, g2, bx, g, s3, F3, rfl, h⟩
  have H3 := Lib.hid h
  clear h
  obtain ⟨w4, hw4⟩ : ∃ W, W = w3.alloc (.cells #[.int .u64 0, .int .i64 0, .int .u64 0] 100) := ⟨_, rfl⟩
  obtain ⟨b9, hb9⟩ : ∃ b, b = w3.heap.size := ⟨_, rfl⟩
  obtain ⟨wb, hwb⟩ : ∃ W, W = w2 := ⟨_, rfl⟩
  rw [← hwb] at H3
  have H4 := Lib.hid (H3.out.below (show Below w3.heap.size w3 w4 by rw [hw4]; exact (Below.refl _ _).alloc (Nat.le_refl _) _))
  have Y9 := Lib.hid (show OB wb w4 F3 b9 (lastK fr l 0) from ⟨by rw [hw4, hb9]; exact heap_alloc_new _ _, fun hf => by have := (ML (Mu.one pw g1 g2) (gdS litS bx) g).lt H3.out.live.at_ _ hf; omega, by rw [hb9]; exact H3.out.live.bel.size⟩)
  have BB := Lib.hid (show Below w.heap.size w wb by rw [hwb]; exact B2.out)
  go_wp2_with fail
  rw [← hw4, ← hb9]
  clear hw4 hb9 hwb H3 B2
  go_loopw [10] (fun i wr => ∃ k : Nat, k ≤ N ∧ i = .int .i64 (k : Int) ∧ ∃ s' F', Hid (Mu.LM pw g1 g2 (gdS litS bx) g wb wr s' F' (Sc.startM (lkL fr l k) (lkL fr l k) 4) 0) ∧ Hid (OB wb wr F' b9 (lastK fr l k)) ∧ Hid (∀ j, j < k → okP (spK fr l j) = true)) (fun i _ => N - (intOf i).toNat)
  case atStart => exact ⟨0, Nat.zero_le _, rfl, s3, F3, H4, Y9, Lib.hid (fun j hj => by omega)⟩
  case round =>
    obtain ⟨k, hk, rfl, s4, F4, H, X9, HO⟩ := hrel
    have HK := Lib.hid hk
    have BA := Lib.hid (BB.out.trans (H.out.live.bel.mono BB.out.size))
    by_cases hlt : k < N
    · have HLT := Lib.hid hlt
      have j0 : (0 : Int) ≤ (k : Int) := by omega
      have j1 : (k : Int) < (N : Int) := by omega
      have wp1 : IntKind.i64.wrap ((k : Int) + 1) = ((k + 1 : Nat) : Int) := IntWalk.i64_in _ (by have := HM.out; omega)
      have kw : IntKind.u64.wrap (k : Int) = (k : Int) := IntWalk.u64_in _ (by have := HN.out; omega)
      have fk : IntKind.u64.wrap ((fr : Int) + (k : Int)) = ((fr + k : Nat) : Int) := IntWalk.u64_in _ (by have := HN.out; have := HF.out; omega)
      have hkl : k < l.length := by rw [HL.out]; exact hlt
      obtain ⟨ad, hA, _, hcell⟩ := rd_super (HR.out.below BA.out) hkl
      subst hA
      obtain ⟨u, hu⟩ : ∃ u, u = l[k] := ⟨_, rfl⟩
      rw [← hu] at hcell
      have hgu : l.getD k zeroP = u := by rw [List.getD_eq_getElem?_getD, List.getElem?_eq_getElem hkl, ← hu]; rfl
      have HU := Lib.hid (show u.ok by rw [hu]; exact HZ.out _ (List.getElem_mem hkl))
      obtain ⟨t, ht⟩ : ∃ t, t = spK fr l k := ⟨_, rfl⟩
      have HTE := Lib.hid ht
      have HTV := Lib.hid (show t.v = fr + k ∧ t.n = u.n ∧ t.t = u.t by rw [ht, ← hgu]; exact ⟨rfl, rfl, rfl⟩)
      have HT := Lib.hid (show t.ok from ⟨by rw [HTV.out.1]; have := HN.out; have := HF.out; omega, by rw [HTV.out.2.1]; exact HU.out.2.1, by rw [HTV.out.2.2]; exact HU.out.2.2⟩)
      have HCE := Lib.hid hcell
      have HIU := Lib.hid (show (Try.prog.info? 100).map (·.size) = some (spV u).length from super_info)
      obtain ⟨w6, hw6⟩ : ∃ W, W = wr.alloc (.cells #[.int .u64 (t.v : Int), .int .i64 t.n, .int .u64 (t.t : Int)] 100) := ⟨_, rfl⟩
      have b6 : Blk w6 wr.heap.size #[.int .u64 (t.v : Int), .int .i64 t.n, .int .u64 (t.t : Int)] 100 := by rw [hw6]; exact heap_alloc_new _ _
      have bw : Below wr.heap.size wr w6 := by rw [hw6]; exact (Below.refl _ _).alloc (Nat.le_refl _) _
      have HE1 := Lib.hid (show (fr : Int) + (k : Int) = (t.v : Int) by rw [HTV.out.1]; push_cast; rfl)
      obtain ⟨b11, hb11⟩ : ∃ b, b = wr.heap.size := ⟨_, rfl⟩
      have NF := Lib.hid (show ¬ F4 b11 ∧ wb.heap.size ≤ b11 from ⟨fun hf => by have := (ML (Mu.one pw g1 g2) (gdS litS bx) g).lt H.out.live.at_ _ hf; omega, by rw [hb11]; exact H.out.live.bel.size⟩)
      have D11 := Lib.hid (show OB wb w6 F4 b11 t from ⟨by rw [hb11]; exact b6, NF.out.1, NF.out.2⟩)
      have D9 := Lib.hid (X9.out.below bw)
      have HD := Lib.hid (H.out.below bw)
      have BD := Lib.hid (BA.out.trans (bw.mono BA.out.size))
      have NE := Lib.hid (show b9 ≠ b11 by have := X9.out.blk.lt; omega)
      clear hu hgu hcell hkl ht hlt hk b6 bw X9 H BA
      go_wp2_with first | (refine wpList_load_at rfl 100 (.tmp 35) rfl (ad.add (k * 3)) rfl HCE.out super_under rfl HIU.out ?_; change wpList _ _ _ _ (Act.put _ _ (.agg #[.int .u64 (u.v : Int), .int .i64 u.n, .int .u64 (u.t : Int)])) _)
      rw [HE1.out, ← HTV.out.2.1, ← HTV.out.2.2, ← hw6, ← hb11]
      clear hw6 hb11
      refine (may_any t w6).mono ?_
      rintro e w7 ⟨rfl, bw⟩
      have E11 := Lib.hid (D11.out.below bw)
      have E9 := Lib.hid (D9.out.below bw)
      have HE := Lib.hid (HD.out.below bw)
      have BE := Lib.hid (BD.out.trans (bw.mono BD.out.size))
      clear bw D11 D9 HD BD
      by_cases hok : okP t = true
      · have HOK := Lib.hid hok
        rw [hok]
        clear hok
        have HOKS := Lib.hid (show ∀ j, j < k + 1 → okP (spK fr l j) = true from fun j hj => by
          rcases Nat.lt_or_ge j k with h | h
          · exact HO.out j h
          · rw [show j = k by omega, ← HTE.out]; exact HOK.out)
        have HWR := Lib.hid (su_write HE.out t HT.out HOK.out (by omega))
        rw [show (lkL fr l k).set (placeP t) (secP litSumL t) = lkL fr l (k + 1) by rw [HTE.out]; rfl] at HWR
        have c0 := E11.out.blk.cell 0
        have c1 := E11.out.blk.cell 1
        have c2 := E11.out.blk.cell 2
        go_wp2_with fail
        refine HWR.out.mono ?_
        rintro e w8 ⟨rfl, s5, F5, h, hmv⟩
        have G8 := Lib.hid h
        have G11 := Lib.hid (E11.out.step hmv.new hmv.but)
        have G9 := Lib.hid (E9.out.step hmv.new hmv.but)
        clear h hmv HWR E11 E9 HE c0 c1 c2 BE
        have hfit := fun a (ha : a < 2) => lkD_fit (fr := fr) (l := l) HOKS.out (by have := HN.out; have := HF.out; have := HLT.out; omega) a ha
        have HRD := Lib.hid (su_read (_e := 0) G8.out (row_fit (lkL_at (k + 1) 0 (by omega)) (lkL_at (k + 1) 0 (by omega)) (hfit 0 (by omega)) (by omega)) (row_fit (lkL_at (k + 1) 1 (by omega)) (lkL_at (k + 1) 1 (by omega)) (hfit 1 (by omega)) (by omega)) (t, 0) (by rw [lkD_take, HTE.out]; rfl))
        unfold spA at HRD
        clear hfit
        go_wp2_with fail
        refine HRD.out.mono ?_
        rintro e w9 ⟨rfl, s6, F6, h, hmv⟩
        have b12w : ∃ W, W = w9.alloc (.cells #[.int .u64 (t.v : Int), .int .i64 t.n, .int .u64 (t.t : Int)] 100) := ⟨_, rfl⟩
        obtain ⟨w10, hw10⟩ := b12w
        have bw : Below w9.heap.size w9 w10 := by rw [hw10]; exact (Below.refl _ _).alloc (Nat.le_refl _) _
        obtain ⟨b12, hb12⟩ : ∃ b, b = w9.heap.size := ⟨_, rfl⟩
        have X12 := Lib.hid (show Blk w10 b12 #[.int .u64 (t.v : Int), .int .i64 t.n, .int .u64 (t.t : Int)] 100 by rw [hw10, hb12]; exact heap_alloc_new _ _)
        have K8 := Lib.hid (h.below bw)
        have K11 := Lib.hid ((G11.out.step hmv.new hmv.but).below bw)
        have K9 := Lib.hid ((G9.out.step hmv.new hmv.but).below bw)
        clear h hmv bw HRD G8 G11 G9
        go_wp2_with fail
        rw [← hw10, ← hb12]
        clear hw10 hb12
        refine (dump_st0 K8.out).mono ?_
        rintro e wA ⟨AD, dD, rfl, o1, bw, _⟩
        have RD := Lib.hid o1
        have X12 := Lib.hid (X12.out.below bw)
        have X11 := Lib.hid (K11.out.below bw)
        have X9 := Lib.hid (K9.out.below bw)
        have H := Lib.hid (K8.out.below bw)
        have BA := Lib.hid (BB.out.trans (H.out.live.bel.mono BB.out.size))
        clear o1 bw K8 K11 K9
        have HEQ := Lib.hid (fun W => eq_super t W)
        have HLK := Lib.hid (show lastK fr l (k + 1) = t by rw [lastK, if_neg (by omega), HTE.out]; rfl)
        obtain ⟨r, hr9⟩ : ∃ r, r = lastK fr l k := ⟨_, rfl⟩
        rw [← hr9] at X9
        have HR9 := Lib.hid hr9
        clear hr9
        by_cases hk0 : k = 0
        · have z0 : ¬ (0 : Int) < (k : Int) := by omega
          have HK0 := Lib.hid hk0
          clear hk0
          go_wp2_with fail
          refine wp_region_held_drew (S := fun w' => Blk w' b12 #[.int .u64 (t.v : Int), .int .i64 t.n, .int .u64 (t.t : Int)] 100 ∧ Blk w' b11 #[.int .u64 (t.v : Int), .int .i64 t.n, .int .u64 (t.t : Int)] 100 ∧ Blk w' b9 #[.int .u64 (r.v : Int), .int .i64 r.n, .int .u64 (r.t : Int)] 100) (by kernel_rfl) ⟨(show Blk (World.drew _) _ _ _ from X12.out), (show Blk (World.drew _) _ _ _ from X11.out.blk), (show Blk (World.drew _) _ _ _ from X9.out.blk)⟩ (fun hh => ?_)
          have HH := Lib.hid hh
          clear hh
          try simp only [List.getElem_toArray, List.getElem_cons_succ, List.getElem_cons_zero, Act.put, List.setIfInBounds_toArray, List.set_cons_zero, List.set_cons_succ]
          refine wpAnyH_take (i := 0) (v := ?v1) rfl (by kernel_rfl) (by kernel_rfl) (by kernel_rfl) (fun _ _ _ h => h) (Or.inl ⟨by rfl, fun w' hw' => ?y1⟩) HH.out ?_
          case y1 => (go_simp; try with_reducible rfl)
          try simp only [List.getElem_toArray, List.getElem_cons_zero, Act.put, List.setIfInBounds_toArray, List.set_cons_zero, List.set_cons_succ]
          refine wpAnyH_take (i := 1) (v := ?v2) rfl (by kernel_rfl) (by kernel_rfl) (by kernel_rfl) (fun _ _ _ h => h) (Or.inl ⟨by rfl, fun w' hw' => ?y2⟩) HH.out ?_
          case y2 => (go_simp; try with_reducible rfl)
          try simp only [List.getElem_toArray, List.getElem_cons_succ, List.getElem_cons_zero, Act.put, List.setIfInBounds_toArray, List.set_cons_zero, List.set_cons_succ]
          refine wpAnyH_take (i := 2) (v := ?v3) rfl (by kernel_rfl) (by kernel_rfl) (by kernel_rfl) (fun _ _ _ h => h) (Or.inl ⟨by rfl, fun w' hw' => ?y3⟩) HH.out ?_
          case y3 => (go_simp; try with_reducible rfl)
          try simp only [List.getElem_toArray, List.getElem_cons_succ, List.getElem_cons_zero, Act.put, List.setIfInBounds_toArray, List.set_cons_zero, List.set_cons_succ]
          refine wpAnyH_take (i := 3) (v := .agg #[.int .u64 (t.v : Int), .int .i64 t.n, .int .u64 (t.t : Int)]) rfl (by kernel_rfl) (by kernel_rfl) (by kernel_rfl) (fun _ _ _ h => h) (Or.inl ⟨by rfl, fun w' hw' => ?y4⟩) HH.out ?_
          case y4 => exact exec_load 100 (.tmp 12) rfl rfl hw'.1 super_under rfl super_info
          try simp only [List.getElem_toArray, List.getElem_cons_succ, List.getElem_cons_zero, Act.put, List.setIfInBounds_toArray, List.set_cons_zero, List.set_cons_succ]
          refine wpAnyH_take (i := 4) (v := .agg #[.int .u64 (t.v : Int), .int .i64 t.n, .int .u64 (t.t : Int)]) rfl (by kernel_rfl) (by kernel_rfl) (by kernel_rfl) (fun _ _ _ h => h) (Or.inl ⟨by rfl, fun w' hw' => ?y5⟩) HH.out ?_
          case y5 => exact exec_load 100 (.tmp 11) rfl rfl hw'.2.1 super_under rfl super_info
          try simp only [List.getElem_toArray, List.getElem_cons_succ, List.getElem_cons_zero, Act.put, List.setIfInBounds_toArray, List.set_cons_zero, List.set_cons_succ]
          refine wpAnyH_take (i := 5) (v := .bool false) rfl (by kernel_rfl) (by kernel_rfl) (by kernel_rfl) (fun _ _ _ h => h) (Or.inl ⟨by rfl, fun w' hw' => ?y6⟩) HH.out ?_
          case y6 => (have hq := HEQ.out; go_simp; try with_reducible rfl)
          try simp only [List.getElem_toArray, List.getElem_cons_succ, List.getElem_cons_zero, Act.put, List.setIfInBounds_toArray, List.set_cons_zero, List.set_cons_succ]
          refine wpAnyH_take (i := 6) (v := ?v7) rfl (by kernel_rfl) (by kernel_rfl) (by kernel_rfl) (fun _ _ _ h => h) (Or.inl ⟨by rfl, fun w' hw' => ?y7⟩) HH.out ?_
          case y7 => (go_simp; try with_reducible rfl)
          try simp only [List.getElem_toArray, List.getElem_cons_succ, List.getElem_cons_zero, Act.put, List.setIfInBounds_toArray, List.set_cons_zero, List.set_cons_succ]
          refine wpAnyH_take (i := 7) (v := ?v8) rfl (by kernel_rfl) (by kernel_rfl) (by kernel_rfl) (fun _ _ _ h => h) (Or.inl ⟨by rfl, fun w' hw' => ?y8⟩) HH.out ?_
          case y8 => (go_simp; try with_reducible rfl)
          try simp only [List.getElem_toArray, List.getElem_cons_succ, List.getElem_cons_zero, Act.put, List.setIfInBounds_toArray, List.set_cons_zero, List.set_cons_succ]
          refine wpAnyH_take (i := 8) (v := ?v9) rfl (by kernel_rfl) (by kernel_rfl) (by kernel_rfl) (fun _ _ _ h => h) (Or.inl ⟨by rfl, fun w' hw' => ?y9⟩) HH.out ?_
          case y9 => (go_simp; try with_reducible rfl)
          try simp only [List.getElem_toArray, List.getElem_cons_succ, List.getElem_cons_zero, Act.put, List.setIfInBounds_toArray, List.set_cons_zero, List.set_cons_succ]
          refine wpAnyH_take (i := 9) (v := ?v10) rfl (by kernel_rfl) (by kernel_rfl) (by kernel_rfl) (fun _ _ _ h => h) (Or.inl ⟨by rfl, fun w' hw' => ?y10⟩) HH.out ?_
          case y10 => (go_simp; try with_reducible rfl)
          try simp only [List.getElem_toArray, List.getElem_cons_succ, List.getElem_cons_zero, Act.put, List.setIfInBounds_toArray, List.set_cons_zero, List.set_cons_succ]
          refine wpAnyH_take (i := 10) (v := ?v11) rfl (by kernel_rfl) (by kernel_rfl) (by kernel_rfl) (fun _ _ _ h => h) (Or.inl ⟨by rfl, fun w' hw' => ?y11⟩) HH.out ?_
          case y11 => (go_simp; try with_reducible rfl)
          try simp only [List.getElem_toArray, List.getElem_cons_succ, List.getElem_cons_zero, Act.put, List.setIfInBounds_toArray, List.set_cons_zero, List.set_cons_succ]
          refine wpAnyH_take (i := 11) (v := ?v12) rfl (by kernel_rfl) (by kernel_rfl) (by kernel_rfl) (fun _ _ _ h => h) (Or.inl ⟨by rfl, fun w' hw' => ?y12⟩) HH.out ?_
          case y12 => (go_simp; try with_reducible rfl)
          try simp only [List.getElem_toArray, List.getElem_cons_succ, List.getElem_cons_zero, Act.put, List.setIfInBounds_toArray, List.set_cons_zero, List.set_cons_succ]
          refine wpAnyH_take (i := 12) (v := ?v13) rfl (by kernel_rfl) (by kernel_rfl) (by kernel_rfl) (fun _ _ _ h => h) (Or.inl ⟨by rfl, fun w' hw' => ?y13⟩) HH.out ?_
          case y13 => (go_simp; try with_reducible rfl)
          try simp only [List.getElem_toArray, List.getElem_cons_succ, List.getElem_cons_zero, Act.put, List.setIfInBounds_toArray, List.set_cons_zero, List.set_cons_succ]
          refine wpAnyH_take (i := 13) (v := ?v14) rfl (by kernel_rfl) (by kernel_rfl) (by kernel_rfl) (fun _ _ _ h => h) (Or.inl ⟨by rfl, fun w' hw' => ?y14⟩) HH.out ?_
          case y14 => (go_simp; try with_reducible rfl)
          try simp only [List.getElem_toArray, List.getElem_cons_succ, List.getElem_cons_zero, Act.put, List.setIfInBounds_toArray, List.set_cons_zero, List.set_cons_succ]
          refine wpAnyH_take (i := 14) (v := .bool false) rfl (by kernel_rfl) (by kernel_rfl) (by kernel_rfl) (fun _ _ _ h => h) (Or.inl ⟨by rfl, fun w' hw' => ?y15⟩) HH.out ?_
          case y15 =>
            have hk0 := HK0.out
            have z := z0
            go_simp
            try (first | with_reducible rfl | omega)
          try simp only [List.getElem_toArray, List.getElem_cons_succ, List.getElem_cons_zero, Act.put, List.setIfInBounds_toArray, List.set_cons_zero, List.set_cons_succ]
          refine wpAnyH_take (i := 15) (v := ?v16) rfl (by kernel_rfl) (by kernel_rfl) (by kernel_rfl) (fun _ _ _ h => h) (Or.inl ⟨by rfl, fun w' hw' => ?y16⟩) HH.out ?_
          case y16 => (go_simp; try with_reducible rfl)
          try simp only [List.getElem_toArray, List.getElem_cons_succ, List.getElem_cons_zero, Act.put, List.setIfInBounds_toArray, List.set_cons_zero, List.set_cons_succ]
          refine wpAnyH_take (i := 16) (v := undef) rfl (by kernel_rfl) (by kernel_rfl) (by kernel_rfl) (fun _ _ _ h => h) (Or.inr ⟨by rfl, rfl⟩) HH.out ?_
          try simp only [List.getElem_toArray, List.getElem_cons_succ, List.getElem_cons_zero, Act.put, List.setIfInBounds_toArray, List.set_cons_zero, List.set_cons_succ]
          refine wpAnyH_take (i := 17) (v := undef) rfl (by kernel_rfl) (by kernel_rfl) (by kernel_rfl) (fun _ _ _ h => h) (Or.inr ⟨by rfl, rfl⟩) HH.out ?_
          try simp only [List.getElem_toArray, List.getElem_cons_succ, List.getElem_cons_zero, Act.put, List.setIfInBounds_toArray, List.set_cons_zero, List.set_cons_succ]
          refine wpAnyH_take (i := 18) (v := undef) rfl (by kernel_rfl) (by kernel_rfl) (by kernel_rfl) (fun _ _ _ h => h) (Or.inr ⟨by rfl, rfl⟩) HH.out ?_
          try simp only [List.getElem_toArray, List.getElem_cons_succ, List.getElem_cons_zero, Act.put, List.setIfInBounds_toArray, List.set_cons_zero, List.set_cons_succ]
          refine wpAnyH_take (i := 19) (v := undef) rfl (by kernel_rfl) (by kernel_rfl) (by kernel_rfl) (fun _ _ _ h => h) (Or.inr ⟨by rfl, rfl⟩) HH.out ?_
          try simp only [List.getElem_toArray, List.getElem_cons_succ, List.getElem_cons_zero, Act.put, List.setIfInBounds_toArray, List.set_cons_zero, List.set_cons_succ]
          refine wpAnyH_take (i := 20) (v := undef) rfl (by kernel_rfl) (by kernel_rfl) (by kernel_rfl) (fun _ _ _ h => h) (Or.inr ⟨by rfl, rfl⟩) HH.out ?_
          try simp only [List.getElem_toArray, List.getElem_cons_succ, List.getElem_cons_zero, Act.put, List.setIfInBounds_toArray, List.set_cons_zero, List.set_cons_succ]
          refine wpAnyH_take (i := 21) (v := undef) rfl (by kernel_rfl) (by kernel_rfl) (by kernel_rfl) (fun _ _ _ h => h) (Or.inr ⟨by rfl, rfl⟩) HH.out ?_
          try simp only [List.getElem_toArray, List.getElem_cons_succ, List.getElem_cons_zero, Act.put, List.setIfInBounds_toArray, List.set_cons_zero, List.set_cons_succ]
          refine wpAnyH_take (i := 22) (v := undef) rfl (by kernel_rfl) (by kernel_rfl) (by kernel_rfl) (fun _ _ _ h => h) (Or.inr ⟨by rfl, rfl⟩) HH.out ?_
          try simp only [List.getElem_toArray, List.getElem_cons_succ, List.getElem_cons_zero, Act.put, List.setIfInBounds_toArray, List.set_cons_zero, List.set_cons_succ]
          refine wpAnyH_take (i := 23) (v := undef) rfl (by kernel_rfl) (by kernel_rfl) (by kernel_rfl) (fun _ _ _ h => h) (Or.inr ⟨by rfl, rfl⟩) HH.out ?_
          try simp only [List.getElem_toArray, List.getElem_cons_succ, List.getElem_cons_zero, Act.put, List.setIfInBounds_toArray, List.set_cons_zero, List.set_cons_succ]
          refine wpAnyH_take (i := 24) (v := undef) rfl (by kernel_rfl) (by kernel_rfl) (by kernel_rfl) (fun _ _ _ h => h) (Or.inr ⟨by rfl, rfl⟩) HH.out ?_
          try simp only [List.getElem_toArray, List.getElem_cons_succ, List.getElem_cons_zero, Act.put, List.setIfInBounds_toArray, List.set_cons_zero, List.set_cons_succ]
          refine wpAnyH_take (i := 25) (v := undef) rfl (by kernel_rfl) (by kernel_rfl) (by kernel_rfl) (fun _ _ _ h => h) (Or.inr ⟨by rfl, rfl⟩) HH.out ?_
          try simp only [List.getElem_toArray, List.getElem_cons_succ, List.getElem_cons_zero, Act.put, List.setIfInBounds_toArray, List.set_cons_zero, List.set_cons_succ]
          refine wpAnyH_take (i := 26) (v := undef) rfl (by kernel_rfl) (by kernel_rfl) (by kernel_rfl) (fun _ _ _ h => h) (Or.inr ⟨by rfl, rfl⟩) HH.out ?_
          try simp only [List.getElem_toArray, List.getElem_cons_succ, List.getElem_cons_zero, Act.put, List.setIfInBounds_toArray, List.set_cons_zero, List.set_cons_succ]
          refine wpAnyH_take (i := 27) (v := undef) rfl (by kernel_rfl) (by kernel_rfl) (by kernel_rfl) (fun _ _ _ h => h) (Or.inr ⟨by rfl, rfl⟩) HH.out ?_
          try simp only [List.getElem_toArray, List.getElem_cons_succ, List.getElem_cons_zero, Act.put, List.setIfInBounds_toArray, List.set_cons_zero, List.set_cons_succ]
          refine wpAnyH_take (i := 28) (v := undef) rfl (by kernel_rfl) (by kernel_rfl) (by kernel_rfl) (fun _ _ _ h => h) (Or.inr ⟨by rfl, rfl⟩) HH.out ?_
          try simp only [List.getElem_toArray, List.getElem_cons_succ, List.getElem_cons_zero, Act.put, List.setIfInBounds_toArray, List.set_cons_zero, List.set_cons_succ]
          refine wpAnyH_take (i := 29) (v := undef) rfl (by kernel_rfl) (by kernel_rfl) (by kernel_rfl) (fun _ _ _ h => h) (Or.inr ⟨by rfl, rfl⟩) HH.out ?_
          try simp only [List.getElem_toArray, List.getElem_cons_succ, List.getElem_cons_zero, Act.put, List.setIfInBounds_toArray, List.set_cons_zero, List.set_cons_succ]
          refine wpAnyH_take (i := 30) (v := ?v17) rfl (by kernel_rfl) (by kernel_rfl) (by kernel_rfl) (fun _ _ _ h => h) (Or.inl ⟨by rfl, fun w' hw' => ?y17⟩) HH.out ?_
          case y17 => (go_simp; try with_reducible rfl)
          try simp only [List.getElem_toArray, List.getElem_cons_succ, List.getElem_cons_zero, Act.put, List.setIfInBounds_toArray, List.set_cons_zero, List.set_cons_succ]
          refine wpAnyH_take (i := 31) (v := ?v18) rfl (by kernel_rfl) (by kernel_rfl) (by kernel_rfl) (fun _ _ _ h => h) (Or.inl ⟨by rfl, fun w' hw' => ?y18⟩) HH.out ?_
          case y18 => (go_simp; try with_reducible rfl)
          try simp only [List.getElem_toArray, List.getElem_cons_succ, List.getElem_cons_zero, Act.put, List.setIfInBounds_toArray, List.set_cons_zero, List.set_cons_succ]
          refine wpAnyH_done (by kernel_rfl) ?_ _
          clear HH
          have bdr : Below wA.heap.size wA wA.drew := (Below.refl _ _).drew
          have XA11 := Lib.hid (X11.out.below bdr)
          have XA9 := Lib.hid (X9.out.below bdr)
          have HE := Lib.hid (H.out.below bdr)
          have BE := Lib.hid (BA.out.trans ((bdr).mono BA.out.size))
          clear X11 X9 H BA
          have c0 := XA11.out.blk.cell 0
          have c1 := XA11.out.blk.cell 1
          have c2 := XA11.out.blk.cell 2
          go_wp2_with first | (refine wpList_store_row rfl 100 (.tmp 9) (.tmp 98) rfl b9 #[.int .u64 (t.v : Int), .int .i64 t.n, .int .u64 (t.t : Int)] rfl rfl 100 _ XA9.out.blk super_info rfl (by simp [Value.oneCell']) ?_)
          go_round
          case rel =>
            obtain ⟨wz, hwz⟩ : ∃ W, W = World.setRow wA.drew b9 #[.int .u64 (t.v : Int), .int .i64 t.n, .int .u64 (t.t : Int)] := ⟨_, rfl⟩
            have hbut : But (fun q => q = b9) wA.drew wz := by rw [hwz]; exact (But.refl _).setRow (S := fun q => q = b9) (.inl rfl) _
            have hx9 : OB wb wz F6 b9 (lastK fr l (k + 1)) := ⟨by rw [HLK.out, hwz]; exact setRow_heap _ _ _ _ _ _ XA9.out.blk, XA9.out.out, XA9.out.new⟩
            rw [← hwz]
            exact ⟨k + 1, HLT.out, rfl, s6, F6, Lib.hid (lm_own HE.out hbut XA9.out.out XA9.out.new), Lib.hid hx9, Lib.hid HOKS.out⟩
          case measure => have := HLT.out; simp [intOf]; omega
        · have z0 : (0 : Int) < (k : Int) := by omega
          have HK0 := Lib.hid (show 0 < k by omega)
          have HRS := Lib.hid (show r = spK fr l (k - 1) by rw [HR9.out, lastK, if_neg hk0])
          have HRO := Lib.hid (show okP r = true ∧ r.ok by
            rw [HRS.out]
            refine ⟨HO.out _ (by omega), ⟨by show fr + (k - 1) < _; have := HN.out; have := HF.out; have := HLT.out; omega, ?_, ?_⟩⟩
            · have hg : l.getD (k - 1) zeroP ∈ l := by rw [List.getD_eq_getElem?_getD, List.getElem?_eq_getElem (by rw [HL.out]; have := HLT.out; omega)]; exact List.getElem_mem _
              exact (HZ.out _ hg).2.1
            · have hg : l.getD (k - 1) zeroP ∈ l := by rw [List.getD_eq_getElem?_getD, List.getElem?_eq_getElem (by rw [HL.out]; have := HLT.out; omega)]; exact List.getElem_mem _
              exact (HZ.out _ hg).2.2)
          have HSC := Lib.hid (fun W => vsec_any r HRO.out.2 HRO.out.1 W)
          obtain ⟨y, hy⟩ : ∃ y, y = secP litSumL r := ⟨_, rfl⟩
          have HY := Lib.hid (show y.length = 128 by rw [hy]; exact len_sec r)
          have HIV := Lib.hid (show (Try.prog.info? 38).map (·.size) = some (bv y).length by rw [bv_length, HY.out]; exact info_sec)
          have HEY := Lib.hid (show ∀ W, (Op.equalIn 10000 38 (.agg (bva y)) (.agg (bva y))).run Try.prog W = .ok true W from fun W => by rw [eq_sec y y HY.out HY.out, decide_eq_true rfl])
          rw [← hy] at HSC
          obtain ⟨ad, hA, qd⟩ := rd_any RD.out (lkL_three (k + 1)) (k := placeP r) (by rw [lkL_len]; have := place_lt r; omega)
          subst hA
          rw [show (lkL fr l (k + 1)).getD (placeP r) zeroS = y by rw [hy, HRS.out]; exact lkL_elder (by omega)] at qd
          have p0 : (0 : Int) ≤ (placeP r : Int) := by omega
          have p1 : (placeP r : Int) < 4 := by have := place_lt r; omega
          clear hk0 hy RD
          go_wp2_with fail
          refine wp_region_held_drew (S := fun w' => Blk w' b12 #[.int .u64 (t.v : Int), .int .i64 t.n, .int .u64 (t.t : Int)] 100 ∧ Blk w' b11 #[.int .u64 (t.v : Int), .int .i64 t.n, .int .u64 (t.t : Int)] 100 ∧ Blk w' b9 #[.int .u64 (r.v : Int), .int .i64 r.n, .int .u64 (r.t : Int)] 100 ∧ (∀ j v, (bv y)[j]? = some v → w'.cell? ((ad.add (placeP r * 128)).add j) = some v)) (by kernel_rfl) ⟨(show Blk (World.drew _) _ _ _ from X12.out), (show Blk (World.drew _) _ _ _ from X11.out.blk), (show Blk (World.drew _) _ _ _ from X9.out.blk), qd⟩ (fun hh => ?_)
          have HH := Lib.hid hh
          clear hh
          clear qd
          try simp only [List.getElem_toArray, List.getElem_cons_succ, List.getElem_cons_zero, Act.put, List.setIfInBounds_toArray, List.set_cons_zero, List.set_cons_succ]
          refine wpAnyH_take (i := 0) (v := ?v19) rfl (by kernel_rfl) (by kernel_rfl) (by kernel_rfl) (fun _ _ _ h => h) (Or.inl ⟨by rfl, fun w' hw' => ?y19⟩) HH.out ?_
          case y19 => (go_simp; try with_reducible rfl)
          try simp only [List.getElem_toArray, List.getElem_cons_zero, Act.put, List.setIfInBounds_toArray, List.set_cons_zero, List.set_cons_succ]
          refine wpAnyH_take (i := 1) (v := ?v20) rfl (by kernel_rfl) (by kernel_rfl) (by kernel_rfl) (fun _ _ _ h => h) (Or.inl ⟨by rfl, fun w' hw' => ?y20⟩) HH.out ?_
          case y20 => (go_simp; try with_reducible rfl)
          try simp only [List.getElem_toArray, List.getElem_cons_succ, List.getElem_cons_zero, Act.put, List.setIfInBounds_toArray, List.set_cons_zero, List.set_cons_succ]
          refine wpAnyH_take (i := 2) (v := ?v21) rfl (by kernel_rfl) (by kernel_rfl) (by kernel_rfl) (fun _ _ _ h => h) (Or.inl ⟨by rfl, fun w' hw' => ?y21⟩) HH.out ?_
          case y21 => (go_simp; try with_reducible rfl)
          try simp only [List.getElem_toArray, List.getElem_cons_succ, List.getElem_cons_zero, Act.put, List.setIfInBounds_toArray, List.set_cons_zero, List.set_cons_succ]
          refine wpAnyH_take (i := 3) (v := .agg #[.int .u64 (t.v : Int), .int .i64 t.n, .int .u64 (t.t : Int)]) rfl (by kernel_rfl) (by kernel_rfl) (by kernel_rfl) (fun _ _ _ h => h) (Or.inl ⟨by rfl, fun w' hw' => ?y22⟩) HH.out ?_
          case y22 => exact exec_load 100 (.tmp 12) rfl rfl hw'.1 super_under rfl super_info
          try simp only [List.getElem_toArray, List.getElem_cons_succ, List.getElem_cons_zero, Act.put, List.setIfInBounds_toArray, List.set_cons_zero, List.set_cons_succ]
          refine wpAnyH_take (i := 4) (v := .agg #[.int .u64 (t.v : Int), .int .i64 t.n, .int .u64 (t.t : Int)]) rfl (by kernel_rfl) (by kernel_rfl) (by kernel_rfl) (fun _ _ _ h => h) (Or.inl ⟨by rfl, fun w' hw' => ?y23⟩) HH.out ?_
          case y23 => exact exec_load 100 (.tmp 11) rfl rfl hw'.2.1 super_under rfl super_info
          try simp only [List.getElem_toArray, List.getElem_cons_succ, List.getElem_cons_zero, Act.put, List.setIfInBounds_toArray, List.set_cons_zero, List.set_cons_succ]
          refine wpAnyH_take (i := 5) (v := .bool false) rfl (by kernel_rfl) (by kernel_rfl) (by kernel_rfl) (fun _ _ _ h => h) (Or.inl ⟨by rfl, fun w' hw' => ?y24⟩) HH.out ?_
          case y24 => (have hq := HEQ.out; go_simp; try with_reducible rfl)
          try simp only [List.getElem_toArray, List.getElem_cons_succ, List.getElem_cons_zero, Act.put, List.setIfInBounds_toArray, List.set_cons_zero, List.set_cons_succ]
          refine wpAnyH_take (i := 6) (v := ?v25) rfl (by kernel_rfl) (by kernel_rfl) (by kernel_rfl) (fun _ _ _ h => h) (Or.inl ⟨by rfl, fun w' hw' => ?y25⟩) HH.out ?_
          case y25 => (go_simp; try with_reducible rfl)
          try simp only [List.getElem_toArray, List.getElem_cons_succ, List.getElem_cons_zero, Act.put, List.setIfInBounds_toArray, List.set_cons_zero, List.set_cons_succ]
          refine wpAnyH_take (i := 7) (v := ?v26) rfl (by kernel_rfl) (by kernel_rfl) (by kernel_rfl) (fun _ _ _ h => h) (Or.inl ⟨by rfl, fun w' hw' => ?y26⟩) HH.out ?_
          case y26 => (go_simp; try with_reducible rfl)
          try simp only [List.getElem_toArray, List.getElem_cons_succ, List.getElem_cons_zero, Act.put, List.setIfInBounds_toArray, List.set_cons_zero, List.set_cons_succ]
          refine wpAnyH_take (i := 8) (v := ?v27) rfl (by kernel_rfl) (by kernel_rfl) (by kernel_rfl) (fun _ _ _ h => h) (Or.inl ⟨by rfl, fun w' hw' => ?y27⟩) HH.out ?_
          case y27 => (go_simp; try with_reducible rfl)
          try simp only [List.getElem_toArray, List.getElem_cons_succ, List.getElem_cons_zero, Act.put, List.setIfInBounds_toArray, List.set_cons_zero, List.set_cons_succ]
          refine wpAnyH_take (i := 9) (v := ?v28) rfl (by kernel_rfl) (by kernel_rfl) (by kernel_rfl) (fun _ _ _ h => h) (Or.inl ⟨by rfl, fun w' hw' => ?y28⟩) HH.out ?_
          case y28 => (go_simp; try with_reducible rfl)
          try simp only [List.getElem_toArray, List.getElem_cons_succ, List.getElem_cons_zero, Act.put, List.setIfInBounds_toArray, List.set_cons_zero, List.set_cons_succ]
          refine wpAnyH_take (i := 10) (v := ?v29) rfl (by kernel_rfl) (by kernel_rfl) (by kernel_rfl) (fun _ _ _ h => h) (Or.inl ⟨by rfl, fun w' hw' => ?y29⟩) HH.out ?_
          case y29 => (go_simp; try with_reducible rfl)
          try simp only [List.getElem_toArray, List.getElem_cons_succ, List.getElem_cons_zero, Act.put, List.setIfInBounds_toArray, List.set_cons_zero, List.set_cons_succ]
          refine wpAnyH_take (i := 11) (v := ?v30) rfl (by kernel_rfl) (by kernel_rfl) (by kernel_rfl) (fun _ _ _ h => h) (Or.inl ⟨by rfl, fun w' hw' => ?y30⟩) HH.out ?_
          case y30 => (go_simp; try with_reducible rfl)
          try simp only [List.getElem_toArray, List.getElem_cons_succ, List.getElem_cons_zero, Act.put, List.setIfInBounds_toArray, List.set_cons_zero, List.set_cons_succ]
          refine wpAnyH_take (i := 12) (v := ?v31) rfl (by kernel_rfl) (by kernel_rfl) (by kernel_rfl) (fun _ _ _ h => h) (Or.inl ⟨by rfl, fun w' hw' => ?y31⟩) HH.out ?_
          case y31 => (go_simp; try with_reducible rfl)
          try simp only [List.getElem_toArray, List.getElem_cons_succ, List.getElem_cons_zero, Act.put, List.setIfInBounds_toArray, List.set_cons_zero, List.set_cons_succ]
          refine wpAnyH_take (i := 13) (v := ?v32) rfl (by kernel_rfl) (by kernel_rfl) (by kernel_rfl) (fun _ _ _ h => h) (Or.inl ⟨by rfl, fun w' hw' => ?y32⟩) HH.out ?_
          case y32 => (go_simp; try with_reducible rfl)
          try simp only [List.getElem_toArray, List.getElem_cons_succ, List.getElem_cons_zero, Act.put, List.setIfInBounds_toArray, List.set_cons_zero, List.set_cons_succ]
          refine wpAnyH_take (i := 14) (v := .bool true) rfl (by kernel_rfl) (by kernel_rfl) (by kernel_rfl) (fun _ _ _ h => h) (Or.inl ⟨by rfl, fun w' hw' => ?y33⟩) HH.out ?_
          case y33 =>
            have hk0 := HK0.out
            have z := z0
            go_simp
            try (first | with_reducible rfl | omega)
          try simp only [List.getElem_toArray, List.getElem_cons_succ, List.getElem_cons_zero, Act.put, List.setIfInBounds_toArray, List.set_cons_zero, List.set_cons_succ]
          refine wpAnyH_take (i := 15) (v := ?v34) rfl (by kernel_rfl) (by kernel_rfl) (by kernel_rfl) (fun _ _ _ h => h) (Or.inl ⟨by rfl, fun w' hw' => ?y34⟩) HH.out ?_
          case y34 => (go_simp; try with_reducible rfl)
          try simp only [List.getElem_toArray, List.getElem_cons_succ, List.getElem_cons_zero, Act.put, List.setIfInBounds_toArray, List.set_cons_zero, List.set_cons_succ]
          refine wpAnyH_take (i := 16) (v := ?v35) rfl (by kernel_rfl) (by kernel_rfl) (by kernel_rfl) (fun _ _ _ h => h) (Or.inl ⟨by rfl, fun w' hw' => ?y35⟩) HH.out ?_
          case y35 => (go_simp; try with_reducible rfl)
          try simp only [List.getElem_toArray, List.getElem_cons_succ, List.getElem_cons_zero, Act.put, List.setIfInBounds_toArray, List.set_cons_zero, List.set_cons_succ]
          refine wpAnyH_take (i := 17) (v := ?v36) rfl (by kernel_rfl) (by kernel_rfl) (by kernel_rfl) (fun _ _ _ h => h) (Or.inl ⟨by rfl, fun w' hw' => ?y36⟩) HH.out ?_
          case y36 => (go_simp; try with_reducible rfl)
          try simp only [List.getElem_toArray, List.getElem_cons_succ, List.getElem_cons_zero, Act.put, List.setIfInBounds_toArray, List.set_cons_zero, List.set_cons_succ]
          refine wpAnyH_take (i := 18) (v := .int .u64 (r.v : Int)) rfl (by kernel_rfl) (by kernel_rfl) (by kernel_rfl) (fun _ _ _ h => h) (Or.inl ⟨by rfl, fun w' hw' => ?y37⟩) HH.out ?_
          case y37 => (have c0 := hw'.2.2.1.cell 0; go_simp; try with_reducible rfl)
          try simp only [List.getElem_toArray, List.getElem_cons_succ, List.getElem_cons_zero, Act.put, List.setIfInBounds_toArray, List.set_cons_zero, List.set_cons_succ]
          refine wpAnyH_take (i := 19) (v := .int .u64 (placeP r : Int)) rfl (by kernel_rfl) (by kernel_rfl) (by kernel_rfl) (fun _ _ _ h => h) (Or.inl ⟨by rfl, fun w' hw' => ?y38⟩) HH.out ?_
          case y38 => (have p3 := tmod_place r; go_simp; try with_reducible rfl)
          try simp only [List.getElem_toArray, List.getElem_cons_succ, List.getElem_cons_zero, Act.put, List.setIfInBounds_toArray, List.set_cons_zero, List.set_cons_succ]
          refine wpAnyH_take (i := 20) (v := .pointer (some (ad.add (placeP r * 128)))) rfl (by kernel_rfl) (by kernel_rfl) (by kernel_rfl) (fun _ _ _ h => h) (Or.inl ⟨by rfl, fun w' hw' => ?y39⟩) HH.out ?_
          case y39 => (go_simp; try with_reducible rfl)
          try simp only [List.getElem_toArray, List.getElem_cons_succ, List.getElem_cons_zero, Act.put, List.setIfInBounds_toArray, List.set_cons_zero, List.set_cons_succ]
          refine wpAnyH_take (i := 21) (v := .agg (bva y)) rfl (by kernel_rfl) (by kernel_rfl) (by kernel_rfl) (fun _ _ _ h => h) (Or.inl ⟨by rfl, fun w' hw' => ?y40⟩) HH.out ?_
          case y40 => exact exec_load_at 38 (.tmp 86) rfl (ad.add (placeP r * 128)) rfl (hw'.2.2.2) Try.underlying38 rfl HIV.out
          try simp only [List.getElem_toArray, List.getElem_cons_succ, List.getElem_cons_zero, Act.put, List.setIfInBounds_toArray, List.set_cons_zero, List.set_cons_succ]
          refine wpAnyH_take (i := 22) (v := ?v41) rfl (by kernel_rfl) (by kernel_rfl) (by kernel_rfl) (fun _ _ _ h => h) (Or.inl ⟨by rfl, fun w' hw' => ?y41⟩) HH.out ?_
          case y41 => (go_simp; try with_reducible rfl)
          try simp only [List.getElem_toArray, List.getElem_cons_succ, List.getElem_cons_zero, Act.put, List.setIfInBounds_toArray, List.set_cons_zero, List.set_cons_succ]
          refine wpAnyH_take (i := 23) (v := .int .u64 (r.v : Int)) rfl (by kernel_rfl) (by kernel_rfl) (by kernel_rfl) (fun _ _ _ h => h) (Or.inl ⟨by rfl, fun w' hw' => ?y42⟩) HH.out ?_
          case y42 => (have c0 := hw'.2.2.1.cell 0; go_simp; try with_reducible rfl)
          try simp only [List.getElem_toArray, List.getElem_cons_succ, List.getElem_cons_zero, Act.put, List.setIfInBounds_toArray, List.set_cons_zero, List.set_cons_succ]
          refine wpAnyH_take (i := 24) (v := ?v43) rfl (by kernel_rfl) (by kernel_rfl) (by kernel_rfl) (fun _ _ _ h => h) (Or.inl ⟨by rfl, fun w' hw' => ?y43⟩) HH.out ?_
          case y43 => (go_simp; try with_reducible rfl)
          try simp only [List.getElem_toArray, List.getElem_cons_succ, List.getElem_cons_zero, Act.put, List.setIfInBounds_toArray, List.set_cons_zero, List.set_cons_succ]
          refine wpAnyH_take (i := 25) (v := .int .i64 r.n) rfl (by kernel_rfl) (by kernel_rfl) (by kernel_rfl) (fun _ _ _ h => h) (Or.inl ⟨by rfl, fun w' hw' => ?y44⟩) HH.out ?_
          case y44 => (have c0 := hw'.2.2.1.cell 1; go_simp; try with_reducible rfl)
          try simp only [List.getElem_toArray, List.getElem_cons_succ, List.getElem_cons_zero, Act.put, List.setIfInBounds_toArray, List.set_cons_zero, List.set_cons_succ]
          refine wpAnyH_take (i := 26) (v := ?v45) rfl (by kernel_rfl) (by kernel_rfl) (by kernel_rfl) (fun _ _ _ h => h) (Or.inl ⟨by rfl, fun w' hw' => ?y45⟩) HH.out ?_
          case y45 => (go_simp; try with_reducible rfl)
          try simp only [List.getElem_toArray, List.getElem_cons_succ, List.getElem_cons_zero, Act.put, List.setIfInBounds_toArray, List.set_cons_zero, List.set_cons_succ]
          refine wpAnyH_take (i := 27) (v := .int .u64 (r.t : Int)) rfl (by kernel_rfl) (by kernel_rfl) (by kernel_rfl) (fun _ _ _ h => h) (Or.inl ⟨by rfl, fun w' hw' => ?y46⟩) HH.out ?_
          case y46 => (have c0 := hw'.2.2.1.cell 2; go_simp; try with_reducible rfl)
          try simp only [List.getElem_toArray, List.getElem_cons_succ, List.getElem_cons_zero, Act.put, List.setIfInBounds_toArray, List.set_cons_zero, List.set_cons_succ]
          refine wpAnyH_ready (rs := [28]) (by kernel_rfl) (by simp) (AllReadyH.cons rfl (fun K hK => ?_) AllReadyH.nil)
          rw [if_pos (by rfl)]
          go_simp
          refine (HSC.out _).mono ?_
          rintro e wS ⟨rfl, bw⟩
          have BS := Lib.hid ((show Below wA.heap.size wA wA.drew from (Below.refl _ _).drew).trans bw)
          go_simp
          refine hK.out _ _ ⟨HH.out.1.below bw, HH.out.2.1.below bw, HH.out.2.2.1.below bw, fun j v hv => by rw [cell_below bw (HH.out.2.2.2 j v hv)]⟩ (fun hh => ?_)
          have HH' := Lib.hid hh
          clear hh hK K HH bw
          have HH := Lib.hid HH'.out
          clear HH'
          try simp only [List.getElem_toArray, List.getElem_cons_succ, List.getElem_cons_zero, Act.put, List.setIfInBounds_toArray, List.set_cons_zero, List.set_cons_succ]
          refine wpAnyH_take (i := 29) (v := .bool false) rfl (by kernel_rfl) (by kernel_rfl) (by kernel_rfl) (fun _ _ _ h => h) (Or.inl ⟨by rfl, fun w' hw' => ?y47⟩) HH.out ?_
          case y47 => (have heq := HEY.out; go_simp; try with_reducible rfl)
          try simp only [List.getElem_toArray, List.getElem_cons_succ, List.getElem_cons_zero, Act.put, List.setIfInBounds_toArray, List.set_cons_zero, List.set_cons_succ]
          refine wpAnyH_take (i := 30) (v := ?v48) rfl (by kernel_rfl) (by kernel_rfl) (by kernel_rfl) (fun _ _ _ h => h) (Or.inl ⟨by rfl, fun w' hw' => ?y48⟩) HH.out ?_
          case y48 => (go_simp; try with_reducible rfl)
          try simp only [List.getElem_toArray, List.getElem_cons_succ, List.getElem_cons_zero, Act.put, List.setIfInBounds_toArray, List.set_cons_zero, List.set_cons_succ]
          refine wpAnyH_take (i := 31) (v := ?v49) rfl (by kernel_rfl) (by kernel_rfl) (by kernel_rfl) (fun _ _ _ h => h) (Or.inl ⟨by rfl, fun w' hw' => ?y49⟩) HH.out ?_
          case y49 => (go_simp; try with_reducible rfl)
          try simp only [List.getElem_toArray, List.getElem_cons_succ, List.getElem_cons_zero, Act.put, List.setIfInBounds_toArray, List.set_cons_zero, List.set_cons_succ]
          refine wpAnyH_done (by kernel_rfl) ?_ _
          clear HH
          have bdr : Below wA.heap.size wA wS := BS.out
          have XA11 := Lib.hid (X11.out.below bdr)
          have XA9 := Lib.hid (X9.out.below bdr)
          have HE := Lib.hid (H.out.below bdr)
          have BE := Lib.hid (BA.out.trans ((bdr).mono BA.out.size))
          clear X11 X9 H BA
          have c0 := XA11.out.blk.cell 0
          have c1 := XA11.out.blk.cell 1
          have c2 := XA11.out.blk.cell 2
          go_wp2_with first | (refine wpList_store_row rfl 100 (.tmp 9) (.tmp 98) rfl b9 #[.int .u64 (t.v : Int), .int .i64 t.n, .int .u64 (t.t : Int)] rfl rfl 100 _ XA9.out.blk super_info rfl (by simp [Value.oneCell']) ?_)
          go_round
          case rel =>
            obtain ⟨wz, hwz⟩ : ∃ W, W = World.setRow wS b9 #[.int .u64 (t.v : Int), .int .i64 t.n, .int .u64 (t.t : Int)] := ⟨_, rfl⟩
            have hbut : But (fun q => q = b9) wS wz := by rw [hwz]; exact (But.refl _).setRow (S := fun q => q = b9) (.inl rfl) _
            have hx9 : OB wb wz F6 b9 (lastK fr l (k + 1)) := ⟨by rw [HLK.out, hwz]; exact setRow_heap _ _ _ _ _ _ XA9.out.blk, XA9.out.out, XA9.out.new⟩
            rw [← hwz]
            exact ⟨k + 1, HLT.out, rfl, s6, F6, Lib.hid (lm_own HE.out hbut XA9.out.out XA9.out.new), Lib.hid hx9, Lib.hid HOKS.out⟩
          case measure => have := HLT.out; simp [intOf]; omega
      · have hk : okP t = false := by simpa using hok
        rw [hk]
        clear hok hk
        go_wp2_with fail
        go_ret
        exact ⟨rfl, BE.out⟩
    · have hd : ¬ (k : Int) < (N : Int) := by omega
      go_wp2_with fail
      go_ret
      exact ⟨rfl, BA.out⟩
theorem superRows_own : ownKnob Try.prog.godebug = none := by kernel_rfl
theorem superRows_laid : laidOutB Try.prog = true := by kernel_rfl

set_option maxRecDepth 100000 in
theorem superRows_lifted (os : Os) (started : os.Started) (H : Type) (enc : TypeId × Value → H) :
    ReturnsInHanded {} Try.checked os 11 .any (Rows.superRowsSpec.pre6 enc Try.prog Try.f11 Rows.superRowsRow.domain false) (Rows.superRowsSpec.post enc Try.prog Try.f11 false true false false) := by
  refine returnsInHanded_of_change (C := Try.checked) superRows_own started (by kernel_rfl) Try.func11
    (ChangeSpec.witness6 (enc := enc) (C := Try.checked) false ⟨#[], #[.int .u16 0, .slice none 0 0], []⟩ 8 (by kernel_rfl) (by kernel_rfl) (by kernel_rfl) (by kernel_rfl)) ?_
  intro W base args ds gs before hval0 hW _ _
  have hval : ∀ (j : Nat) t v, Try.f11.params[j]? = some t → args[j]? = some v → Value.okWide Try.prog W .any base t v := hval0
  have hW' := hW
  obtain ⟨p, q, hA0, hV, rfl, hfz, hnd⟩ := hW
  have hA : DataW.TrodAll enc Try.prog W 0 (fun _ => true) true Try.f11.params.toList args.toList ds p := hA0
  rw [Try.params11] at hA hval
  obtain ⟨v0, vs0, d0, ds0, p0, q0, hargs, rfl, rfl, h0, r0⟩ := trodAll_cons hA
  obtain ⟨v1, vs1, d1, ds1, p1, q1, rfl, rfl, rfl, h1, r1⟩ := trodAll_cons r0
  obtain ⟨rfl, rfl, rfl⟩ := trodAll_nil r1
  obtain rfl : args = #[v0, v1] := by cases args; simp_all
  obtain ⟨rfl, rfl⟩ := trodVars_none hV
  obtain ⟨a0, rfl, rfl, rfl, w0⟩ := open_int Try.underlying126 (hval 0 126 v0 rfl rfl) h0
  have b0 := bounds_u16 w0
  obtain ⟨a1, n1, c1, rfl⟩ := okWide_slice Try.underlying127 (hval 1 127 v1 rfl rfl)
  have lt1 : ∀ x ∈ p1, x.block < W.heap.size := by obtain ⟨m, hm⟩ := h1; exact DataW.trod_lt m _ _ _ hm
  obtain ⟨l1, hl1, hc1, hm1, hr1, hz1⟩ := Su.open_supers h1
  clear hA0 hval0
  refine (superRows_any W a0 b0 a1 n1 c1 l1 hl1 hc1 hm1 hr1 hz1).mono fun e W' ⟨he, bel⟩ => ?_
  subst he
  exact ⟨_, rfl, _, _, _, [], _, [], hW', trodAll_mk1 (shut_bool Try.underlying4 _), (trodAll_cons_mk (shut_int Try.underlying126 w0) (trodAll_cons_mk (Below.trod superRows_laid (by kernel_rfl) (of_decide_eq_true (by kernel_rfl)) h1 bel lt1) trodAll_mk0)), rfl, bel.frame _, fun h => by cases h⟩

theorem superRows_holds : Rows.SuperRowsSaid :=
  OpenClaim.holds_of_wide 11 Try.f11 rfl rfl rfl rfl rfl rfl rfl ⟨rfl, rfl, rfl, rfl, rfl⟩ rfl rfl rfl rfl rfl (by kernel_rfl) Try.func11 (by kernel_rfl)
    (of_decide_eq_true (by kernel_rfl)) (by unfold Func.isWrapper; rw [if_neg (of_decide_eq_false (by kernel_rfl))]; exact ⟨rfl, rfl⟩)
    (fun os started H enc _ => superRows_lifted os started H enc)

#print axioms superRows_holds

end Go.Proofs.Ytnplhagfmfggcaa
