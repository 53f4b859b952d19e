/-
  The law MirrorMisses holds: a device that is out misses what is written: it isn't asked for that, also when it is there again, till Sync. For any bytes.
-/
import Derived.Test.YtfofkjcdohmkpaaMm4
import Derived.Test.YtfofkjcdohmkpaaRows
import Derived.ProofKit
import Derived.OpenShut
import Derived.ShutString
import Derived.ChangeOld
namespace Go.Proofs.Ytfofkjcdohmkpaa
open Go.RowKit Kd Mi Go.ChangeShapes Go.WideShapes Go.ChangeAt
attribute [local go_sem ↓] Go.wp_at_zero Go.wp_at_succ
theorem byte_of {a : Int} (h : 0 ≤ a ∧ a ≤ 255) : ∃ x : UInt8, a = (x.toNat : Int) := ⟨UInt8.ofNat a.toNat, by rw [UInt8.toNat_ofNat']; omega⟩
set_option maxRecDepth 100000 in
set_option maxHeartbeats 12800000 in
theorem mirrorMisses_any (w : World) (a0 : Int) (c0 : 0 ≤ a0 ∧ a0 ≤ 255) (a1 : Int) (c1 : 0 ≤ a1 ∧ a1 ≤ 255) (a2 : Int) (c2 : 0 ≤ a2 ∧ a2 ≤ 255) (a3 : Int) (c3 : 0 ≤ a3 ∧ a3 ≤ 255) (a4 : Int) (c4 : 0 ≤ a4 ∧ a4 ≤ 255) : Calls Try.prog 8 #[.int .u8 a0, .int .u8 a1, .int .u8 a2, .int .u8 a3, .int .u8 a4] w (RetB (.bool true) w) := by
  obtain ⟨u0, rfl⟩ := byte_of c0
  clear c0
  obtain ⟨u1, rfl⟩ := byte_of c1
  clear c1
  obtain ⟨u2, rfl⟩ := byte_of c2
  clear c2
  obtain ⟨u3, rfl⟩ := byte_of c3
  clear c3
  obtain ⟨u4, rfl⟩ := byte_of c4
  clear c4
  obtain ⟨z, hz0⟩ : ∃ z : List UInt8, z = zeroS := ⟨_, rfl⟩
  have hz : ∀ W, (zeroValue 38).run Try.prog W = .ok (.agg (bva z)) W := fun _ => by rw [hz0]; kernel_rfl
  have HZ3 := Lib.hid (show z.length = 128 by rw [hz0]; exact zeroS_length)
  clear hz0
  obtain ⟨k, hk0⟩ : ∃ k, k = u0.toNat % 6 := ⟨_, rfl⟩
  have HK := Lib.hid (show k < 6 by rw [hk0]; exact Nat.mod_lt _ (by omega))
  have wu : IntKind.i64.wrap (u0.toNat : Int) = (u0.toNat : Int) := IntWalk.i64_in _ (by have := UInt8.toNat_lt u0; omega)
  have hm6 : ((u0.toNat : Int)).tmod 6 = (k : Int) := by rw [hk0, Int.tmod_eq_emod_of_nonneg (by omega)]; omega
  obtain ⟨s, hs⟩ : ∃ s, s = secN u1 u2 := ⟨_, rfl⟩
  obtain ⟨t, ht⟩ : ∃ t, t = secN u3 u4 := ⟨_, rfl⟩
  have HS3 := Lib.hid (show s.length = 128 by rw [hs]; exact secN_length _ _)
  have HT3 := Lib.hid (show t.length = 128 by rw [ht]; exact secN_length _ _)
  have HIS := Lib.hid (show (Try.prog.info? 38).map (·.size) = some (bva s).size by rw [hs]; exact sec_size _ _)
  have HIT := Lib.hid (show (Try.prog.info? 38).map (·.size) = some (bva t).size by rw [ht]; exact sec_size _ _)
  have HCS := Lib.hid (show ∀ w, Calls Try.prog 30 #[.int .u8 (u1.toNat : Int), .int .u8 (u2.toNat : Int)] w (RetB (.agg (bva s)) w) from fun w => by rw [hs]; exact sector9_any w u1 u2)
  have HCT := Lib.hid (show ∀ w, Calls Try.prog 30 #[.int .u8 (u3.toNat : Int), .int .u8 (u4.toNat : Int)] w (RetB (.agg (bva t)) w) from fun w => by rw [ht]; exact sector9_any w u3 u4)
  have heq := eq_sec t t HT3.out HT3.out
  rw [decide_eq_true (rfl : t = t)] at heq
  have HQ := Lib.hid heq
  have B0 := Lib.hid (Below.refl w.heap.size w)
  clear hk0 hs ht heq
  go_enter Try.func8, Try.ntmps8
  go_wp2_with fail
  have hc := awake_any w
  refine hc.mono ?_
  clear hc
  rintro e w1 ⟨rfl, bw⟩
  have B1 := Lib.hid (B0.out.trans (bw.mono B0.out.size))
  clear bw B0
  go_wp2_with fail
  have hc := HCS.out w1
  refine hc.mono ?_
  clear hc
  rintro e w50 ⟨rfl, bw⟩
  have B50 := Lib.hid (B1.out.trans (bw.mono B1.out.size))
  clear bw B1
  go_wp2_with fail
  have hc := HCT.out w50
  refine hc.mono ?_
  clear hc
  rintro e w51 ⟨rfl, bw⟩
  have B51 := Lib.hid (B50.out.trans (bw.mono B50.out.size))
  clear bw B50
  go_wp2_with (show wpList _ _ _ ({ dst := none, op := .store 38 (.tmp 12) (.tmp 34), type := _, pos := _, after := _, guard := _ } :: _) _ _; apply Classical.byContradiction; intro hneg)
  refine hneg ?_
  clear hneg
  refine wpList_store_row rfl 38 (.tmp 12) (.tmp 34) rfl w51.heap.size (bva s) rfl rfl 38 (bva z) (heap_alloc2_old _ _ _) HIS.out (by rw [bva_size, bva_size, HS3.out, HZ3.out]) (bva_one _) ?_
  obtain ⟨w52, hw52⟩ : ∃ w52, w52 = ((w51.alloc (.cells (bva z) 38)).alloc (.cells (bva z) 38)).setRow w51.heap.size (bva s) := ⟨_, rfl⟩
  have bw : Below w51.heap.size w51 w52 := by rw [hw52]; exact below_setRow (((Below.refl _ _).alloc (Nat.le_refl _) _).alloc (by simp) _) (Nat.le_refl _) _
  have hx : Blk w52 w51.heap.size (bva s) 38 := by rw [hw52]; exact setRow_heap _ _ _ _ _ _ (heap_alloc2_old _ _ _)
  have hy : Blk w52 (w51.heap.size + 1) (bva z) 38 := by rw [hw52]; exact (setRow_other _ _ _ _ (by omega)).trans (heap_alloc2_new _ _ _)
  rw [← hw52]
  clear hw52
  obtain ⟨b, hb⟩ : ∃ b, b = w51.heap.size := ⟨_, rfl⟩
  have HBN := Lib.hid (show w51.heap.size ≤ b by omega)
  rw [← hb] at hx hy
  rw [← hb]
  clear hb
  have X52 := Lib.hid hx
  have Y52 := Lib.hid hy
  have BW52 := Lib.hid bw
  clear hx hy bw
  go_wp2_with (show wpList _ _ _ ({ dst := none, op := .store 38 (.tmp 13) (.tmp 37), type := _, pos := _, after := _, guard := _ } :: _) _ _; apply Classical.byContradiction; intro hneg)
  refine hneg ?_
  clear hneg
  refine wpList_store_row rfl 38 (.tmp 13) (.tmp 37) rfl (b + 1) (bva t) rfl rfl 38 (bva z) Y52.out HIT.out (by rw [bva_size, bva_size, HT3.out, HZ3.out]) (bva_one _) ?_
  obtain ⟨w53, hw53⟩ : ∃ w53, w53 = w52.setRow (b + 1) (bva t) := ⟨_, rfl⟩
  have bw : Below w51.heap.size w51 w53 := by rw [hw53]; exact below_setRow BW52.out (by have := HBN.out; omega) _
  have X53 := Lib.hid (show Blk w53 b (bva s) 38 by rw [hw53]; exact (setRow_other _ _ _ _ (by omega)).trans X52.out)
  have Y53 := Lib.hid (show Blk w53 (b + 1) (bva t) 38 by rw [hw53]; exact setRow_heap _ _ _ _ _ _ Y52.out)
  rw [← hw53]
  clear hw53 X52 Y52 BW52
  have B53 := Lib.hid (B51.out.trans (bw.mono B51.out.size))
  clear bw B51
  obtain ⟨gs, hgs⟩ : ∃ gs, gs = goodN (k : Int) s := ⟨_, rfl⟩
  obtain ⟨gt, hgt⟩ : ∃ gt, gt = goodN (k : Int) t := ⟨_, rfl⟩
  have HGS := Lib.hid hgs
  have HGT := Lib.hid hgt
  clear hgs hgt
  go_wp2_with (refine wpList_load_row rfl 38 (.tmp 12) rfl b rfl 38 (bva s) (0, 0) _ X53.out Try.underlying38 rfl HIS.out ?_)
  have hc := good_any w53 (k : Int) s HS3.out
  rw [← HGS.out] at hc
  refine hc.mono ?_
  clear hc
  rintro e w54 ⟨rfl, bw⟩
  have B54 := Lib.hid (B53.out.trans (bw.mono B53.out.size))
  have X54 := Lib.hid (X53.out.below bw)
  have Y54 := Lib.hid (Y53.out.below bw)
  clear bw B53 X53 Y53
  cases gs
  · go_wp2_with fail
    go_ret
    exact ⟨rfl, B54.out⟩
  ·
    go_wp2_with (refine wpList_execg8 rfl (exec_load 38 (.tmp 13) rfl rfl Y54.out Try.underlying38 rfl HIT.out) ?_)
    have hc := good_any w54 (k : Int) t HT3.out
    rw [← HGT.out] at hc
    refine hc.mono ?_
    clear hc
    rintro e w55 ⟨rfl, bw⟩
    have B55 := Lib.hid (B54.out.trans (bw.mono B54.out.size))
    have X55 := Lib.hid (X54.out.below bw)
    have Y55 := Lib.hid (Y54.out.below bw)
    clear bw B54 X54 Y54
    cases gt
    · go_wp2_with fail
      go_ret
      exact ⟨rfl, B55.out⟩
    ·
      obtain ⟨x1, x3, x6, f1, f2, f3, f4, f5, f6, f7, f8, f9, f10, f11, f12, f13, f14⟩ := miss HK.out (s := s) (t := t) HGT.out.symm
      have HF1 := Lib.hid f1
      have HF2 := Lib.hid f2
      have HF3 := Lib.hid f3
      have HF4 := Lib.hid f4
      have HF5 := Lib.hid f5
      have HF6 := Lib.hid f6
      have HF7 := Lib.hid f7
      have HF8 := Lib.hid f8
      have HF9 := Lib.hid f9
      have HF10 := Lib.hid f10
      have HF11 := Lib.hid f11
      have HF12 := Lib.hid f12
      have HF13 := Lib.hid f13
      have HF14 := Lib.hid f14
      clear f1 f2 f3 f4 f5 f6 f7 f8 f9 f10 f11 f12 f13 f14 HGS HGT
      go_wp2_with fail
      refine (live_new0 6).mono ?_
      rintro e w2 ⟨p1, g1, rfl, F2, h⟩
      have H2 := Lib.hid h
      clear h
      go_wp2_with fail
      refine (live_new0 6).mono ?_
      rintro e w3 ⟨p2, g2, rfl, F3, h⟩
      have HD3 := Lib.hid (ld_new H2.out h (see_new 6 (by omega)) (see_new 6 (by omega)))
      clear h H2
      go_wp2_with fail
      refine (lm_new (G := gG) (fun _ _ _ _ _ _ => trivial) HD3.out (n := 6) rfl rfl).mono ?_
      rintro e w4 ⟨g, s4, F4, rfl, h, hn, hb⟩
      have H4 := Lib.hid (show LM p1 g1 p2 g2 gG g w55 w4 s4 F4 (Md.new 6) 0 from h)
      clear h hn hb HD3
      go_wp2_with (refine wpList_load_row rfl 38 (.tmp 12) rfl b rfl 38 (bva s) (0, 0) _ (X55.out.below H4.out.live.bel) Try.underlying38 rfl HIS.out ?_)
      have hc := lm_write H4.out (k : Int) s HS3.out (by omega)
      rw [HF1.out] at hc
      refine hc.mono ?_
      clear hc
      rintro e w5 ⟨rfl, s5, F5, h, hm5⟩
      have H5 := Lib.hid (show LM p1 g1 p2 g2 gG g w55 w5 s5 F5 x1 (0 + 2) from h)
      clear h hm5 H4
      go_wp2_with fail
      have hc := lm_flush H5.out
      rw [HF2.out, HF3.out, if_neg (by simp)] at hc
      refine hc.mono ?_
      clear hc
      rintro e w6 ⟨rfl, s6, F6, h, hm6⟩
      have H6 := Lib.hid (show LM p1 g1 p2 g2 gG g w55 w6 s6 F6 x1 0 from h)
      clear h hm6 H5
      go_wp2_with fail
      have hc := lm_out0 H6.out true
      refine hc.mono ?_
      clear hc
      rintro e w7 ⟨rfl, s7, F7, h, hm7⟩
      have H7 := Lib.hid (show LM p1 g1 p2 g2 gG g w55 w7 s7 F7 (x1.out 0 true) 0 from h)
      clear h hm7 H6
      go_wp2_with (refine wpList_load_row rfl 38 (.tmp 13) rfl (b + 1) rfl 38 (bva t) (0, 0) _ (Y55.out.below H7.out.live.bel) Try.underlying38 rfl HIT.out ?_)
      have hc := lm_write H7.out (k : Int) t HT3.out (by omega)
      rw [HF4.out] at hc
      refine hc.mono ?_
      clear hc
      rintro e w8 ⟨rfl, s8, F8, h, hm8⟩
      have H8 := Lib.hid (show LM p1 g1 p2 g2 gG g w55 w8 s8 F8 x3 (0 + 2) from h)
      clear h hm8 H7
      go_wp2_with fail
      have hc := lm_flush H8.out
      rw [HF5.out, HF6.out, if_neg (by simp)] at hc
      refine hc.mono ?_
      clear hc
      rintro e w9 ⟨rfl, s9, F9, h, hm9⟩
      have H9 := Lib.hid (show LM p1 g1 p2 g2 gG g w55 w9 s9 F9 x3 0 from h)
      clear h hm9 H8
      go_wp2_with fail
      have hc := lm_out0 H9.out false
      refine hc.mono ?_
      clear hc
      rintro e w10 ⟨rfl, s10, F10, h, hm10⟩
      have H10 := Lib.hid (show LM p1 g1 p2 g2 gG g w55 w10 s10 F10 (x3.out 0 false) 0 from h)
      clear h hm10 H9
      go_wp2_with fail
      have hc := lm_read H10.out (k : Int)
      rw [show Md.read gG.f (x3.out 0 false) (k : Int) = (t, 0) from HF7.out] at hc
      refine hc.mono ?_
      clear hc
      rintro e w11 ⟨rfl, s11, F11, h, hm11⟩
      have H11 := Lib.hid (show LM p1 g1 p2 g2 gG g w55 w11 s11 F11 (x3.out 0 false) 0 from h)
      clear h hm11 H10
      go_wp2_with (show wpList _ _ _ ({ dst := none, op := .store 38 (.tmp 18) (.tmp 73), type := _, pos := _, after := _, guard := _ } :: _) _ _; apply Classical.byContradiction; intro hneg)
      refine hneg ?_
      clear hneg
      refine wpList_store_row rfl 38 (.tmp 18) (.tmp 73) rfl w11.heap.size (bva t) rfl rfl 38 (bva z) (heap_alloc_new _ _) HIT.out (by rw [bva_size, bva_size, HT3.out, HZ3.out]) (bva_one _) ?_
      obtain ⟨w12, hw12⟩ : ∃ w12, w12 = (w11.alloc (.cells (bva z) 38)).setRow w11.heap.size (bva t) := ⟨_, rfl⟩
      have bw : Below w11.heap.size w11 w12 := by rw [hw12]; exact below_setRow ((Below.refl _ _).alloc (Nat.le_refl _) _) (Nat.le_refl _) _
      have hbx : Blk w12 w11.heap.size (bva t) 38 := by rw [hw12]; exact setRow_heap _ _ _ _ _ _ (heap_alloc_new _ _)
      rw [← hw12]
      clear hw12
      obtain ⟨b12, hb12⟩ : ∃ b12, b12 = w11.heap.size := ⟨_, rfl⟩
      rw [← hb12] at hbx
      rw [← hb12]
      have R112 := Lib.hid (show Bx w55 w12 F11 b12 (bva t) 38 from ⟨hbx, by rw [hb12]; exact H11.out.live.bel.size, fun hf => by have := (ML (Two p1 g1 p2 g2) gG g).lt H11.out.live.at_ _ hf; omega⟩)
      clear hb12 hbx
      have H12 := Lib.hid (H11.out.below bw)
      clear bw H11
      go_wp2_with fail
      have hc := lm_stale H12.out
      rw [HF8.out, HF9.out] at hc
      refine hc.mono ?_
      clear hc
      rintro e w13 ⟨rfl, bw⟩
      have H13 := Lib.hid (H12.out.below bw)
      have R113 := Lib.hid (R112.out.below bw)
      clear bw H12 R112
      go_wp2_with fail
      have hc := lm_out1 H13.out true
      refine hc.mono ?_
      clear hc
      rintro e w14 ⟨rfl, s14, F14, h, hm14⟩
      have H14 := Lib.hid (show LM p1 g1 p2 g2 gG g w55 w14 s14 F14 ((x3.out 0 false).out 1 true) 0 from h)
      have R114 := Lib.hid (R113.out.step hm14)
      clear h hm14 H13 R113
      go_wp2_with fail
      have hc := lm_read H14.out (k : Int)
      rw [show (Md.read gG.f ((x3.out 0 false).out 1 true) (k : Int)).2 = 9 from HF10.out, show (Md.read gG.f ((x3.out 0 false).out 1 true) (k : Int)).1 = zeroS from HF11.out] at hc
      refine hc.mono ?_
      clear hc
      rintro e w15 ⟨rfl, s15, F15, h, hm15⟩
      have H15 := Lib.hid (show LM p1 g1 p2 g2 gG g w55 w15 s15 F15 ((x3.out 0 false).out 1 true) 0 from h)
      have R115 := Lib.hid (R114.out.step hm15)
      clear h hm15 H14 R114
      go_wp2_with (show wpList _ _ _ ({ dst := none, op := .store 38 (.tmp 22) (.tmp 86), type := _, pos := _, after := _, guard := _ } :: _) _ _; apply Classical.byContradiction; intro hneg)
      refine hneg ?_
      clear hneg
      refine wpList_store_row rfl 38 (.tmp 22) (.tmp 86) rfl w15.heap.size (bva zeroS) rfl rfl 38 (bva z) (heap_alloc_new _ _) (show (Try.prog.info? 38).map (·.size) = some (bva zeroS).size by rw [bva_size, zeroS_length]; exact info_sec) (by rw [bva_size, bva_size, zeroS_length, HZ3.out]) (bva_one _) ?_
      obtain ⟨w16, hw16⟩ : ∃ w16, w16 = (w15.alloc (.cells (bva z) 38)).setRow w15.heap.size (bva zeroS) := ⟨_, rfl⟩
      have bw : Below w15.heap.size w15 w16 := by rw [hw16]; exact below_setRow ((Below.refl _ _).alloc (Nat.le_refl _) _) (Nat.le_refl _) _
      have hbx : Blk w16 w15.heap.size (bva zeroS) 38 := by rw [hw16]; exact setRow_heap _ _ _ _ _ _ (heap_alloc_new _ _)
      rw [← hw16]
      clear hw16
      obtain ⟨b16, hb16⟩ : ∃ b16, b16 = w15.heap.size := ⟨_, rfl⟩
      rw [← hb16] at hbx
      rw [← hb16]
      have R216 := Lib.hid (show Bx w55 w16 F15 b16 (bva zeroS) 38 from ⟨hbx, by rw [hb16]; exact H15.out.live.bel.size, fun hf => by have := (ML (Two p1 g1 p2 g2) gG g).lt H15.out.live.at_ _ hf; omega⟩)
      clear hb16 hbx
      have H16 := Lib.hid (H15.out.below bw)
      have R116 := Lib.hid (R115.out.below bw)
      clear bw H15 R115
      go_wp2_with fail
      have hc := lm_out1 H16.out false
      refine hc.mono ?_
      clear hc
      rintro e w17 ⟨rfl, s17, F17, h, hm17⟩
      have H17 := Lib.hid (show LM p1 g1 p2 g2 gG g w55 w17 s17 F17 (((x3.out 0 false).out 1 true).out 1 false) 0 from h)
      have R117 := Lib.hid (R116.out.step hm17)
      have R217 := Lib.hid (R216.out.step hm17)
      clear h hm17 H16 R116 R216
      go_wp2_with fail
      have hc := lm_sync H17.out (by rw [HF14.out]; omega)
      rw [show Md.sync gG.f (((x3.out 0 false).out 1 true).out 1 false) = (0, x6) from HF12.out] at hc
      refine hc.mono ?_
      clear hc
      rintro e w18 ⟨rfl, s18, F18, h, hm18⟩
      have H18 := Lib.hid (show LM p1 g1 p2 g2 gG g w55 w18 s18 F18 x6 0 from h)
      have R118 := Lib.hid (R117.out.step hm18)
      have R218 := Lib.hid (R217.out.step hm18)
      clear h hm18 H17 R117 R217
      go_wp2_with fail
      have hc := lm_out1 H18.out true
      refine hc.mono ?_
      clear hc
      rintro e w19 ⟨rfl, s19, F19, h, hm19⟩
      have H19 := Lib.hid (show LM p1 g1 p2 g2 gG g w55 w19 s19 F19 (x6.out 1 true) 0 from h)
      have R119 := Lib.hid (R118.out.step hm19)
      have R219 := Lib.hid (R218.out.step hm19)
      clear h hm19 H18 R118 R218
      go_wp2_with fail
      have hc := lm_read H19.out (k : Int)
      rw [show Md.read gG.f (x6.out 1 true) (k : Int) = (t, 0) from HF13.out] at hc
      refine hc.mono ?_
      clear hc
      rintro e w20 ⟨rfl, s20, F20, h, hm20⟩
      have H20 := Lib.hid (show LM p1 g1 p2 g2 gG g w55 w20 s20 F20 (x6.out 1 true) 0 from h)
      have R120 := Lib.hid (R119.out.step hm20)
      have R220 := Lib.hid (R219.out.step hm20)
      clear h hm20 H19 R119 R219
      go_wp2_with (show wpList _ _ _ ({ dst := none, op := .store 38 (.tmp 25) (.tmp 98), type := _, pos := _, after := _, guard := _ } :: _) _ _; apply Classical.byContradiction; intro hneg)
      refine hneg ?_
      clear hneg
      refine wpList_store_row rfl 38 (.tmp 25) (.tmp 98) rfl w20.heap.size (bva t) rfl rfl 38 (bva z) (heap_alloc_new _ _) HIT.out (by rw [bva_size, bva_size, HT3.out, HZ3.out]) (bva_one _) ?_
      obtain ⟨w21, hw21⟩ : ∃ w21, w21 = (w20.alloc (.cells (bva z) 38)).setRow w20.heap.size (bva t) := ⟨_, rfl⟩
      have bw : Below w20.heap.size w20 w21 := by rw [hw21]; exact below_setRow ((Below.refl _ _).alloc (Nat.le_refl _) _) (Nat.le_refl _) _
      have hbx : Blk w21 w20.heap.size (bva t) 38 := by rw [hw21]; exact setRow_heap _ _ _ _ _ _ (heap_alloc_new _ _)
      rw [← hw21]
      clear hw21
      obtain ⟨b21, hb21⟩ : ∃ b21, b21 = w20.heap.size := ⟨_, rfl⟩
      rw [← hb21] at hbx
      rw [← hb21]
      have R321 := Lib.hid (show Bx w55 w21 F20 b21 (bva t) 38 from ⟨hbx, by rw [hb21]; exact H20.out.live.bel.size, fun hf => by have := (ML (Two p1 g1 p2 g2) gG g).lt H20.out.live.at_ _ hf; omega⟩)
      clear hb21 hbx
      have H21 := Lib.hid (H20.out.below bw)
      have R121 := Lib.hid (R120.out.below bw)
      have R221 := Lib.hid (R220.out.below bw)
      clear bw H20 R120 R220
      have hQ := HQ.out
      go_wp2_with (first
        | (refine wpList_execg8 rfl (exec_load 38 (.tmp 18) rfl rfl R121.out.1 Try.underlying38 rfl HIT.out) ?_)
        | (refine wpList_execg8 rfl (exec_load 38 (.tmp 13) rfl rfl (Y55.out.below H21.out.live.bel) Try.underlying38 rfl HIT.out) ?_)
        | (refine wpList_execg8 rfl (exec_load 38 (.tmp 25) rfl rfl R321.out.1 Try.underlying38 rfl HIT.out) ?_))
      go_ret
      exact ⟨rfl, (B55.out.trans (H21.out.live.bel.mono B55.out.size))⟩
theorem mirrorMisses_own : ownKnob Try.prog.godebug = none := by kernel_rfl
theorem mirrorMisses_laid : laidOutB Try.prog = true := by kernel_rfl

set_option maxRecDepth 100000 in
theorem mirrorMisses_lifted (os : Os) (started : os.Started) (H : Type) (enc : TypeId × Value → H) :
    ReturnsInHanded {} Try.checked os 8 .any (Rows.mirrorMissesSpec.pre6 enc Try.prog Try.f8 Rows.mirrorMissesRow.domain false) (Rows.mirrorMissesSpec.post enc Try.prog Try.f8 false true false false) := by
  refine returnsInHanded_of_change (C := Try.checked) mirrorMisses_own started (by kernel_rfl) Try.func8
    (ChangeSpec.witness6 (enc := enc) (C := Try.checked) false ⟨#[], #[.int .u8 0, .int .u8 0, .int .u8 0, .int .u8 0, .int .u8 0], []⟩ 8 (by kernel_rfl) (by kernel_rfl) (by kernel_rfl) (by kernel_rfl)) ?_
  intro W base args ds gs before hval0 hW _ _
  have hval : ∀ (j : Nat) t v, Try.f8.params[j]? = some t → args[j]? = some v → Value.okWide Try.prog W .any base t v := hval0
  have hW' := hW
  obtain ⟨p, q, hA0, hV, rfl, hfz, hnd⟩ := hW
  have hA : DataW.TrodAll enc Try.prog W 0 (fun _ => true) true Try.f8.params.toList args.toList ds p := hA0
  rw [Try.params8] at hA hval
  obtain ⟨v0, vs0, d0, ds0, p0, q0, hargs, rfl, rfl, h0, r0⟩ := trodAll_cons hA
  obtain ⟨v1, vs1, d1, ds1, p1, q1, rfl, rfl, rfl, h1, r1⟩ := trodAll_cons r0
  obtain ⟨v2, vs2, d2, ds2, p2, q2, rfl, rfl, rfl, h2, r2⟩ := trodAll_cons r1
  obtain ⟨v3, vs3, d3, ds3, p3, q3, rfl, rfl, rfl, h3, r3⟩ := trodAll_cons r2
  obtain ⟨v4, vs4, d4, ds4, p4, q4, rfl, rfl, rfl, h4, r4⟩ := trodAll_cons r3
  obtain ⟨rfl, rfl, rfl⟩ := trodAll_nil r4
  obtain rfl : args = #[v0, v1, v2, v3, v4] := by cases args; simp_all
  obtain ⟨rfl, rfl⟩ := trodVars_none hV
  obtain ⟨a0, rfl, rfl, rfl, w0⟩ := open_int Try.underlying5 (hval 0 5 v0 rfl rfl) h0
  have b0 := bounds_u8 w0
  obtain ⟨a1, rfl, rfl, rfl, w1⟩ := open_int Try.underlying5 (hval 1 5 v1 rfl rfl) h1
  have b1 := bounds_u8 w1
  obtain ⟨a2, rfl, rfl, rfl, w2⟩ := open_int Try.underlying5 (hval 2 5 v2 rfl rfl) h2
  have b2 := bounds_u8 w2
  obtain ⟨a3, rfl, rfl, rfl, w3⟩ := open_int Try.underlying5 (hval 3 5 v3 rfl rfl) h3
  have b3 := bounds_u8 w3
  obtain ⟨a4, rfl, rfl, rfl, w4⟩ := open_int Try.underlying5 (hval 4 5 v4 rfl rfl) h4
  have b4 := bounds_u8 w4
  clear hA0 hval0
  refine (mirrorMisses_any W a0 b0 a1 b1 a2 b2 a3 b3 a4 b4).mono fun e W' ⟨he, bel⟩ => ?_
  subst he
  exact ⟨_, rfl, _, _, _, [], _, [], hW', trodAll_mk1 (shut_bool Try.underlying4 _), (trodAll_cons_mk (shut_int Try.underlying5 w0) (trodAll_cons_mk (shut_int Try.underlying5 w1) (trodAll_cons_mk (shut_int Try.underlying5 w2) (trodAll_cons_mk (shut_int Try.underlying5 w3) (trodAll_cons_mk (shut_int Try.underlying5 w4) trodAll_mk0))))), rfl, bel.frame _, fun h => by cases h⟩

theorem mirrorMisses_holds : Rows.MirrorMissesSaid :=
  OpenClaim.holds_of_wide 8 Try.f8 rfl rfl rfl rfl rfl rfl rfl ⟨rfl, rfl, rfl, rfl, rfl⟩ rfl rfl rfl rfl rfl (by kernel_rfl) Try.func8 (by kernel_rfl)
    (of_decide_eq_true (by kernel_rfl)) (by unfold Func.isWrapper; rw [if_neg (of_decide_eq_false (by kernel_rfl))]; exact ⟨rfl, rfl⟩)
    (fun os started H enc _ => mirrorMisses_lifted os started H enc)

#print axioms mirrorMisses_holds

end Go.Proofs.Ytfofkjcdohmkpaa
