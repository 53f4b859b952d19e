/-
  The law DeviceOut holds: a device that is out does nothing, and keeps what is stable; the other one of its power goes on; back in it is as it was, but for what waited. For all numbers and any byte.
-/
import Derived.Test.YtolbffcbamfbeaaKdOutP
import Derived.Test.YtolbffcbamfbeaaKdMore
import Derived.OrdersHeld
import Derived.Deep.RegionHeld
import Derived.Test.YtolbffcbamfbeaaRows
import Derived.Test.YtolbffcbamfbeaaOpen
import Derived.Test.YtolbffcbamfbeaaOpenA
import Derived.ProofKit
import Derived.OpenShut
import Derived.ShutString
import Derived.ChangeOld
namespace Go.Proofs.Ytolbffcbamfbeaa
open Go.RowKit Go.Maps Kd Go.ChangeShapes Go.WideShapes Go.ChangeAt
attribute [local go_sem ↓] Go.wp_at_zero Go.wp_at_succ
set_option maxRecDepth 100000 in
set_option maxHeartbeats 12800000 in
theorem deviceOut_any (w : World) (n : Int) (_ : -9223372036854775808 ≤ n ∧ n ≤ 9223372036854775807) (c0 : Int) (hc0 : 0 ≤ c0 ∧ c0 ≤ 255) (x : Int) (_ : -9223372036854775808 ≤ x ∧ x ≤ 9223372036854775807) : Calls Try.prog 9 #[.int .i64 n, .int .u8 c0, .int .i64 x] w (RetB (.bool true) w) := by
  obtain ⟨c, rfl⟩ : ∃ c : UInt8, c0 = (c.toNat : Int) := ⟨UInt8.ofNat c0.toNat, by rw [UInt8.toNat_ofNat_of_lt' (by show c0.toNat < 256; omega)]; omega⟩
  obtain ⟨s, hs⟩ : ∃ s, s = secC c := ⟨_, rfl⟩
  have HS := Lib.hid hs
  have HS3 := Lib.hid (show s.length = 128 by rw [hs]; exact secC_length c)
  have HSEC := Lib.hid (show ∀ W, Calls Try.prog 24 #[.int .u8 (c.toNat : Int)] W (RetB (.agg (bva s)) W) from fun W => by rw [hs]; exact sector_any c W)
  obtain ⟨z, hz0⟩ : ∃ z : List UInt8, z = zeroS := ⟨_, rfl⟩
  have hz : ∀ W, (zeroValue 38).run Try.prog W = .ok (.agg (bva z)) W := fun _ => by rw [hz0]; kernel_rfl
  have HBZ := Lib.hid (show ∀ W, (Instr.build 38 #[]).run Try.prog W = .ok (.agg (bva z)) W from fun _ => by rw [hz0]; kernel_rfl)
  have HI : Hid ((Try.prog.info? 38).map (·.size) = some (bva z).size) := by rw [bva_size, hz0, zeroS_length]; exact info_sec
  have HIS : Hid ((Try.prog.info? 38).map (·.size) = some (bva s).size) := by rw [bva_size, HS3.out]; exact info_sec
  have HZ := Lib.hid hz0
  have HZ3 := Lib.hid (show z.length = 128 by rw [hz0]; exact zeroS_length)
  clear hz0 hs hc0
  go_enter Try.func9, Try.ntmps9
  go_wp2_with fail
  refine (kdAwake_any _).mono ?_
  rintro e w1 ⟨rfl, bw1⟩
  have B1 := Lib.hid bw1
  clear bw1
  go_wp2_with fail
  refine live_power.mono ?_
  rintro e w2 ⟨p, rfl, F2, h⟩
  have H2 := Lib.hid h
  clear h
  go_wp2_with fail
  refine (live_new H2.out (by decide) 20).mono ?_
  rintro e w3 ⟨g1, rfl, F3, h, hf3, hb3⟩
  have H3 := Lib.hid (show Live w1 w3 p [g1] (S0.new 20) F3 from h)
  clear h hf3 hb3 H2 
  go_wp2_with fail
  refine (live_new H3.out (by decide) 20).mono ?_
  rintro e w4 ⟨g2, rfl, F4, h, hf4, hb4⟩
  have H4 := Lib.hid (show Live w1 w4 p [g1, g2] ((S0.new 20).new 20) F4 from h)
  clear h hf4 hb4 H3 
  have HA := Lib.hid (show Live w1 w4 p [g1, g2] ou0 F4 from (ou_new ▸ H4.out))
  clear H4
  go_wp2_with fail
  refine (HSEC.out _).mono ?_
  rintro e w5 ⟨rfl, bw⟩
  have H5 := Lib.hid (HA.out.below bw)
  clear bw HA 
  go_wp2_with fail
  have hc := live_write H5.out 0 (by show 0 < 2; omega) 3 s HS3.out (by show 0 < _; omega)
  rw [ou_w1] at hc
  refine hc.mono ?_
  clear hc
  rintro e w6 ⟨rfl, F6, h, hf6, hb6⟩
  have H6 := Lib.hid (show Live w1 w6 p [g1, g2] (ou1 s) F6 from h)
  clear h hf6 hb6 H5 
  go_wp2_with fail
  have hc := live_flush H6.out 0 (by show 0 < 2; omega)
  rw [ou_f1] at hc
  refine hc.mono ?_
  clear hc
  rintro e w7 ⟨rfl, F7, h, hf7, hb7⟩
  have H7 := Lib.hid (show Live w1 w7 p [g1, g2] (ou2 s) F7 from h)
  clear h hf7 hb7 H6 
  go_wp2_with fail
  refine (HSEC.out _).mono ?_
  rintro e w8 ⟨rfl, bw⟩
  have H8 := Lib.hid (H7.out.below bw)
  clear bw H7 
  go_wp2_with fail
  have hc := live_write H8.out 0 (by show 0 < 2; omega) 4 s HS3.out (by show 0 < _; omega)
  rw [ou_w2] at hc
  refine hc.mono ?_
  clear hc
  rintro e w9 ⟨rfl, F9, h, hf9, hb9⟩
  have H9 := Lib.hid (show Live w1 w9 p [g1, g2] (ou3 s) F9 from h)
  clear h hf9 hb9 H8 
  go_wp2_with fail
  refine (live_dump H9.out 0 (by show 0 < 2; omega)).mono ?_
  rintro e w10 ⟨A10, n10, c10, rfl, hn10, hr10, bw⟩
  have H10 := Lib.hid (H9.out.below bw)
  have R10 := Lib.hid hr10
  have N10 := Lib.hid hn10
  clear bw hr10 hn10 H9 
  obtain rfl : 20 = n10 := (ou_len s).symm.trans N10.out
  clear N10
  go_wp2_with fail
  have hc := live_out H10.out 0 (by show 0 < 2; omega) true
  rw [ou_o1] at hc
  refine hc.mono ?_
  clear hc
  rintro e w11 ⟨rfl, F11, h, hf11, hb11⟩
  have H11 := Lib.hid (show Live w1 w11 p [g1, g2] (ou4 s) F11 from h)
  have R11 := Lib.hid (R10.out.step hf11 hb11)
  clear h hf11 hb11 H10 R10
  go_wp2_with fail
  refine (dread_any H11.out.sys 0 (by show 0 < 2; omega) 3).mono ?_
  rintro e w12 ⟨rfl, bw⟩
  rw [readV_no (ou_r1 s 3) (by decide), ← HZ.out]
  have H12 := Lib.hid (H11.out.below bw)
  have R12 := Lib.hid (R11.out.below bw)
  clear bw H11 R11
  have HB12 := Lib.hid (show Blk (w12.alloc (.cells (bva z) 38)) w12.heap.size (bva z) 38 from heap_alloc_new _ _)
  go_wp2_with (refine wpList_store_row rfl 38 (.tmp 11) (.tmp 50) rfl w12.heap.size (bva z) rfl rfl 38 (bva z) HB12.out HI.out (by rfl) (bva_one _) ?_)
  obtain ⟨wv12, hwv12⟩ : ∃ wv, wv = ((w12.alloc (.cells (bva z) 38)).setRow w12.heap.size (bva z)) := ⟨_, rfl⟩
  have HV12 := Lib.hid (show Blk wv12 w12.heap.size (bva z) 38 from by rw [hwv12]; exact setRow_heap _ _ _ _ _ _ HB12.out)
  have BB12 := Lib.hid (show Below w12.heap.size w12 wv12 from by rw [hwv12]; exact below_setRow ((Below.refl _ _).alloc (Nat.le_refl _) _) (Nat.le_refl _) _)
  rw [← hwv12]
  clear hwv12
  have HX12 := Lib.hid (H12.out.below BB12.out)
  have Rx12 := Lib.hid (R12.out.below BB12.out)
  clear HV12 HB12 BB12 H12 R12
  go_wp2_with fail
  refine (HSEC.out _).mono ?_
  rintro e w13 ⟨rfl, bw⟩
  have H13 := Lib.hid (HX12.out.below bw)
  have R13 := Lib.hid (Rx12.out.below bw)
  clear bw HX12 Rx12
  go_wp2_with fail
  have hc := live_write H13.out 0 (by show 0 < 2; omega) n s HS3.out (by show 0 < _; omega)
  rw [ou_w3] at hc
  refine hc.mono ?_
  clear hc
  rintro e w14 ⟨rfl, F14, h, hf14, hb14⟩
  have H14 := Lib.hid (show Live w1 w14 p [g1, g2] (ou4 s) F14 from h)
  have R14 := Lib.hid (R13.out.step hf14 hb14)
  clear h hf14 hb14 H13 R13
  go_wp2_with fail
  have hc := live_flush H14.out 0 (by show 0 < 2; omega)
  rw [ou_f2] at hc
  refine hc.mono ?_
  clear hc
  rintro e w15 ⟨rfl, F15, h, hf15, hb15⟩
  have H15 := Lib.hid (show Live w1 w15 p [g1, g2] (ou4 s) F15 from h)
  have R15 := Lib.hid (R14.out.step hf15 hb15)
  clear h hf15 hb15 H14 R14
  go_wp2_with fail
  refine (waiting_sys H15.out.sys 0 (by show 0 < 2; omega)).mono ?_
  rintro e _ ⟨rfl, rfl⟩
  rw [ou_wait s]
  go_wp2_with fail
  refine (HSEC.out _).mono ?_
  rintro e w16 ⟨rfl, bw⟩
  have H16 := Lib.hid (H15.out.below bw)
  have R16 := Lib.hid (R15.out.below bw)
  clear bw H15 R15
  go_wp2_with fail
  have hc := live_write H16.out 1 (by show 1 < 2; omega) 5 s HS3.out (by show 0 < _; omega)
  rw [ou_w4] at hc
  refine hc.mono ?_
  clear hc
  rintro e w17 ⟨rfl, F17, h, hf17, hb17⟩
  have H17 := Lib.hid (show Live w1 w17 p [g1, g2] (ou5 s) F17 from h)
  have R17 := Lib.hid (R16.out.step hf17 hb17)
  clear h hf17 hb17 H16 R16
  go_wp2_with fail
  have hc := live_tear H17.out 0 (by show 0 < 2; omega) x 128
  rw [ou_t] at hc
  refine hc.mono ?_
  clear hc
  rintro e w18 ⟨rfl, F18, h, hf18, hb18⟩
  have H18 := Lib.hid (show Live w1 w18 p [g1, g2] (ou6 s x) F18 from h)
  have R18 := Lib.hid (R17.out.step hf18 hb18)
  clear h hf18 hb18 H17 R17
  go_wp2_with fail
  have hc := live_fail H18.out 0 (by omega)
  rw [ou_fl] at hc
  refine hc.mono ?_
  clear hc
  rintro e w19 ⟨rfl, F19, h, hf19, hb19⟩
  have H19 := Lib.hid (show Live w1 w19 p [g1, g2] (ou7 s x) F19 from h)
  have R19 := Lib.hid (R18.out.step hf19 hb19)
  clear h hf19 hb19 H18 R18
  go_wp2_with fail
  have hc := live_flush H19.out 1 (by show 1 < 2; omega)
  rw [ou_f3] at hc
  refine hc.mono ?_
  clear hc
  rintro e w20 ⟨rfl, F20, h, hf20, hb20⟩
  have H20 := Lib.hid (show Live w1 w20 p [g1, g2] (ou8 s x) F20 from h)
  have R20 := Lib.hid (R19.out.step hf20 hb20)
  clear h hf20 hb20 H19 R19
  go_wp2_with fail
  refine (live_dump H20.out 0 (by show 0 < 2; omega)).mono ?_
  rintro e w21 ⟨A21, n21, c21, rfl, hn21, hr21, bw⟩
  have H21 := Lib.hid (H20.out.below bw)
  have Q21 := Lib.hid hr21
  have N21 := Lib.hid hn21
  have R21 := Lib.hid (R20.out.below bw)
  clear bw hr21 hn21 H20 R20
  obtain rfl : 20 = n21 := ((ou_same s x) ▸ ou_len s : ((ou8 s x).at 0).st.length = 20).symm.trans N21.out
  clear N21
  obtain ⟨st, hst⟩ : ∃ st, st = ((ou3 s).at 0).st := ⟨_, rfl⟩
  have HST := Lib.hid hst
  have hst3 : ∀ y ∈ st, y.length = 128 := by rw [hst, ← ou_same s x]; exact (H21.out.sys.ok (k := 0) (by show 0 < 2; omega)).st
  have hst20 : st.length = 20 := by rw [hst]; exact ou_len s
  have HST3 := Lib.hid hst3
  have HST20 := Lib.hid hst20
  have RA := Lib.hid (show Rd _ w21 A10 (svs st) from by rw [hst]; exact R21.out.rd)
  have RB := Lib.hid (show Rd _ w21 A21 (svs st) from by rw [hst, ← ou_same s x]; exact Q21.out.rd)
  clear R21 Q21 hst hst3 hst20
  go_wp2_with fail
  refine (rsame_b A21 A10 20 20 c21 c10 st st _ HST20.out HST20.out HST3.out HST3.out RB.out RA.out (by unfold maxLen; omega) (by unfold maxLen; omega)).mono ?_
  rintro e w22 ⟨rfl, bw⟩
  rw [same_refl]
  clear RA RB HST HST3 HST20
  have H22 := Lib.hid (H21.out.below bw)
  clear bw H21 
  go_wp2_with fail
  have hc := live_restart H22.out
  rw [ou_re] at hc
  refine hc.mono ?_
  clear hc
  rintro e w23 ⟨rfl, F23, h, hf23, hb23⟩
  have H23 := Lib.hid (show Live w1 w23 p [g1, g2] (ou9 s x) F23 from h)
  clear h hf23 hb23 H22 
  go_wp2_with fail
  refine (dread_any H23.out.sys 0 (by show 0 < 2; omega) 3).mono ?_
  rintro e w24 ⟨rfl, bw⟩
  rw [readV_no (ou_r2 s x) (by decide), ← HZ.out]
  have H24 := Lib.hid (H23.out.below bw)
  clear bw H23 
  have HB24 := Lib.hid (show Blk (w24.alloc (.cells (bva z) 38)) w24.heap.size (bva z) 38 from heap_alloc_new _ _)
  go_wp2_with (refine wpList_store_row rfl 38 (.tmp 13) (.tmp 97) rfl w24.heap.size (bva z) rfl rfl 38 (bva z) HB24.out HI.out (by rfl) (bva_one _) ?_)
  obtain ⟨wv24, hwv24⟩ : ∃ wv, wv = ((w24.alloc (.cells (bva z) 38)).setRow w24.heap.size (bva z)) := ⟨_, rfl⟩
  have HV24 := Lib.hid (show Blk wv24 w24.heap.size (bva z) 38 from by rw [hwv24]; exact setRow_heap _ _ _ _ _ _ HB24.out)
  have BB24 := Lib.hid (show Below w24.heap.size w24 wv24 from by rw [hwv24]; exact below_setRow ((Below.refl _ _).alloc (Nat.le_refl _) _) (Nat.le_refl _) _)
  rw [← hwv24]
  clear hwv24
  have HX24 := Lib.hid (H24.out.below BB24.out)
  clear HV24 HB24 BB24 H24
  go_wp2_with fail
  have hc := live_out HX24.out 0 (by show 0 < 2; omega) false
  rw [ou_o2] at hc
  refine hc.mono ?_
  clear hc
  rintro e w25 ⟨rfl, F25, h, hf25, hb25⟩
  have H25 := Lib.hid (show Live w1 w25 p [g1, g2] (ouA s x) F25 from h)
  clear h hf25 hb25 HX24 
  go_wp2_with fail
  refine (dread_any H25.out.sys 0 (by show 0 < 2; omega) 3).mono ?_
  rintro e w26 ⟨rfl, bw⟩
  rw [ou_rd3]
  have H26 := Lib.hid (H25.out.below bw)
  clear bw H25 
  have HB26 := Lib.hid (show Blk (w26.alloc (.cells (bva z) 38)) w26.heap.size (bva z) 38 from heap_alloc_new _ _)
  go_wp2_with (refine wpList_store_row rfl 38 (.tmp 15) (.tmp 106) rfl w26.heap.size (bva s) rfl rfl 38 (bva z) HB26.out HIS.out (by rw [bva_size, bva_size, HS3.out, HZ3.out]) (bva_one _) ?_)
  obtain ⟨wv26, hwv26⟩ : ∃ wv, wv = ((w26.alloc (.cells (bva z) 38)).setRow w26.heap.size (bva s)) := ⟨_, rfl⟩
  have HV26 := Lib.hid (show Blk wv26 w26.heap.size (bva s) 38 from by rw [hwv26]; exact setRow_heap _ _ _ _ _ _ HB26.out)
  have BB26 := Lib.hid (show Below w26.heap.size w26 wv26 from by rw [hwv26]; exact below_setRow ((Below.refl _ _).alloc (Nat.le_refl _) _) (Nat.le_refl _) _)
  rw [← hwv26]
  clear hwv26
  have HX26 := Lib.hid (H26.out.below BB26.out)
  have Xx26 := Lib.hid (show BoxS wv26 F25 w26.heap.size s from ⟨HV26.out, fun hf => by have := H26.out.lt _ hf; omega⟩)
  clear HV26 HB26 BB26 H26
  go_wp2_with fail
  refine (dread_any HX26.out.sys 0 (by show 0 < 2; omega) 4).mono ?_
  rintro e w27 ⟨rfl, bw⟩
  rw [ou_rd4, ← HZ.out]
  have H27 := Lib.hid (HX26.out.below bw)
  have X27 := Lib.hid (Xx26.out.below bw)
  clear bw HX26 Xx26
  have HB27 := Lib.hid (show Blk (w27.alloc (.cells (bva z) 38)) w27.heap.size (bva z) 38 from heap_alloc_new _ _)
  go_wp2_with (refine wpList_store_row rfl 38 (.tmp 17) (.tmp 111) rfl w27.heap.size (bva z) rfl rfl 38 (bva z) HB27.out HI.out (by rfl) (bva_one _) ?_)
  obtain ⟨wv27, hwv27⟩ : ∃ wv, wv = ((w27.alloc (.cells (bva z) 38)).setRow w27.heap.size (bva z)) := ⟨_, rfl⟩
  have HV27 := Lib.hid (show Blk wv27 w27.heap.size (bva z) 38 from by rw [hwv27]; exact setRow_heap _ _ _ _ _ _ HB27.out)
  have BB27 := Lib.hid (show Below w27.heap.size w27 wv27 from by rw [hwv27]; exact below_setRow ((Below.refl _ _).alloc (Nat.le_refl _) _) (Nat.le_refl _) _)
  rw [← hwv27]
  clear hwv27
  have HX27 := Lib.hid (H27.out.below BB27.out)
  have Xx27 := Lib.hid (X27.out.below BB27.out)
  have Yx27 := Lib.hid (show BoxS wv27 F25 w27.heap.size z from ⟨HV27.out, fun hf => by have := H27.out.lt _ hf; omega⟩)
  clear HV27 HB27 BB27 H27 X27
  go_wp2_with fail
  have heq := eq_sec s s HS3.out HS3.out
  simp only [decide_true] at heq
  have heqz := eq_sec z z HZ3.out HZ3.out
  simp only [decide_true] at heqz
  have hbz := HBZ.out
  refine wp_region_held_drew (S := fun w' => Below wv27.heap.size wv27 w') (by kernel_rfl) (Below.refl _ _).drew (fun hh => ?_)
  have HH := Lib.hid hh
  clear hh
  refine wpAnyH_take (i := 0) (v := ?va0) rfl (by kernel_rfl) (by kernel_rfl) (by kernel_rfl) (fun _ _ _ h => h) (Or.inl ⟨by rfl, fun w' _ => ?ya0⟩) HH.out ?_
  case ya0 => (go_simp; try with_reducible rfl)
  refine wpAnyH_take (i := 1) (v := ?va1) rfl (by kernel_rfl) (by kernel_rfl) (by kernel_rfl) (fun _ _ _ h => h) (Or.inl ⟨by rfl, fun w' _ => ?ya1⟩) HH.out ?_
  case ya1 => (go_simp; try with_reducible rfl)
  try simp only [List.getElem_toArray, List.getElem_cons_succ, List.getElem_cons_zero, Act.put, List.setIfInBounds_toArray, List.set_cons_zero, List.set_cons_succ]
  refine wpAnyH_take (i := 2) (v := ?va2) rfl (by kernel_rfl) (by kernel_rfl) (by kernel_rfl) (fun _ _ _ h => h) (Or.inl ⟨by rfl, fun w' _ => ?ya2⟩) HH.out ?_
  case ya2 => (go_simp; try with_reducible rfl)
  refine wpAnyH_take (i := 3) (v := .agg (bva s)) rfl (by kernel_rfl) (by kernel_rfl) (by kernel_rfl) (fun _ _ _ h => h) (Or.inl ⟨by rfl, fun w' hw' => ?yl3⟩) HH.out ?_
  case yl3 => exact exec_load 38 (.tmp 15) rfl rfl (Xx27.out.below hw').1 Try.underlying38 rfl HIS.out
  try simp only [List.getElem_toArray, List.getElem_cons_succ, List.getElem_cons_zero, Act.put, List.setIfInBounds_toArray, List.set_cons_zero, List.set_cons_succ]
  refine wpAnyH_take (i := 4) (v := ?va4) rfl (by kernel_rfl) (by kernel_rfl) (by kernel_rfl) (fun _ _ _ h => h) (Or.inl ⟨by rfl, fun w' _ => ?ya4⟩) HH.out ?_
  case ya4 => (go_simp; try with_reducible rfl)
  try simp only [List.getElem_toArray, List.getElem_cons_succ, List.getElem_cons_zero, Act.put, List.setIfInBounds_toArray, List.set_cons_zero, List.set_cons_succ]
  refine wpAnyH_ready (rs := [5]) (by kernel_rfl) (by simp) (AllReadyH.cons rfl (fun K hK => ?_) AllReadyH.nil)
  go_simp
  refine (HSEC.out _).mono ?_
  rintro e wv ⟨rfl, bw⟩
  go_simp
  refine hK.out _ _ (HH.out.trans (bw.mono HH.out.size)) (fun hh => ?_)
  have HH' := Lib.hid hh
  clear hh hK K HH bw
  have HH := Lib.hid HH'.out
  clear HH'
  try simp only [List.getElem_toArray, List.getElem_cons_succ, List.getElem_cons_zero, Act.put, List.setIfInBounds_toArray, List.set_cons_zero, List.set_cons_succ]
  refine wpAnyH_take (i := 6) (v := ?va6) rfl (by kernel_rfl) (by kernel_rfl) (by kernel_rfl) (fun _ _ _ h => h) (Or.inl ⟨by rfl, fun w' _ => ?ya6⟩) HH.out ?_
  case ya6 => (go_simp; try with_reducible rfl)
  refine wpAnyH_take (i := 7) (v := ?va7) rfl (by kernel_rfl) (by kernel_rfl) (by kernel_rfl) (fun _ _ _ h => h) (Or.inl ⟨by rfl, fun w' _ => ?ya7⟩) HH.out ?_
  case ya7 => (go_simp; try with_reducible rfl)
  try simp only [List.getElem_toArray, List.getElem_cons_succ, List.getElem_cons_zero, Act.put, List.setIfInBounds_toArray, List.set_cons_zero, List.set_cons_succ]
  refine wpAnyH_take (i := 8) (v := ?va8) rfl (by kernel_rfl) (by kernel_rfl) (by kernel_rfl) (fun _ _ _ h => h) (Or.inl ⟨by rfl, fun w' _ => ?ya8⟩) HH.out ?_
  case ya8 => (go_simp; try with_reducible rfl)
  try simp only [List.getElem_toArray, List.getElem_cons_succ, List.getElem_cons_zero, Act.put, List.setIfInBounds_toArray, List.set_cons_zero, List.set_cons_succ]
  refine wpAnyH_take (i := 9) (v := ?va9) rfl (by kernel_rfl) (by kernel_rfl) (by kernel_rfl) (fun _ _ _ h => h) (Or.inl ⟨by rfl, fun w' _ => ?ya9⟩) HH.out ?_
  case ya9 => (go_simp; try with_reducible rfl)
  try simp only [List.getElem_toArray, List.getElem_cons_succ, List.getElem_cons_zero, Act.put, List.setIfInBounds_toArray, List.set_cons_zero, List.set_cons_succ]
  refine wpAnyH_take (i := 10) (v := ?va10) rfl (by kernel_rfl) (by kernel_rfl) (by kernel_rfl) (fun _ _ _ h => h) (Or.inl ⟨by rfl, fun w' _ => ?ya10⟩) HH.out ?_
  case ya10 => (go_simp; try with_reducible rfl)
  try simp only [List.getElem_toArray, List.getElem_cons_succ, List.getElem_cons_zero, Act.put, List.setIfInBounds_toArray, List.set_cons_zero, List.set_cons_succ]
  refine wpAnyH_take (i := 11) (v := ?va11) rfl (by kernel_rfl) (by kernel_rfl) (by kernel_rfl) (fun _ _ _ h => h) (Or.inl ⟨by rfl, fun w' _ => ?ya11⟩) HH.out ?_
  case ya11 => (go_simp; try with_reducible rfl)
  refine wpAnyH_take (i := 12) (v := ?va12) rfl (by kernel_rfl) (by kernel_rfl) (by kernel_rfl) (fun _ _ _ h => h) (Or.inl ⟨by rfl, fun w' _ => ?ya12⟩) HH.out ?_
  case ya12 => (go_simp; try with_reducible rfl)
  refine wpAnyH_take (i := 13) (v := .agg (bva z)) rfl (by kernel_rfl) (by kernel_rfl) (by kernel_rfl) (fun _ _ _ h => h) (Or.inl ⟨by rfl, fun w' hw' => ?yl13⟩) HH.out ?_
  case yl13 => exact exec_load 38 (.tmp 17) rfl rfl (Yx27.out.below hw').1 Try.underlying38 rfl HI.out
  try simp only [List.getElem_toArray, List.getElem_cons_succ, List.getElem_cons_zero, Act.put, List.setIfInBounds_toArray, List.set_cons_zero, List.set_cons_succ]
  refine wpAnyH_take (i := 14) (v := .agg (bva z)) rfl (by kernel_rfl) (by kernel_rfl) (by kernel_rfl) (fun _ _ _ h => h) (Or.inl ⟨by rfl, fun w' hw' => ?yl14⟩) HH.out ?_
  case yl14 => (go_simp; try with_reducible rfl)
  try simp only [List.getElem_toArray, List.getElem_cons_succ, List.getElem_cons_zero, Act.put, List.setIfInBounds_toArray, List.set_cons_zero, List.set_cons_succ]
  refine wpAnyH_take (i := 15) (v := ?va15) rfl (by kernel_rfl) (by kernel_rfl) (by kernel_rfl) (fun _ _ _ h => h) (Or.inl ⟨by rfl, fun w' _ => ?ya15⟩) HH.out ?_
  case ya15 => (go_simp; try with_reducible rfl)
  refine wpAnyH_take (i := 16) (v := ?va16) rfl (by kernel_rfl) (by kernel_rfl) (by kernel_rfl) (fun _ _ _ h => h) (Or.inl ⟨by rfl, fun w' _ => ?ya16⟩) HH.out ?_
  case ya16 => (go_simp; try with_reducible rfl)
  try simp only [List.getElem_toArray, List.getElem_cons_succ, List.getElem_cons_zero, Act.put, List.setIfInBounds_toArray, List.set_cons_zero, List.set_cons_succ]
  refine wpAnyH_take (i := 17) (v := ?va17) rfl (by kernel_rfl) (by kernel_rfl) (by kernel_rfl) (fun _ _ _ h => h) (Or.inl ⟨by rfl, fun w' _ => ?ya17⟩) HH.out ?_
  case ya17 => (go_simp; try with_reducible rfl)
  try simp only [List.getElem_toArray, List.getElem_cons_succ, List.getElem_cons_zero, Act.put, List.setIfInBounds_toArray, List.set_cons_zero, List.set_cons_succ]
  refine wpAnyH_done (by kernel_rfl) ?_ _
  go_wp2_with fail
  go_ret
  exact ⟨rfl, B1.out.trans ((HX27.out.bel.trans (HH.out.mono HX27.out.bel.size)).mono B1.out.size)⟩
theorem deviceOut_own : ownKnob Try.prog.godebug = none := by kernel_rfl
theorem deviceOut_laid : laidOutB Try.prog = true := by kernel_rfl

set_option maxRecDepth 100000 in
theorem deviceOut_lifted (os : Os) (started : os.Started) (H : Type) (enc : TypeId × Value → H) :
    ReturnsInHanded {} Try.checked os 9 .any (Rows.deviceOutSpec.pre6 enc Try.prog Try.f9 Rows.deviceOutRow.domain false) (Rows.deviceOutSpec.post enc Try.prog Try.f9 false true false false) := by
  refine returnsInHanded_of_change (C := Try.checked) deviceOut_own started (by kernel_rfl) Try.func9
    (ChangeSpec.witness6 (enc := enc) (C := Try.checked) false ⟨#[], #[.int .i64 0, .int .u8 0, .int .i64 0], []⟩ 8 (by kernel_rfl) (by kernel_rfl) (by kernel_rfl) (by kernel_rfl)) ?_
  intro W base args ds gs before hval0 hW _ _
  have hval : ∀ (j : Nat) t v, Try.f9.params[j]? = some t → args[j]? = some v → Value.okWide Try.prog W .any base t v := hval0
  have hW' := hW
  obtain ⟨p, q, hA0, hV, rfl, hfz, hnd⟩ := hW
  have hA : DataW.TrodAll enc Try.prog W 0 (fun _ => true) true Try.f9.params.toList args.toList ds p := hA0
  rw [Try.params9] at hA hval
  obtain ⟨v0, vs0, d0, ds0, p0, q0, hargs, rfl, rfl, h0, r0⟩ := trodAll_cons hA
  obtain ⟨v1, vs1, d1, ds1, p1, q1, rfl, rfl, rfl, h1, r1⟩ := trodAll_cons r0
  obtain ⟨v2, vs2, d2, ds2, p2, q2, rfl, rfl, rfl, h2, r2⟩ := trodAll_cons r1
  obtain ⟨rfl, rfl, rfl⟩ := trodAll_nil r2
  obtain rfl : args = #[v0, v1, v2] := by cases args; simp_all
  obtain ⟨rfl, rfl⟩ := trodVars_none hV
  obtain ⟨a0, rfl, rfl, rfl, w0⟩ := open_int Try.underlying3 (hval 0 3 v0 rfl rfl) h0
  have b0 := bounds_i64 w0
  obtain ⟨a1, rfl, rfl, rfl, w1⟩ := open_int Try.underlying5 (hval 1 5 v1 rfl rfl) h1
  have b1 := bounds_u8 w1
  obtain ⟨a2, rfl, rfl, rfl, w2⟩ := open_int Try.underlying3 (hval 2 3 v2 rfl rfl) h2
  have b2 := bounds_i64 w2
  clear hA0 hval0
  refine (deviceOut_any W a0 b0 a1 b1 a2 b2).mono fun e W' ⟨he, bel⟩ => ?_
  subst he
  exact ⟨_, rfl, _, _, _, [], _, [], hW', trodAll_mk1 (shut_bool Try.underlying4 _), (trodAll_cons_mk (shut_int Try.underlying3 w0) (trodAll_cons_mk (shut_int Try.underlying5 w1) (trodAll_cons_mk (shut_int Try.underlying3 w2) trodAll_mk0))), rfl, bel.frame _, fun h => by cases h⟩

theorem deviceOut_holds : Rows.DeviceOutSaid :=
  OpenClaim.holds_of_wide 9 Try.f9 rfl rfl rfl rfl rfl rfl rfl ⟨rfl, rfl, rfl, rfl, rfl⟩ rfl rfl rfl rfl rfl (by kernel_rfl) Try.func9 (by kernel_rfl)
    (of_decide_eq_true (by kernel_rfl)) (by unfold Func.isWrapper; rw [if_neg (of_decide_eq_false (by kernel_rfl))]; exact ⟨rfl, rfl⟩)
    (fun os started H enc _ => deviceOut_lifted os started H enc)

#print axioms deviceOut_holds

end Go.Proofs.Ytolbffcbamfbeaa
