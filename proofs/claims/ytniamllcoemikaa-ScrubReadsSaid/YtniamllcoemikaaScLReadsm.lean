/-
  The law ScrubReads holds: what was read ahead of scrubbing is read behind it; and then from each device alone. For any rows of pairs, whichever device is out.
-/
import Derived.Test.YtniamllcoemikaaMv1
import Derived.OrdersHeld
import Derived.Deep.RegionHeld
import Derived.Test.YtniamllcoemikaaRows
import Derived.ProofKit
import Derived.OpenShut
import Derived.ShutString
import Derived.ChangeOld
namespace Go.Proofs.Ytniamllcoemikaa
open Go.RowKit Kd Mi Sc Go.ChangeShapes Go.WideShapes Go.ChangeAt
attribute [local go_sem ↓] Go.wp_at_zero Go.wp_at_succ
theorem rd_one {w1 : World} {g : Nat} {v : Value} {t : TypeId} (h : Blk w1 g #[v] t) : Rd w1.heap.size w1 (some ⟨g, 0, none⟩) [v] := fun j u hu => ⟨_, rfl, h.lt, by rw [Addr.add_mid, h.cell, Nat.zero_add]; simpa using hu⟩
set_option maxRecDepth 100000 in
set_option maxHeartbeats 25600000 in
theorem scrubReads_any (w : World) (A : Option Addr) (N c : Nat) (l : List (UInt8 × UInt8)) (hl : l.length = N) (_ : N ≤ c) (_ : c ≤ maxLen) (hr : Rd w.heap.size w A (prs l)) (D : Option Addr) (M d : Nat) (r : List (UInt8 × UInt8)) (hl' : r.length = M) (_ : M ≤ d) (_ : d ≤ maxLen) (hr' : Rd w.heap.size w D (prs r)) (out : Bool) : Calls Try.prog 6 #[.slice A N c, .slice D M d, .bool out] w (RetB (.bool true) w) := by
  obtain ⟨z, hz0⟩ : ∃ z : List UInt8, z = zeroS := ⟨_, rfl⟩
  have hz : ∀ W, (zeroValue 37).run Try.prog W = .ok (.agg (bva z)) W := fun _ => by rw [hz0]; kernel_rfl
  have HZ3 := Lib.hid (show z.length = 128 by rw [hz0]; exact zeroS_length)
  clear hz0
  have HL := Lib.hid hl
  have HR := Lib.hid hr
  have HL' := Lib.hid hl'
  have HR' := Lib.hid hr'
  have B0 := Lib.hid (Below.refl w.heap.size w)
  clear hl hr hl' hr'
  go_enter Try.func6, Try.ntmps6
  go_wp2_with fail
  have hc := Sc.awake_any w
  refine hc.mono ?_
  clear hc
  rintro e w1 ⟨rfl, bw⟩
  have B1 := Lib.hid (B0.out.trans (bw.mono B0.out.size))
  clear bw B0
  by_cases hbig : 12 < N
  · have n1 : (12 : Int) < (N : Int) := by omega
    go_wp2_with fail
    refine (Sc.awake_any w1).mono ?_
    rintro e wz ⟨rfl, bz⟩
    go_wp2_with fail
    go_ret
    exact ⟨rfl, B1.out.trans (bz.mono B1.out.size)⟩
  by_cases hbig' : 12 < M
  · have n0 : ¬ (12 : Int) < (N : Int) := by omega
    have n1 : (12 : Int) < (M : Int) := by omega
    go_wp2_with fail
    refine (Sc.awake_any w1).mono ?_
    rintro e wz ⟨rfl, bz⟩
    go_wp2_with fail
    go_ret
    exact ⟨rfl, B1.out.trans (bz.mono B1.out.size)⟩
  have n0 : ¬ (12 : Int) < (N : Int) := by omega
  have n1 : ¬ (12 : Int) < (M : Int) := by omega
  have HNB := Lib.hid (show N ≤ 12 ∧ M ≤ 12 by omega)
  clear hbig hbig'
  obtain ⟨k, hk⟩ : ∃ k, k = min N M := ⟨_, rfl⟩
  obtain ⟨L0, hL0⟩ : ∃ L0, L0 = (l.take k).map sec2 := ⟨_, rfl⟩
  obtain ⟨L1, hL1⟩ : ∃ L1, L1 = (r.take k).map sec2 := ⟨_, rfl⟩
  have HP := Lib.hid (pair_any w1 B1.out.size (c := c) (d := d) HL.out HL'.out (HR.out.below B1.out) (HR'.out.below B1.out) HNB.out.1 HNB.out.2)
  rw [← hk, ← hL0, ← hL1] at HP
  have HKB := Lib.hid (show k ≤ 12 by have := HNB.out; omega)
  have HL0 := Lib.hid (show L0.length = k by rw [hL0, List.length_map, List.length_take, HL.out]; omega)
  have HL1 := Lib.hid (show L1.length = k by rw [hL1, List.length_map, List.length_take, HL'.out]; omega)
  have H03 := Lib.hid (show ∀ x ∈ L0, x.length = 128 by rw [hL0]; intro x hx; obtain ⟨y, _, rfl⟩ := List.mem_map.1 hx; exact sec2_length y)
  have H13 := Lib.hid (show ∀ x ∈ L1, x.length = 128 by rw [hL1]; intro x hx; obtain ⟨y, _, rfl⟩ := List.mem_map.1 hx; exact sec2_length y)
  have HFR := Lib.hid (start_fresh HL0.out HL1.out)
  clear hk hL0 hL1
  go_wp2_with fail
  have hc := HP.out
  refine hc.mono ?_
  clear hc
  rintro e w2 ⟨pw, g1, g2, g, s2, F2, U, V, cu, cv, rfl, h, hu, hv⟩
  have H2 := Lib.hid (show Mu.LM pw g1 g2 gG g w1 w2 s2 F2 (startM L0 L1 k) 0 from h)
  have RU2 := Lib.hid hu
  have RV2 := Lib.hid hv
  clear h hu hv
  clear HP
  go_wp2_with (show wpList _ _ _ ({ dst := none, op := .store 27 (.tmp 10) (.tmp 39), type := _, pos := _, after := _, guard := _ } :: _) _ _; apply Classical.byContradiction; intro hneg)
  refine hneg ?_
  clear hneg
  refine wpList_store_row rfl 27 (.tmp 10) (.tmp 39) rfl w2.heap.size #[.slice U k cu, .slice V k cv] rfl rfl 27 #[.slice none 0 0, .slice none 0 0] (heap_alloc_new _ _) secsAV_info rfl (by simp [Value.oneCell']) ?_
  obtain ⟨w3, hw3⟩ : ∃ w3, w3 = (w2.alloc (.cells #[.slice none 0 0, .slice none 0 0] 27)).setRow w2.heap.size #[.slice U k cu, .slice V k cv] := ⟨_, rfl⟩
  have bw : Below w2.heap.size w2 w3 := by rw [hw3]; exact below_setRow ((Below.refl _ _).alloc (Nat.le_refl _) _) (Nat.le_refl _) _
  have hbx : Blk w3 w2.heap.size #[.slice U k cu, .slice V k cv] 27 := by rw [hw3]; exact setRow_heap _ _ _ _ _ _ (heap_alloc_new _ _)
  rw [← hw3]
  clear hw3
  obtain ⟨b3, hb3⟩ : ∃ b3, b3 = w2.heap.size := ⟨_, rfl⟩
  rw [← hb3] at hbx
  rw [← hb3]
  have BS3 := Lib.hid (show Bx w1 w3 F2 b3 #[.slice U k cu, .slice V k cv] 27 from ⟨hbx, by rw [hb3]; exact H2.out.live.bel.size, fun hf => by have := (ML (Mu.one pw g1 g2) gG g).lt H2.out.live.at_ _ hf; omega⟩)
  clear hb3 hbx
  have RU3 := Lib.hid (RU2.out.below bw)
  have RV3 := Lib.hid (RV2.out.below bw)
  clear RU2 RV2
  have H3 := Lib.hid (H2.out.below bw)
  clear bw H2
  obtain ⟨rf, hrf⟩ : ∃ rf : Nat → List UInt8 × Int, ∀ j, rf j = rd3 goodN j (L0.getD j zeroS) (L1.getD j zeroS) := ⟨fun j => rd3 goodN j (L0.getD j zeroS) (L1.getD j zeroS), fun _ => rfl⟩
  obtain ⟨tf, htf⟩ : ∃ tf : Nat → List UInt8, ∀ j, tf j = (rf j).1 := ⟨fun j => (rf j).1, fun _ => rfl⟩
  obtain ⟨ef, hef⟩ : ∃ ef : Nat → Int, ∀ j, ef j = (rf j).2 := ⟨fun j => (rf j).2, fun _ => rfl⟩
  have HPR := Lib.hid (show ∀ j, rf j = (tf j, ef j) from fun j => by rw [htf, hef])
  have HT3 := Lib.hid (show ∀ j, (tf j).length = 128 from fun j => by rw [htf, hrf]; exact rd3_len (getD_ok H03.out j) (getD_ok H13.out j))
  have HRB := Lib.hid (show ∀ j, j < k → (startM L0 L1 k).read goodN j = (tf j, ef j) from fun j hj => by rw [← HPR.out, hrf]; exact read_fresh HFR.out hj)
  obtain ⟨x1, hx1⟩ : ∃ x1, x1 = (mdRun goodN (startM L0 L1 k, Wk.zero) k).1 := ⟨_, rfl⟩
  have HRA := Lib.hid (show ∀ i j, j < k → (x1.out i true).read goodN j = (tf j, ef j) from fun i j hj => by rw [← HPR.out, hrf, hx1]; exact reads_after HFR.out hj i)
  have HRX := Lib.hid (show (mdRun gG.f (startM L0 L1 k, Wk.zero) (startM L0 L1 k).a.length).1 = x1 by rw [start_len, hx1]; rfl)
  have HLN := Lib.hid (show (startM L0 L1 k).a.length = k from start_len (L0 := L0) (L1 := L1))
  have HLX := Lib.hid (show x1.a.length = k by rw [hx1]; exact (HFR.out.run (f := goodN) k (Nat.le_refl _)).1.len)
  have HFX := Lib.hid (show Fresh x1 k by rw [hx1]; exact (HFR.out.run (f := goodN) k (Nat.le_refl _)).1)
  clear htf hef hx1 hrf HPR
  have HQS := Lib.hid (show QS (ML (Mu.one pw g1 g2) gG g) w1 w3 s2 F2 37 40 128 1 (.slice none 0 0) (.slice none 0 0) 0 0 (svs ((List.range 0).map tf)) (ev ((List.range 0).map ef)) [(b3, #[.slice U k cu, .slice V k cv], 27)] from
    ⟨H3.out.live, World.ownsRow_nil _ _ _ _, World.ownsRow_nil _ _ _ _, fun q hq => (by cases hq), fun q hq => (by cases hq), fun q hq => (by cases hq), fun x hx => by
      rw [List.mem_singleton] at hx; subst hx
      exact ⟨BS3.out.1, BS3.out.2.2, fun q hq => (by cases hq), fun q hq => (by cases hq)⟩⟩)
  have HSD := Lib.hid (show Mu.Sees s2 (startM L0 L1 k) 0 ∧ Mu.Dry s2 (startM L0 L1 k) from ⟨H3.out.sees, H3.out.dry⟩)
  have hbc : w3.cell? ⟨b3, 0, none⟩ = some (.slice U k cu) := BS3.out.1.cell 0
  clear H3 BS3
  go_wp2_with fail
  clear hbc
  go_loopw [43, 11, 12] (fun i av te wr => ∃ (j : Nat) (s : Mr (Mu.one pw g1 g2)) (F : Nat → Prop) (A E : Option Addr) (ca ce : Nat), j ≤ k ∧ i = .int .i64 j ∧ av = .slice A j ca ∧ te = .slice E j ce ∧ (Mu.Sees s (startM L0 L1 k) 0 ∧ Mu.Dry s (startM L0 L1 k)) ∧ QS (ML (Mu.one pw g1 g2) gG g) w1 wr s F 37 40 128 1 (.slice A j ca) (.slice E j ce) j j (svs ((List.range j).map tf)) (ev ((List.range j).map ef)) [(b3, #[.slice U k cu, .slice V k cv], 27)]) (fun i _ _ _ => k - (intOf i).toNat)
  case atStart => exact ⟨0, _, _, none, none, 0, 0, Nat.zero_le _, rfl, rfl, rfl, HSD.out, HQS.out⟩
  case round =>
    clear HQS HSD
    obtain ⟨j, s, F, A1, E1, ca, ce, hj, rfl, rfl, rfl, hsd, hqs⟩ := hrel
    have HJ := Lib.hid hj
    have SD := Lib.hid hsd
    have Q0 := Lib.hid hqs
    clear hj hsd hqs
    by_cases hlt : j < k
    · have HLT := Lib.hid hlt
      have j0 : (0 : Int) ≤ (j : Int) := by omega
      have j1 : (j : Int) < (k : Int) := by omega
      have wj : IntKind.i64.wrap ((j : Int) + 1) = ((j + 1 : Nat) : Int) := IntWalk.i64_in _ (by have := HKB.out; omega)
      obtain ⟨y, hy⟩ : ∃ y, y = tf j := ⟨_, rfl⟩
      obtain ⟨ye, hye⟩ : ∃ ye, ye = ef j := ⟨_, rfl⟩
      have HY3 := Lib.hid (show y.length = 128 by rw [hy]; exact HT3.out j)
      have HIY : Hid ((Try.prog.info? 37).map (·.size) = some (bva y).size) := by rw [bva_size, HY3.out]; exact info_sec
      have HRJ := Lib.hid (show (startM L0 L1 k).read gG.f j = (y, ye) from by show (startM L0 L1 k).read goodN j = (y, ye); rw [hy, hye]; exact HRB.out j HLT.out)
      have HTE := Lib.hid (show svs ((List.range j).map tf) ++ bv y = svs ((List.range (j + 1)).map tf) by rw [List.range_succ, List.map_append, svs_append, hy]; simp [svs])
      have HEE := Lib.hid (show ev ((List.range j).map ef) ++ [.int .i64 ye] = ev ((List.range (j + 1)).map ef) by rw [List.range_succ, List.map_append, ev_append, hye]; rfl)
      clear hlt hy hye
      go_wp2_with fail
      have hc := Mu.lm_read (show Mu.LM pw g1 g2 gG g w1 wr s F (startM L0 L1 k) 0 from ⟨Q0.out.live, SD.out.1, SD.out.2⟩) (j : Int)
      rw [HRJ.out] at hc
      refine hc.mono ?_
      clear hc
      rintro e wa ⟨rfl, sa, Fa, h, hm⟩
      have Q1 := Lib.hid (Q0.out.dev hm)
      have SD1 := Lib.hid (show Mu.Sees sa (startM L0 L1 k) 0 ∧ Mu.Dry sa (startM L0 L1 k) from ⟨h.sees, h.dry⟩)
      clear h hm Q0 SD
      go_wp2_with (show wpList _ _ _ ({ dst := none, op := .store 37 (.tmp 14) (.tmp 50), type := _, pos := _, after := _, guard := _ } :: _) _ _; apply Classical.byContradiction; intro hneg)
      refine hneg ?_
      clear hneg
      refine wpList_store_row rfl 37 (.tmp 14) (.tmp 50) rfl wa.heap.size (bva y) rfl rfl 37 (bva z) (heap_alloc_new _ _) HIY.out (by rw [bva_size, bva_size, HY3.out, HZ3.out]) (bva_one _) ?_
      obtain ⟨wd1, hwd⟩ : ∃ wd1, wd1 = (wa.alloc (.cells (bva z) 37)).setRow wa.heap.size (bva y) := ⟨_, rfl⟩
      have bw : Below wa.heap.size wa wd1 := by rw [hwd]; exact below_setRow ((Below.refl _ _).alloc (Nat.le_refl _) _) (Nat.le_refl _) _
      have hbx : Blk wd1 wa.heap.size (bva y) 37 := by rw [hwd]; exact setRow_heap _ _ _ _ _ _ (heap_alloc_new _ _)
      rw [← hwd]
      clear hwd
      have Q2' := Q1.out.new bw hbx (Nat.le_refl _)
      obtain ⟨bt, hbt⟩ : ∃ bt, bt = wa.heap.size := ⟨_, rfl⟩
      rw [← hbt] at Q2'
      rw [← hbt]
      have Q2 := Lib.hid Q2'
      clear Q2' hbx bw hbt Q1
      go_wp2_with (show wpList _ _ _ ({ dst := some 53, op := .load 37 (.tmp 14), type := _, pos := _, after := _, guard := _ } :: _) _ _; apply Classical.byContradiction; intro hneg)
      refine hneg ?_
      clear hneg
      refine wpList_load_row rfl 37 (.tmp 14) rfl bt rfl 37 (bva y) (0, 0) _ (Q2.out.bx (bt, bva y, 37) (by simp)).1 Try.underlying37 rfl HIY.out ?_
      go_wp2_with (show wpList _ _ _ ({ dst := some 54, op := .buildSlice 26 1 #[(0, .tmp 53)], type := _, pos := _, after := _, guard := _ } :: _) _ _; apply Classical.byContradiction; intro hneg)
      refine hneg ?_
      clear hneg
      refine wpList_execg8 (v := .slice (some ⟨wd1.heap.size, 0, none⟩) 1 1) (w' := wd1.alloc (.cells (bva y) 37)) rfl (exec_buildSlice 26 1 #[(0, .tmp 53)] rfl ?hbld) ?_
      case hbld =>
        simp only [List.map_toArray, List.map_cons, List.map_nil]
        exact run_oneN secsElt wd1 (.agg (bva y)) (by show (bva y).size = 128; rw [bva_size, HY3.out]) (by omega)
      have Q3' := Q2.out.new (w' := wd1.alloc (.cells (bva y) 37)) ((Below.refl _ _).alloc (Nat.le_refl _) _) (heap_alloc_new _ _) (Nat.le_refl _)
      obtain ⟨u3, hu3⟩ : ∃ u3, u3 = wd1.alloc (.cells (bva y) 37) := ⟨_, rfl⟩
      rw [← hu3] at Q3'
      rw [← hu3]
      obtain ⟨g3, hg3⟩ : ∃ g3, g3 = wd1.heap.size := ⟨_, rfl⟩
      rw [← hg3] at Q3'
      rw [← hg3]
      have Q3 := Lib.hid Q3'
      clear Q3' hu3 hg3 Q2
      go_wp2_with (at_builtin; apply Classical.byContradiction; intro hneg)
      refine hneg ?_
      clear hneg
      refine wpList_appN _ rfl (.tmp 52) (.tmp 54) 26 rfl secsElt (base := w1.heap.size) (v := .slice A1 j ca) (n := j) (xs := svs ((List.range j).map tf)) rfl Q3.out.a (m := 1) (A := some ⟨g3, 0, none⟩) rfl (rd_new (Q3.out.bx (g3, bva y, 37) (by simp)).1) (by rw [bv_length, HY3.out]) (bv_one _) (by have := HKB.out; have := HLT.out; omega) Q3.out.live.bel.size ?_
      intro A4 c4 u4 ho hg hl
      have Q4' := (Q3.out.app ho hg hl)
      rw [HTE.out] at Q4'
      have Q4 := Lib.hid Q4'
      clear ho hg hl Q4' Q3
      go_wp2_with (show wpList _ _ _ ({ dst := some 58, op := .buildSlice 51 1 #[(0, .tmp 57)], type := _, pos := _, after := _, guard := _ } :: _) _ _; apply Classical.byContradiction; intro hneg)
      refine hneg ?_
      clear hneg
      refine wpList_execg8 (v := .slice (some ⟨u4.heap.size, 0, none⟩) 1 1) (w' := u4.alloc (.cells #[.int .i64 ye] 40)) rfl (exec_buildSlice 51 1 #[(0, .tmp 57)] rfl ?hbld) ?_
      case hbld =>
        simp only [List.map_toArray, List.map_cons, List.map_nil]
        exact run_oneN errElt u4 (.int .i64 ye) rfl (by omega)
      have Q5' := Q4.out.new (w' := u4.alloc (.cells #[.int .i64 ye] 40)) ((Below.refl _ _).alloc (Nat.le_refl _) _) (heap_alloc_new _ _) (Nat.le_refl _)
      obtain ⟨u5, hu5⟩ : ∃ u5, u5 = u4.alloc (.cells #[.int .i64 ye] 40) := ⟨_, rfl⟩
      rw [← hu5] at Q5'
      rw [← hu5]
      obtain ⟨g5, hg5⟩ : ∃ g5, g5 = u4.heap.size := ⟨_, rfl⟩
      rw [← hg5] at Q5'
      rw [← hg5]
      have Q5 := Lib.hid Q5'
      clear Q5' hu5 hg5 Q4
      go_wp2_with (at_builtin; apply Classical.byContradiction; intro hneg)
      refine hneg ?_
      clear hneg
      refine wpList_appN _ rfl (.tmp 56) (.tmp 58) 51 rfl errElt (base := w1.heap.size) (v := .slice E1 j ce) (n := j) (xs := ev ((List.range j).map ef)) rfl Q5.out.e (m := 1) (A := some ⟨g5, 0, none⟩) rfl (rd_one (Q5.out.bx (g5, #[.int .i64 ye], 40) (by simp)).1) rfl (by simp [Value.oneCell']) (by have := HKB.out; have := HLT.out; omega) Q5.out.live.bel.size ?_
      intro A6 c6 u6 ho hg hl
      have Q6' := (Q5.out.swap.app ho hg hl).swap
      rw [HEE.out] at Q6'
      have Q6 := Lib.hid Q6'
      clear ho hg hl Q6' Q5
      have QE := Lib.hid (Q6.out.fewer (bs' := [(b3, #[.slice U k cu, .slice V k cv], 27)]) (fun x hx => by rw [List.mem_singleton] at hx; subst hx; simp))
      clear Q6
      go_wp2_with fail
      go_roundw
      case rel => exact ⟨j + 1, _, _, A4, A6, c4, c6, HLT.out, by go_num, rfl, rfl, SD1.out, QE.out⟩
      case measure => (have := HLT.out; simp [intOf]; omega)
    · obtain rfl : j = k := by have := HJ.out; omega
      have j1 : ¬ (j : Int) < (j : Int) := by omega
      clear hlt
      go_wp2_with fail
      have hc := lm_all (show Mu.LM pw g1 g2 gG g w1 wr s F (startM L0 L1 j) 0 from ⟨Q0.out.live, SD.out.1, SD.out.2⟩) (by rw [HLN.out]; have := HKB.out; omega) (by omega)
      rw [HRX.out] at hc
      obtain ⟨rv, hrv⟩ : ∃ rv, rv = (mdRun gG.f (startM L0 L1 j, Wk.zero) (startM L0 L1 j).a.length).2.rep := ⟨_, rfl⟩
      rw [← hrv] at hc
      refine hc.mono ?_
      clear hc hrv
      rintro e wa ⟨rfl, sa, Fa, h, hm⟩
      have Q1 := Lib.hid (Q0.out.dev hm)
      have LA := Lib.hid h
      clear h hm Q0 SD
      cases out
      case false =>
        go_wp2_with fail
        have hc := lm_out1_on LA.out
        refine hc.mono ?_
        clear hc
        rintro e wo ⟨L', hL', rfl, so, Fo, h, hm⟩
        obtain ⟨xo, hxo⟩ : ∃ xo : Md, xo = { x1 with l1 := L', o1 := true } := ⟨_, rfl⟩
        rw [← hxo] at h
        have HRO := Lib.hid (show ∀ t, t < j → xo.read gG.f t = (tf t, ef t) from fun t ht => by rw [hxo]; exact (read_gone1 HFX.out ht L').trans (HRA.out 1 t ht))
        have Q2 := Lib.hid (Q1.out.dev hm)
        have SD2 := Lib.hid (show Mu.Sees so xo (0 + (startM L0 L1 j).a.length) ∧ Mu.Dry so xo from ⟨h.sees, h.dry⟩)
        have hbc : wo.cell? ⟨b3, 0, none⟩ = some (.slice U j cu) := (Q2.out.bx (b3, #[.slice U j cu, .slice V j cv], 27) (by simp)).1.cell 0
        clear h hm hxo hL' Q1 LA
        go_wp2_with fail
        clear hbc
        go_loopw [71] (fun i wr => ∃ (t : Nat) (s : Mr (Mu.one pw g1 g2)) (F : Nat → Prop), t ≤ j ∧ i = .int .i64 t ∧ (Mu.Sees s xo (0 + (startM L0 L1 j).a.length) ∧ Mu.Dry s xo) ∧ QS (ML (Mu.one pw g1 g2) gG g) w1 wr s F 37 40 128 1 (.slice A1 j ca) (.slice E1 j ce) j j (svs ((List.range j).map tf)) (ev ((List.range j).map ef)) [(b3, #[.slice U j cu, .slice V j cv], 27)]) (fun i _ => j - (intOf i).toNat)
        case atStart => exact ⟨0, _, _, Nat.zero_le _, rfl, SD2.out, Q2.out⟩
        case round =>
          clear SD2 Q2
          obtain ⟨t, s', F', ht, rfl, hsd, hqs⟩ := hrel
          have HT := Lib.hid ht
          have SD := Lib.hid hsd
          have Q0 := Lib.hid hqs
          clear ht hsd hqs
          by_cases hlt : t < j
          · have HLT := Lib.hid hlt
            have t0 : (0 : Int) ≤ (t : Int) := by omega
            have t1 : (t : Int) < (j : Int) := by omega
            have wt : IntKind.i64.wrap ((t : Int) + 1) = ((t + 1 : Nat) : Int) := IntWalk.i64_in _ (by have := HKB.out; omega)
            obtain ⟨y, hy⟩ : ∃ y, y = tf t := ⟨_, rfl⟩
            obtain ⟨ye, hye⟩ : ∃ ye, ye = ef t := ⟨_, rfl⟩
            have HY3 := Lib.hid (show y.length = 128 by rw [hy]; exact HT3.out t)
            have HIY : Hid ((Try.prog.info? 37).map (·.size) = some (bva y).size) := by rw [bva_size, HY3.out]; exact info_sec
            have HIL := Lib.hid (show (Try.prog.info? 37).map (·.size) = some (bv y).length by rw [bv_length, HY3.out]; exact info_sec)
            have HRJ := Lib.hid (show xo.read gG.f t = (y, ye) by rw [hy, hye]; exact HRO.out t HLT.out)
            have HQ := Lib.hid (show ∀ W, (Op.equalIn 10000 37 (.agg (bva y)) (.agg (bva y))).run Try.prog W = .ok true W from fun W => by rw [eq_sec y y HY3.out HY3.out, decide_eq_true rfl])
            have HGT := Lib.hid (show ((List.range j).map tf)[t]? = some y by rw [List.getElem?_map, List.getElem?_range HLT.out, hy]; rfl)
            have HGE := Lib.hid (show (ev ((List.range j).map ef))[t]? = some (.int .i64 ye) by rw [ev, List.getElem?_map, List.getElem?_map, List.getElem?_range HLT.out, hye]; rfl)
            have HT3L := Lib.hid (show ∀ x ∈ (List.range j).map tf, x.length = 128 from fun x hx => by obtain ⟨i, _, rfl⟩ := List.mem_map.1 hx; exact HT3.out i)
            clear hlt hy hye
            go_wp2_with fail
            have hc := Mu.lm_read (show Mu.LM pw g1 g2 gG g w1 wr s' F' xo (0 + (startM L0 L1 j).a.length) from ⟨Q0.out.live, SD.out.1, SD.out.2⟩) (t : Int)
            rw [HRJ.out] at hc
            refine hc.mono ?_
            clear hc
            rintro e wa ⟨rfl, sa, Fa, h, hm⟩
            have Q1 := Lib.hid (Q0.out.dev hm)
            have SD1 := Lib.hid (show Mu.Sees sa xo (0 + (startM L0 L1 j).a.length) ∧ Mu.Dry sa xo from ⟨h.sees, h.dry⟩)
            clear h hm Q0 SD
            go_wp2_with (show wpList _ _ _ ({ dst := none, op := .store 37 (.tmp 17) (.tmp 78), type := _, pos := _, after := _, guard := _ } :: _) _ _; apply Classical.byContradiction; intro hneg)
            refine hneg ?_
            clear hneg
            refine wpList_store_row rfl 37 (.tmp 17) (.tmp 78) rfl wa.heap.size (bva y) rfl rfl 37 (bva z) (heap_alloc_new _ _) HIY.out (by rw [bva_size, bva_size, HY3.out, HZ3.out]) (bva_one _) ?_
            obtain ⟨wd1, hwd⟩ : ∃ wd1, wd1 = (wa.alloc (.cells (bva z) 37)).setRow wa.heap.size (bva y) := ⟨_, rfl⟩
            have bw : Below wa.heap.size wa wd1 := by rw [hwd]; exact below_setRow ((Below.refl _ _).alloc (Nat.le_refl _) _) (Nat.le_refl _) _
            have hbx : Blk wd1 wa.heap.size (bva y) 37 := by rw [hwd]; exact setRow_heap _ _ _ _ _ _ (heap_alloc_new _ _)
            rw [← hwd]
            clear hwd
            have Q2' := Q1.out.new bw hbx (Nat.le_refl _)
            obtain ⟨bt, hbt⟩ : ∃ bt, bt = wa.heap.size := ⟨_, rfl⟩
            rw [← hbt] at Q2'
            rw [← hbt]
            have Q2 := Lib.hid Q2'
            clear Q2' hbx bw hbt Q1
            have htl : t < ((List.range j).map tf).length := by rw [List.length_map, List.length_range]; exact HLT.out
            have hty : ((List.range j).map tf)[t] = y := by have h := HGT.out; rw [List.getElem?_eq_getElem htl] at h; injection h
            obtain ⟨ad, hA1, hz1, hz2⟩ := rd_sec (Rd.ownN Q2.out.a) HT3L.out htl
            obtain ⟨ae, hA2, hz3, hz4⟩ := Rd.ownN Q2.out.e t _ HGE.out
            subst hA1 hA2
            have HC1 := Lib.hid (show ∀ w', Below wd1.heap.size wd1 w' → ∀ i x, (bv y)[i]? = some x → w'.cell? ((ad.add (t * 128)).add i) = some x from fun w' hb i x hx => by
              obtain ⟨a2, h1, _, h2⟩ := rd_sec ((Rd.ownN Q2.out.a).below hb) HT3L.out htl
              injection h1 with h1; subst h1
              exact h2 i x (by rw [hty]; exact hx))
            have HC2 := Lib.hid (show ∀ w', Below wd1.heap.size wd1 w' → w'.cell? (ae.add t) = some (.int .i64 ye) from fun w' hb => by
              obtain ⟨a2, h1, _, h2⟩ := ((Rd.ownN Q2.out.e).below hb) t _ HGE.out
              injection h1 with h1; subst h1
              exact h2)
            clear hz1 hz2 hz3 hz4 htl hty
            go_upto_region 20 with fail
            refine wp_region_held_drew (S := fun w' => Below wd1.heap.size wd1 w') (by kernel_rfl) (Below.refl _ _).drew (fun hh => ?_)
            have HH := Lib.hid hh
            clear hh
            refine wpAnyH_take (i := 0) (v := .agg (bva y)) rfl (by kernel_rfl) (by kernel_rfl) (by kernel_rfl) (fun _ _ _ h => h) (Or.inl ⟨by rfl, fun w' hw' => ?yW10⟩) HH.out ?_
            case yW10 => exact exec_load 37 (.tmp 17) rfl rfl ((Q2.out.bx (bt, bva y, 37) (by simp)).1.below hw') Try.underlying37 rfl HIY.out
            refine wpAnyH_take (i := 1) (v := ?vW11) rfl (by kernel_rfl) (by kernel_rfl) (by kernel_rfl) (fun _ _ _ h => h) (Or.inl ⟨by rfl, fun w' _ => ?yW11⟩) HH.out ?_
            case yW11 => (go_simp; try with_reducible rfl)
            try simp only [List.getElem_toArray, List.getElem_cons_succ, List.getElem_cons_zero, Act.put, List.setIfInBounds_toArray, List.set_cons_zero, List.set_cons_succ]
            refine wpAnyH_take (i := 2) (v := ?vW12) rfl (by kernel_rfl) (by kernel_rfl) (by kernel_rfl) (fun _ _ _ h => h) (Or.inl ⟨by rfl, fun w' _ => ?yW12⟩) HH.out ?_
            case yW12 => (go_simp; try with_reducible rfl)
            refine wpAnyH_take (i := 3) (v := ?vW13) rfl (by kernel_rfl) (by kernel_rfl) (by kernel_rfl) (fun _ _ _ h => h) (Or.inl ⟨by rfl, fun w' _ => ?yW13⟩) HH.out ?_
            case yW13 => (go_simp; try with_reducible rfl)
            refine wpAnyH_take (i := 4) (v := .agg (bva y)) rfl (by kernel_rfl) (by kernel_rfl) (by kernel_rfl) (fun _ _ _ h => h) (Or.inl ⟨by rfl, fun w' hw' => ?yWW1⟩) HH.out ?_
            case yWW1 => exact exec_load_at 37 (.tmp 83) rfl (ad.add (t * 128)) rfl (HC1.out w' hw') Try.underlying37 rfl HIL.out
            try simp only [List.getElem_toArray, List.getElem_cons_succ, List.getElem_cons_zero, Act.put, List.setIfInBounds_toArray, List.set_cons_zero, List.set_cons_succ]
            refine wpAnyH_take (i := 5) (v := .bool false) rfl (by kernel_rfl) (by kernel_rfl) (by kernel_rfl) (fun _ _ _ h => h) (Or.inl ⟨by rfl, fun w' hw' => ?yW15⟩) HH.out ?_
            case yW15 => (go_simp; rw [HQ.out]; rfl)
            try simp only [List.getElem_toArray, List.getElem_cons_succ, List.getElem_cons_zero, Act.put, List.setIfInBounds_toArray, List.set_cons_zero, List.set_cons_succ]
            refine wpAnyH_take (i := 6) (v := ?vW16) rfl (by kernel_rfl) (by kernel_rfl) (by kernel_rfl) (fun _ _ _ h => h) (Or.inl ⟨by rfl, fun w' _ => ?yW16⟩) HH.out ?_
            case yW16 => (go_simp; try with_reducible rfl)
            try simp only [List.getElem_toArray, List.getElem_cons_succ, List.getElem_cons_zero, Act.put, List.setIfInBounds_toArray, List.set_cons_zero, List.set_cons_succ]
            refine wpAnyH_take (i := 7) (v := ?vW17) rfl (by kernel_rfl) (by kernel_rfl) (by kernel_rfl) (fun _ _ _ h => h) (Or.inl ⟨by rfl, fun w' _ => ?yW17⟩) HH.out ?_
            case yW17 => (go_simp; try with_reducible rfl)
            try simp only [List.getElem_toArray, List.getElem_cons_succ, List.getElem_cons_zero, Act.put, List.setIfInBounds_toArray, List.set_cons_zero, List.set_cons_succ]
            refine wpAnyH_take (i := 8) (v := ?vW18) rfl (by kernel_rfl) (by kernel_rfl) (by kernel_rfl) (fun _ _ _ h => h) (Or.inl ⟨by rfl, fun w' _ => ?yW18⟩) HH.out ?_
            case yW18 => (go_simp; try with_reducible rfl)
            try simp only [List.getElem_toArray, List.getElem_cons_succ, List.getElem_cons_zero, Act.put, List.setIfInBounds_toArray, List.set_cons_zero, List.set_cons_succ]
            refine wpAnyH_take (i := 9) (v := ?vW19) rfl (by kernel_rfl) (by kernel_rfl) (by kernel_rfl) (fun _ _ _ h => h) (Or.inl ⟨by rfl, fun w' _ => ?yW19⟩) HH.out ?_
            case yW19 => (go_simp; try with_reducible rfl)
            try simp only [List.getElem_toArray, List.getElem_cons_succ, List.getElem_cons_zero, Act.put, List.setIfInBounds_toArray, List.set_cons_zero, List.set_cons_succ]
            refine wpAnyH_take (i := 10) (v := ?vW110) rfl (by kernel_rfl) (by kernel_rfl) (by kernel_rfl) (fun _ _ _ h => h) (Or.inl ⟨by rfl, fun w' _ => ?yW110⟩) HH.out ?_
            case yW110 => (go_simp; try with_reducible rfl)
            try simp only [List.getElem_toArray, List.getElem_cons_succ, List.getElem_cons_zero, Act.put, List.setIfInBounds_toArray, List.set_cons_zero, List.set_cons_succ]
            refine wpAnyH_take (i := 11) (v := .int .i64 ye) rfl (by kernel_rfl) (by kernel_rfl) (by kernel_rfl) (fun _ _ _ h => h) (Or.inl ⟨by rfl, fun w' hw' => ?yW111⟩) HH.out ?_
            case yW111 => (have hc := HC2.out w' hw'; go_simp; try with_reducible rfl)
            refine wpAnyH_take (i := 12) (v := .bool false) rfl (by kernel_rfl) (by kernel_rfl) (by kernel_rfl) (fun _ _ _ h => h) (Or.inl ⟨by rfl, fun w' hw' => ?yW112⟩) HH.out ?_
            case yW112 => (go_simp; try rfl)
            refine wpAnyH_take (i := 13) (v := ?vW113) rfl (by kernel_rfl) (by kernel_rfl) (by kernel_rfl) (fun _ _ _ h => h) (Or.inl ⟨by rfl, fun w' _ => ?yW113⟩) HH.out ?_
            case yW113 => (go_simp; try with_reducible rfl)
            try simp only [List.getElem_toArray, List.getElem_cons_succ, List.getElem_cons_zero, Act.put, List.setIfInBounds_toArray, List.set_cons_zero, List.set_cons_succ]
            refine wpAnyH_done (by kernel_rfl) ?_ _
            have QE := Lib.hid ((Q2.out.below HH.out).fewer (bs' := [(b3, #[.slice U j cu, .slice V j cv], 27)]) (fun x hx => by rw [List.mem_singleton] at hx; subst hx; simp))
            clear Q2 HC1 HC2 HH
            go_wp2_with fail
            go_roundw
            case rel => exact ⟨t + 1, _, _, HLT.out, by go_num, SD1.out, QE.out⟩
            case measure => (have := HLT.out; simp [intOf]; omega)
          · obtain rfl : t = j := by have := HT.out; omega
            have t1 : ¬ (t : Int) < (t : Int) := by omega
            clear hlt
            go_wp2_with fail
            go_ret
            exact ⟨rfl, B1.out.trans (Q0.out.live.bel.mono B1.out.size)⟩
      case true =>
        go_wp2_with fail
        have hc := lm_out0_on LA.out
        refine hc.mono ?_
        clear hc
        rintro e wo ⟨L', hL', rfl, so, Fo, h, hm⟩
        obtain ⟨xo, hxo⟩ : ∃ xo : Md, xo = { x1 with l0 := L', o0 := true } := ⟨_, rfl⟩
        rw [← hxo] at h
        have HRO := Lib.hid (show ∀ t, t < j → xo.read gG.f t = (tf t, ef t) from fun t ht => by rw [hxo]; exact (read_gone0 HFX.out ht L').trans (HRA.out 0 t ht))
        have Q2 := Lib.hid (Q1.out.dev hm)
        have SD2 := Lib.hid (show Mu.Sees so xo (0 + (startM L0 L1 j).a.length) ∧ Mu.Dry so xo from ⟨h.sees, h.dry⟩)
        have hbc : wo.cell? ⟨b3, 0, none⟩ = some (.slice U j cu) := (Q2.out.bx (b3, #[.slice U j cu, .slice V j cv], 27) (by simp)).1.cell 0
        clear h hm hxo hL' Q1 LA
        go_wp2_with fail
        clear hbc
        go_loopw [71] (fun i wr => ∃ (t : Nat) (s : Mr (Mu.one pw g1 g2)) (F : Nat → Prop), t ≤ j ∧ i = .int .i64 t ∧ (Mu.Sees s xo (0 + (startM L0 L1 j).a.length) ∧ Mu.Dry s xo) ∧ QS (ML (Mu.one pw g1 g2) gG g) w1 wr s F 37 40 128 1 (.slice A1 j ca) (.slice E1 j ce) j j (svs ((List.range j).map tf)) (ev ((List.range j).map ef)) [(b3, #[.slice U j cu, .slice V j cv], 27)]) (fun i _ => j - (intOf i).toNat)
        case atStart => exact ⟨0, _, _, Nat.zero_le _, rfl, SD2.out, Q2.out⟩
        case round =>
          clear SD2 Q2
          obtain ⟨t, s', F', ht, rfl, hsd, hqs⟩ := hrel
          have HT := Lib.hid ht
          have SD := Lib.hid hsd
          have Q0 := Lib.hid hqs
          clear ht hsd hqs
          by_cases hlt : t < j
          · have HLT := Lib.hid hlt
            have t0 : (0 : Int) ≤ (t : Int) := by omega
            have t1 : (t : Int) < (j : Int) := by omega
            have wt : IntKind.i64.wrap ((t : Int) + 1) = ((t + 1 : Nat) : Int) := IntWalk.i64_in _ (by have := HKB.out; omega)
            obtain ⟨y, hy⟩ : ∃ y, y = tf t := ⟨_, rfl⟩
            obtain ⟨ye, hye⟩ : ∃ ye, ye = ef t := ⟨_, rfl⟩
            have HY3 := Lib.hid (show y.length = 128 by rw [hy]; exact HT3.out t)
            have HIY : Hid ((Try.prog.info? 37).map (·.size) = some (bva y).size) := by rw [bva_size, HY3.out]; exact info_sec
            have HIL := Lib.hid (show (Try.prog.info? 37).map (·.size) = some (bv y).length by rw [bv_length, HY3.out]; exact info_sec)
            have HRJ := Lib.hid (show xo.read gG.f t = (y, ye) by rw [hy, hye]; exact HRO.out t HLT.out)
            have HQ := Lib.hid (show ∀ W, (Op.equalIn 10000 37 (.agg (bva y)) (.agg (bva y))).run Try.prog W = .ok true W from fun W => by rw [eq_sec y y HY3.out HY3.out, decide_eq_true rfl])
            have HGT := Lib.hid (show ((List.range j).map tf)[t]? = some y by rw [List.getElem?_map, List.getElem?_range HLT.out, hy]; rfl)
            have HGE := Lib.hid (show (ev ((List.range j).map ef))[t]? = some (.int .i64 ye) by rw [ev, List.getElem?_map, List.getElem?_map, List.getElem?_range HLT.out, hye]; rfl)
            have HT3L := Lib.hid (show ∀ x ∈ (List.range j).map tf, x.length = 128 from fun x hx => by obtain ⟨i, _, rfl⟩ := List.mem_map.1 hx; exact HT3.out i)
            clear hlt hy hye
            go_wp2_with fail
            have hc := Mu.lm_read (show Mu.LM pw g1 g2 gG g w1 wr s' F' xo (0 + (startM L0 L1 j).a.length) from ⟨Q0.out.live, SD.out.1, SD.out.2⟩) (t : Int)
            rw [HRJ.out] at hc
            refine hc.mono ?_
            clear hc
            rintro e wa ⟨rfl, sa, Fa, h, hm⟩
            have Q1 := Lib.hid (Q0.out.dev hm)
            have SD1 := Lib.hid (show Mu.Sees sa xo (0 + (startM L0 L1 j).a.length) ∧ Mu.Dry sa xo from ⟨h.sees, h.dry⟩)
            clear h hm Q0 SD
            go_wp2_with (show wpList _ _ _ ({ dst := none, op := .store 37 (.tmp 17) (.tmp 78), type := _, pos := _, after := _, guard := _ } :: _) _ _; apply Classical.byContradiction; intro hneg)
            refine hneg ?_
            clear hneg
            refine wpList_store_row rfl 37 (.tmp 17) (.tmp 78) rfl wa.heap.size (bva y) rfl rfl 37 (bva z) (heap_alloc_new _ _) HIY.out (by rw [bva_size, bva_size, HY3.out, HZ3.out]) (bva_one _) ?_
            obtain ⟨wd1, hwd⟩ : ∃ wd1, wd1 = (wa.alloc (.cells (bva z) 37)).setRow wa.heap.size (bva y) := ⟨_, rfl⟩
            have bw : Below wa.heap.size wa wd1 := by rw [hwd]; exact below_setRow ((Below.refl _ _).alloc (Nat.le_refl _) _) (Nat.le_refl _) _
            have hbx : Blk wd1 wa.heap.size (bva y) 37 := by rw [hwd]; exact setRow_heap _ _ _ _ _ _ (heap_alloc_new _ _)
            rw [← hwd]
            clear hwd
            have Q2' := Q1.out.new bw hbx (Nat.le_refl _)
            obtain ⟨bt, hbt⟩ : ∃ bt, bt = wa.heap.size := ⟨_, rfl⟩
            rw [← hbt] at Q2'
            rw [← hbt]
            have Q2 := Lib.hid Q2'
            clear Q2' hbx bw hbt Q1
            have htl : t < ((List.range j).map tf).length := by rw [List.length_map, List.length_range]; exact HLT.out
            have hty : ((List.range j).map tf)[t] = y := by have h := HGT.out; rw [List.getElem?_eq_getElem htl] at h; injection h
            obtain ⟨ad, hA1, hz1, hz2⟩ := rd_sec (Rd.ownN Q2.out.a) HT3L.out htl
            obtain ⟨ae, hA2, hz3, hz4⟩ := Rd.ownN Q2.out.e t _ HGE.out
            subst hA1 hA2
            have HC1 := Lib.hid (show ∀ w', Below wd1.heap.size wd1 w' → ∀ i x, (bv y)[i]? = some x → w'.cell? ((ad.add (t * 128)).add i) = some x from fun w' hb i x hx => by
              obtain ⟨a2, h1, _, h2⟩ := rd_sec ((Rd.ownN Q2.out.a).below hb) HT3L.out htl
              injection h1 with h1; subst h1
              exact h2 i x (by rw [hty]; exact hx))
            have HC2 := Lib.hid (show ∀ w', Below wd1.heap.size wd1 w' → w'.cell? (ae.add t) = some (.int .i64 ye) from fun w' hb => by
              obtain ⟨a2, h1, _, h2⟩ := ((Rd.ownN Q2.out.e).below hb) t _ HGE.out
              injection h1 with h1; subst h1
              exact h2)
            clear hz1 hz2 hz3 hz4 htl hty
            go_upto_region 20 with fail
            refine wp_region_held_drew (S := fun w' => Below wd1.heap.size wd1 w') (by kernel_rfl) (Below.refl _ _).drew (fun hh => ?_)
            have HH := Lib.hid hh
            clear hh
            refine wpAnyH_take (i := 0) (v := .agg (bva y)) rfl (by kernel_rfl) (by kernel_rfl) (by kernel_rfl) (fun _ _ _ h => h) (Or.inl ⟨by rfl, fun w' hw' => ?yW00⟩) HH.out ?_
            case yW00 => exact exec_load 37 (.tmp 17) rfl rfl ((Q2.out.bx (bt, bva y, 37) (by simp)).1.below hw') Try.underlying37 rfl HIY.out
            refine wpAnyH_take (i := 1) (v := ?vW01) rfl (by kernel_rfl) (by kernel_rfl) (by kernel_rfl) (fun _ _ _ h => h) (Or.inl ⟨by rfl, fun w' _ => ?yW01⟩) HH.out ?_
            case yW01 => (go_simp; try with_reducible rfl)
            try simp only [List.getElem_toArray, List.getElem_cons_succ, List.getElem_cons_zero, Act.put, List.setIfInBounds_toArray, List.set_cons_zero, List.set_cons_succ]
            refine wpAnyH_take (i := 2) (v := ?vW02) rfl (by kernel_rfl) (by kernel_rfl) (by kernel_rfl) (fun _ _ _ h => h) (Or.inl ⟨by rfl, fun w' _ => ?yW02⟩) HH.out ?_
            case yW02 => (go_simp; try with_reducible rfl)
            refine wpAnyH_take (i := 3) (v := ?vW03) rfl (by kernel_rfl) (by kernel_rfl) (by kernel_rfl) (fun _ _ _ h => h) (Or.inl ⟨by rfl, fun w' _ => ?yW03⟩) HH.out ?_
            case yW03 => (go_simp; try with_reducible rfl)
            refine wpAnyH_take (i := 4) (v := .agg (bva y)) rfl (by kernel_rfl) (by kernel_rfl) (by kernel_rfl) (fun _ _ _ h => h) (Or.inl ⟨by rfl, fun w' hw' => ?yWW0⟩) HH.out ?_
            case yWW0 => exact exec_load_at 37 (.tmp 83) rfl (ad.add (t * 128)) rfl (HC1.out w' hw') Try.underlying37 rfl HIL.out
            try simp only [List.getElem_toArray, List.getElem_cons_succ, List.getElem_cons_zero, Act.put, List.setIfInBounds_toArray, List.set_cons_zero, List.set_cons_succ]
            refine wpAnyH_take (i := 5) (v := .bool false) rfl (by kernel_rfl) (by kernel_rfl) (by kernel_rfl) (fun _ _ _ h => h) (Or.inl ⟨by rfl, fun w' hw' => ?yW05⟩) HH.out ?_
            case yW05 => (go_simp; rw [HQ.out]; rfl)
            try simp only [List.getElem_toArray, List.getElem_cons_succ, List.getElem_cons_zero, Act.put, List.setIfInBounds_toArray, List.set_cons_zero, List.set_cons_succ]
            refine wpAnyH_take (i := 6) (v := ?vW06) rfl (by kernel_rfl) (by kernel_rfl) (by kernel_rfl) (fun _ _ _ h => h) (Or.inl ⟨by rfl, fun w' _ => ?yW06⟩) HH.out ?_
            case yW06 => (go_simp; try with_reducible rfl)
            try simp only [List.getElem_toArray, List.getElem_cons_succ, List.getElem_cons_zero, Act.put, List.setIfInBounds_toArray, List.set_cons_zero, List.set_cons_succ]
            refine wpAnyH_take (i := 7) (v := ?vW07) rfl (by kernel_rfl) (by kernel_rfl) (by kernel_rfl) (fun _ _ _ h => h) (Or.inl ⟨by rfl, fun w' _ => ?yW07⟩) HH.out ?_
            case yW07 => (go_simp; try with_reducible rfl)
            try simp only [List.getElem_toArray, List.getElem_cons_succ, List.getElem_cons_zero, Act.put, List.setIfInBounds_toArray, List.set_cons_zero, List.set_cons_succ]
            refine wpAnyH_take (i := 8) (v := ?vW08) rfl (by kernel_rfl) (by kernel_rfl) (by kernel_rfl) (fun _ _ _ h => h) (Or.inl ⟨by rfl, fun w' _ => ?yW08⟩) HH.out ?_
            case yW08 => (go_simp; try with_reducible rfl)
            try simp only [List.getElem_toArray, List.getElem_cons_succ, List.getElem_cons_zero, Act.put, List.setIfInBounds_toArray, List.set_cons_zero, List.set_cons_succ]
            refine wpAnyH_take (i := 9) (v := ?vW09) rfl (by kernel_rfl) (by kernel_rfl) (by kernel_rfl) (fun _ _ _ h => h) (Or.inl ⟨by rfl, fun w' _ => ?yW09⟩) HH.out ?_
            case yW09 => (go_simp; try with_reducible rfl)
            try simp only [List.getElem_toArray, List.getElem_cons_succ, List.getElem_cons_zero, Act.put, List.setIfInBounds_toArray, List.set_cons_zero, List.set_cons_succ]
            refine wpAnyH_take (i := 10) (v := ?vW010) rfl (by kernel_rfl) (by kernel_rfl) (by kernel_rfl) (fun _ _ _ h => h) (Or.inl ⟨by rfl, fun w' _ => ?yW010⟩) HH.out ?_
            case yW010 => (go_simp; try with_reducible rfl)
            try simp only [List.getElem_toArray, List.getElem_cons_succ, List.getElem_cons_zero, Act.put, List.setIfInBounds_toArray, List.set_cons_zero, List.set_cons_succ]
            refine wpAnyH_take (i := 11) (v := .int .i64 ye) rfl (by kernel_rfl) (by kernel_rfl) (by kernel_rfl) (fun _ _ _ h => h) (Or.inl ⟨by rfl, fun w' hw' => ?yW011⟩) HH.out ?_
            case yW011 => (have hc := HC2.out w' hw'; go_simp; try with_reducible rfl)
            refine wpAnyH_take (i := 12) (v := .bool false) rfl (by kernel_rfl) (by kernel_rfl) (by kernel_rfl) (fun _ _ _ h => h) (Or.inl ⟨by rfl, fun w' hw' => ?yW012⟩) HH.out ?_
            case yW012 => (go_simp; try rfl)
            refine wpAnyH_take (i := 13) (v := ?vW013) rfl (by kernel_rfl) (by kernel_rfl) (by kernel_rfl) (fun _ _ _ h => h) (Or.inl ⟨by rfl, fun w' _ => ?yW013⟩) HH.out ?_
            case yW013 => (go_simp; try with_reducible rfl)
            try simp only [List.getElem_toArray, List.getElem_cons_succ, List.getElem_cons_zero, Act.put, List.setIfInBounds_toArray, List.set_cons_zero, List.set_cons_succ]
            refine wpAnyH_done (by kernel_rfl) ?_ _
            have QE := Lib.hid ((Q2.out.below HH.out).fewer (bs' := [(b3, #[.slice U j cu, .slice V j cv], 27)]) (fun x hx => by rw [List.mem_singleton] at hx; subst hx; simp))
            clear Q2 HC1 HC2 HH
            go_wp2_with fail
            go_roundw
            case rel => exact ⟨t + 1, _, _, HLT.out, by go_num, SD1.out, QE.out⟩
            case measure => (have := HLT.out; simp [intOf]; omega)
          · obtain rfl : t = j := by have := HT.out; omega
            have t1 : ¬ (t : Int) < (t : Int) := by omega
            clear hlt
            go_wp2_with fail
            go_ret
            exact ⟨rfl, B1.out.trans (Q0.out.live.bel.mono B1.out.size)⟩
theorem scrubReads_own : ownKnob Try.prog.godebug = none := by kernel_rfl
theorem scrubReads_laid : laidOutB Try.prog = true := by kernel_rfl

set_option maxRecDepth 100000 in
theorem scrubReads_lifted (os : Os) (started : os.Started) (H : Type) (enc : TypeId × Value → H) :
    ReturnsInHanded {} Try.checked os 6 .any (Rows.scrubReadsSpec.pre6 enc Try.prog Try.f6 Rows.scrubReadsRow.domain false) (Rows.scrubReadsSpec.post enc Try.prog Try.f6 false true false false) := by
  refine returnsInHanded_of_change (C := Try.checked) scrubReads_own started (by kernel_rfl) Try.func6
    (ChangeSpec.witness6 (enc := enc) (C := Try.checked) false ⟨#[], #[.slice none 0 0, .slice none 0 0, .bool false], []⟩ 8 (by kernel_rfl) (by kernel_rfl) (by kernel_rfl) (by kernel_rfl)) ?_
  intro W base args ds gs before hval0 hW _ _
  have hval : ∀ (j : Nat) t v, Try.f6.params[j]? = some t → args[j]? = some v → Value.okWide Try.prog W .any base t v := hval0
  have hW' := hW
  obtain ⟨p, q, hA0, hV, rfl, hfz, hnd⟩ := hW
  have hA : DataW.TrodAll enc Try.prog W 0 (fun _ => true) true Try.f6.params.toList args.toList ds p := hA0
  rw [Try.params6] at hA hval
  obtain ⟨v0, vs0, d0, ds0, p0, q0, hargs, rfl, rfl, h0, r0⟩ := trodAll_cons hA
  obtain ⟨v1, vs1, d1, ds1, p1, q1, rfl, rfl, rfl, h1, r1⟩ := trodAll_cons r0
  obtain ⟨v2, vs2, d2, ds2, p2, q2, rfl, rfl, rfl, h2, r2⟩ := trodAll_cons r1
  obtain ⟨rfl, rfl, rfl⟩ := trodAll_nil r2
  obtain rfl : args = #[v0, v1, v2] := by cases args; simp_all
  obtain ⟨rfl, rfl⟩ := trodVars_none hV
  obtain ⟨a0, n0, c0, rfl⟩ := okWide_slice Try.underlying22 (hval 0 22 v0 rfl rfl)
  have lt0 : ∀ x ∈ p0, x.block < W.heap.size := by obtain ⟨m, hm⟩ := h0; exact DataW.trod_lt m _ _ _ hm
  obtain ⟨l0, hl0, hc0, hm0, hr0⟩ := Sc.open_pairs h0
  obtain ⟨a1, n1, c1, rfl⟩ := okWide_slice Try.underlying22 (hval 1 22 v1 rfl rfl)
  have lt1 : ∀ x ∈ p1, x.block < W.heap.size := by obtain ⟨m, hm⟩ := h1; exact DataW.trod_lt m _ _ _ hm
  obtain ⟨l1, hl1, hc1, hm1, hr1⟩ := Sc.open_pairs h1
  obtain ⟨a2, rfl, rfl, rfl⟩ := open_bool Try.underlying4 (hval 2 4 v2 rfl rfl) h2
  clear hA0 hval0
  refine (scrubReads_any W a0 n0 c0 l0 hl0 hc0 hm0 hr0 a1 n1 c1 l1 hl1 hc1 hm1 hr1 a2).mono fun e W' ⟨he, bel⟩ => ?_
  subst he
  exact ⟨_, rfl, _, _, _, [], _, [], hW', trodAll_mk1 (shut_bool Try.underlying4 _), (trodAll_cons_mk (Below.trod scrubReads_laid (by kernel_rfl) (of_decide_eq_true (by kernel_rfl)) h0 bel lt0) (trodAll_cons_mk (Below.trod scrubReads_laid (by kernel_rfl) (of_decide_eq_true (by kernel_rfl)) h1 bel lt1) (trodAll_cons_mk (shut_bool Try.underlying4 a2) trodAll_mk0))), rfl, bel.frame _, fun h => by cases h⟩

theorem scrubReads_holds : Rows.ScrubReadsSaid :=
  OpenClaim.holds_of_wide 6 Try.f6 rfl rfl rfl rfl rfl rfl rfl ⟨rfl, rfl, rfl, rfl, rfl⟩ rfl rfl rfl rfl rfl (by kernel_rfl) Try.func6 (by kernel_rfl)
    (of_decide_eq_true (by kernel_rfl)) (by unfold Func.isWrapper; rw [if_neg (of_decide_eq_false (by kernel_rfl))]; exact ⟨rfl, rfl⟩)
    (fun os started H enc _ => scrubReads_lifted os started H enc)

#print axioms scrubReads_holds

end Go.Proofs.Ytniamllcoemikaa
