/-
  The law MirrorTurned holds: a mirror of the two devices turned about tells the same of every place, as long as both have the same. For any bytes and place.
-/
import Derived.Test.YtfofkjcdohmkpaaMt1
import Derived.Test.YtfofkjcdohmkpaaRows
import Derived.ProofKit
import Derived.OpenShut
import Derived.ShutString
import Derived.ChangeOld
namespace Go.Proofs.Ytfofkjcdohmkpaa
open Go.RowKit Kd Mi Go.ChangeShapes Go.WideShapes Go.ChangeAt
attribute [local go_sem ↓] Go.wp_at_zero Go.wp_at_succ
set_option maxRecDepth 100000 in
set_option maxHeartbeats 25600000 in
theorem mirrorTurned_any (w : World) (A : Option Addr) (N c : Nat) (l : List UInt8) (hl : l.length = N) (_ : N ≤ c) (_ : c ≤ maxLen) (hr : Rd w.heap.size w A (bv l)) (n : Int) (_ : -9223372036854775808 ≤ n ∧ n ≤ 9223372036854775807) : Calls Try.prog 10 #[.slice A N c, .int .i64 n] w (RetB (.bool true) w) := by
  obtain ⟨z, hz0⟩ : ∃ z : List UInt8, z = zeroS := ⟨_, rfl⟩
  have hz : ∀ W, (zeroValue 38).run Try.prog W = .ok (.agg (bva z)) W := fun _ => by rw [hz0]; kernel_rfl
  have HZ3 := Lib.hid (show z.length = 128 by rw [hz0]; exact zeroS_length)
  clear hz0
  have HL := Lib.hid hl
  have HRD := Lib.hid hr
  have B0 := Lib.hid (Below.refl w.heap.size w)
  clear hl hr
  go_enter Try.func10, Try.ntmps10
  go_wp2_with fail
  have hc := awake_any w
  refine hc.mono ?_
  clear hc
  rintro e w1 ⟨rfl, bw⟩
  have B1 := Lib.hid (B0.out.trans (bw.mono B0.out.size))
  clear bw B0
  by_cases hbig : 20 < N
  · have n1 : (20 : Int) < (N : Int) := by omega
    go_wp2_with fail
    go_ret
    exact ⟨rfl, B1.out⟩
  · have n1 : ¬ (20 : Int) < (N : Int) := by omega
    have HNB := Lib.hid (show N ≤ 20 by omega)
    clear hbig
    go_wp2_with fail
    refine (live_new0 6).mono ?_
    rintro e w2 ⟨p1, g1, rfl, F2, h⟩
    have H2 := Lib.hid h
    clear h
    go_wp2_with fail
    refine (live_new0 6).mono ?_
    rintro e w3 ⟨p2, g2, rfl, F3, h⟩
    have HD3 := Lib.hid (ld_new H2.out h (see_new 6 (by omega)) (see_new 6 (by omega)))
    clear h H2
    go_wp2_with fail
    refine (lm_new (G := gG) (fun _ _ _ _ _ _ => trivial) HD3.out (n := 6) rfl rfl).mono ?_
    rintro e w4 ⟨g, s4, F4, rfl, h, hn, hb⟩
    have H4 := Lib.hid (show LM p1 g1 p2 g2 gG g w1 w4 s4 F4 (Md.new 6) 0 from h)
    clear h hn hb HD3
    go_wp2_with fail
    go_loopw [8] (fun i wr => ∃ (j : Nat) (L : List (List UInt8)) (F : Nat → Prop) (s : Mr (Two p1 g1 p2 g2)), j ≤ N ∧ i = .int .i64 j ∧ L.length = 6 ∧ LM p1 g1 p2 g2 gG g w1 wr s F (even L 6) 0) (fun i _ => N - (intOf i).toNat)
    case atStart => exact ⟨0, List.replicate 6 zeroS, _, _, Nat.zero_le _, rfl, List.length_replicate, H4.out⟩
    case round =>
      clear H4
      obtain ⟨j, L, F, s, hj, rfl, hL, hlm⟩ := hrel
      have H := Lib.hid hlm
      have HJ := Lib.hid hj
      have HLL := Lib.hid hL
      clear hlm hj hL
      by_cases hlt : j < N
      · have HLT := Lib.hid hlt
        have j0 : (0 : Int) ≤ (j : Int) := by omega
        have j1 : (j : Int) < (N : Int) := by omega
        have wj : IntKind.i64.wrap ((j : Int) + 1) = ((j + 1 : Nat) : Int) := IntWalk.i64_in _ (by have := HNB.out; omega)
        obtain ⟨x, hx⟩ : ∃ x, x = l[j]'(by rw [HL.out]; exact hlt) := ⟨_, rfl⟩
        have hlx : (bv l)[j]? = some (.int .u8 (x.toNat : Int)) := by rw [bv, List.getElem?_map, List.getElem?_eq_getElem (by rw [HL.out]; exact hlt), hx]; rfl
        obtain ⟨ad, hA, hab, hac⟩ := HRD.out j _ hlx
        subst hA
        have HC := Lib.hid (show ∀ w', Below w.heap.size w w' → w'.cell? (ad.add j) = some (.int .u8 (x.toNat : Int)) from fun w' hb => by
          obtain ⟨a2, h1, _, h2⟩ := (HRD.out.below hb) j _ hlx
          injection h1 with h1; subst h1; exact h2)
        obtain ⟨k, hk⟩ : ∃ k, k = x.toNat % 6 := ⟨_, rfl⟩
        have HK := Lib.hid (show k < 6 by rw [hk]; exact Nat.mod_lt _ (by omega))
        have wx : IntKind.i64.wrap (x.toNat : Int) = (x.toNat : Int) := IntWalk.i64_in _ (by have := UInt8.toNat_lt x; omega)
        have hx6 : ((x.toNat : Int)).tmod 6 = (k : Int) := by rw [hk, Int.tmod_eq_emod_of_nonneg (by omega)]; omega
        obtain ⟨yb, hyb⟩ : ∃ yb : UInt8, (yb.toNat : Int) = (j : Int) := ⟨UInt8.ofNat j, by rw [UInt8.toNat_ofNat']; have := HNB.out; omega⟩
        have wu : IntKind.u8.wrap (j : Int) = (yb.toNat : Int) := by rw [hyb, IntKind.wrap_u8]; have := HNB.out; omega
        have HYB := Lib.hid wu
        obtain ⟨y, hy⟩ : ∃ y, y = secN x yb := ⟨_, rfl⟩
        have HY3 := Lib.hid (show y.length = 128 by rw [hy]; exact secN_length _ _)
        have HSY := Lib.hid (show ∀ w, Calls Try.prog 30 #[.int .u8 (x.toNat : Int), .int .u8 (yb.toNat : Int)] w (RetB (.agg (bva y)) w) from fun w => by rw [hy]; exact sector9_any w x yb)
        clear hlt hx hlx hab hac hk hy hyb
        go_wp2_with fail
        refine wp_region_held_drew (S := fun w' => Below w.heap.size w w') (by kernel_rfl) ((B1.out.trans (H.out.live.bel.mono B1.out.size)).drew) (fun hh => ?_)
        have HH := Lib.hid hh
        clear hh
        refine wpAnyH_take (i := 0) (v := ?vT0) rfl (by kernel_rfl) (by kernel_rfl) (by kernel_rfl) (fun _ _ _ h => h) (Or.inl ⟨by rfl, fun w' _ => ?yT0⟩) HH.out ?_
        case yT0 => (go_simp; try with_reducible rfl)
        refine wpAnyH_take (i := 1) (v := ?vT1) rfl (by kernel_rfl) (by kernel_rfl) (by kernel_rfl) (fun _ _ _ h => h) (Or.inl ⟨by rfl, fun w' _ => ?yT1⟩) HH.out ?_
        case yT1 => (go_simp; try with_reducible rfl)
        try simp only [List.getElem_toArray, List.getElem_cons_succ, List.getElem_cons_zero, Act.put, List.setIfInBounds_toArray, List.set_cons_zero, List.set_cons_succ]
        refine wpAnyH_take (i := 2) (v := ?vT2) rfl (by kernel_rfl) (by kernel_rfl) (by kernel_rfl) (fun _ _ _ h => h) (Or.inl ⟨by rfl, fun w' _ => ?yT2⟩) HH.out ?_
        case yT2 => (go_simp; try with_reducible rfl)
        refine wpAnyH_take (i := 3) (v := ?vT3) rfl (by kernel_rfl) (by kernel_rfl) (by kernel_rfl) (fun _ _ _ h => h) (Or.inl ⟨by rfl, fun w' _ => ?yT3⟩) HH.out ?_
        case yT3 => (go_simp; try with_reducible rfl)
        refine wpAnyH_take (i := 4) (v := .int .u8 (x.toNat : Int)) rfl (by kernel_rfl) (by kernel_rfl) (by kernel_rfl) (fun _ _ _ h => h) (Or.inl ⟨by rfl, fun w' hw' => ?yT4⟩) HH.out ?_
        case yT4 => (have hc := HC.out w' hw'; go_simp; try with_reducible rfl)
        try simp only [List.getElem_toArray, List.getElem_cons_succ, List.getElem_cons_zero, Act.put, List.setIfInBounds_toArray, List.set_cons_zero, List.set_cons_succ]
        refine wpAnyH_take (i := 5) (v := ?vT5) rfl (by kernel_rfl) (by kernel_rfl) (by kernel_rfl) (fun _ _ _ h => h) (Or.inl ⟨by rfl, fun w' _ => ?yT5⟩) HH.out ?_
        case yT5 => (go_simp; try with_reducible rfl)
        refine wpAnyH_take (i := 6) (v := .int .i64 (k : Int)) rfl (by kernel_rfl) (by kernel_rfl) (by kernel_rfl) (fun _ _ _ h => h) (Or.inl ⟨by rfl, fun w' hw' => ?yT6⟩) HH.out ?_
        case yT6 => (go_simp; try with_reducible rfl)
        refine wpAnyH_take (i := 7) (v := ?vT7) rfl (by kernel_rfl) (by kernel_rfl) (by kernel_rfl) (fun _ _ _ h => h) (Or.inl ⟨by rfl, fun w' _ => ?yT7⟩) HH.out ?_
        case yT7 => (go_simp; try with_reducible rfl)
        try simp only [List.getElem_toArray, List.getElem_cons_succ, List.getElem_cons_zero, Act.put, List.setIfInBounds_toArray, List.set_cons_zero, List.set_cons_succ]
        refine wpAnyH_take (i := 8) (v := ?vT8) rfl (by kernel_rfl) (by kernel_rfl) (by kernel_rfl) (fun _ _ _ h => h) (Or.inl ⟨by rfl, fun w' _ => ?yT8⟩) HH.out ?_
        case yT8 => (go_simp; try with_reducible rfl)
        refine wpAnyH_take (i := 9) (v := ?vT9) rfl (by kernel_rfl) (by kernel_rfl) (by kernel_rfl) (fun _ _ _ h => h) (Or.inl ⟨by rfl, fun w' _ => ?yT9⟩) HH.out ?_
        case yT9 => (go_simp; try with_reducible rfl)
        refine wpAnyH_take (i := 10) (v := .int .u8 (x.toNat : Int)) rfl (by kernel_rfl) (by kernel_rfl) (by kernel_rfl) (fun _ _ _ h => h) (Or.inl ⟨by rfl, fun w' hw' => ?yT10⟩) HH.out ?_
        case yT10 => (have hc := HC.out w' hw'; go_simp; try with_reducible rfl)
        try simp only [List.getElem_toArray, List.getElem_cons_succ, List.getElem_cons_zero, Act.put, List.setIfInBounds_toArray, List.set_cons_zero, List.set_cons_succ]
        refine wpAnyH_take (i := 11) (v := ?vT11) rfl (by kernel_rfl) (by kernel_rfl) (by kernel_rfl) (fun _ _ _ h => h) (Or.inl ⟨by rfl, fun w' _ => ?yT11⟩) HH.out ?_
        case yT11 => (go_simp; try with_reducible rfl)
        refine wpAnyH_take (i := 12) (v := .int .u8 (yb.toNat : Int)) rfl (by kernel_rfl) (by kernel_rfl) (by kernel_rfl) (fun _ _ _ h => h) (Or.inl ⟨by rfl, fun w' hw' => ?yT12⟩) HH.out ?_
        case yT12 => (go_simp; try with_reducible rfl)
        try simp only [List.getElem_toArray, List.getElem_cons_succ, List.getElem_cons_zero, Act.put, List.setIfInBounds_toArray, List.set_cons_zero, List.set_cons_succ]
        refine wpAnyH_ready (rs := [13]) (by kernel_rfl) (by simp) (AllReadyH.cons rfl (fun K hK => ?_) AllReadyH.nil)
        go_simp
        refine (HSY.out _).mono ?_
        rintro e v1 ⟨rfl, bw1⟩
        have L1 := Lib.hid ((H.out.below (Below.refl wr.heap.size wr).drew).below bw1)
        go_simp
        refine hK.out _ _ (HH.out.trans (bw1.mono HH.out.size)) (fun hh => ?_)
        have HH' := Lib.hid hh
        clear hh hK K HH bw1 H
        have HH := Lib.hid HH'.out
        clear HH'
        try simp only [List.getElem_toArray, List.getElem_cons_succ, List.getElem_cons_zero, Act.put, List.setIfInBounds_toArray, List.set_cons_zero, List.set_cons_succ]
        refine wpAnyH_ready (rs := [14]) (by kernel_rfl) (by simp) (AllReadyH.cons rfl (fun K hK => ?_) AllReadyH.nil)
        go_simp
        have hc := lm_write L1.out (k : Int) y HY3.out (by omega)
        rw [even_write HK.out] at hc
        refine hc.mono ?_
        clear hc
        rintro e v2 ⟨rfl, s2, F2, h2, hm2⟩
        have L2 := Lib.hid (show LM p1 g1 p2 g2 gG g w1 v2 s2 F2 (even (L.set k y) 6) (0 + 2) from h2)
        go_simp
        refine hK.out _ _ (B1.out.trans (L2.out.live.bel.mono B1.out.size)) (fun hh => ?_)
        have HH' := Lib.hid hh
        clear hh hK K HH h2 hm2 L1
        have HH := Lib.hid HH'.out
        clear HH'
        refine wpAnyH_take (i := 15) (v := .bool false) rfl (by kernel_rfl) (by kernel_rfl) (by kernel_rfl) (fun _ _ _ h => h) (Or.inl ⟨by rfl, fun w' hw' => ?yT15⟩) HH.out ?_
        case yT15 => (go_simp; try rfl)
        refine wpAnyH_take (i := 16) (v := ?vT16) rfl (by kernel_rfl) (by kernel_rfl) (by kernel_rfl) (fun _ _ _ h => h) (Or.inl ⟨by rfl, fun w' _ => ?yT16⟩) HH.out ?_
        case yT16 => (go_simp; try with_reducible rfl)
        try simp only [List.getElem_toArray, List.getElem_cons_succ, List.getElem_cons_zero, Act.put, List.setIfInBounds_toArray, List.set_cons_zero, List.set_cons_succ]
        refine wpAnyH_take (i := 17) (v := ?vT17) rfl (by kernel_rfl) (by kernel_rfl) (by kernel_rfl) (fun _ _ _ h => h) (Or.inl ⟨by rfl, fun w' _ => ?yT17⟩) HH.out ?_
        case yT17 => (go_simp; try with_reducible rfl)
        try simp only [List.getElem_toArray, List.getElem_cons_succ, List.getElem_cons_zero, Act.put, List.setIfInBounds_toArray, List.set_cons_zero, List.set_cons_succ]
        refine wpAnyH_ready (rs := [18]) (by kernel_rfl) (by simp) (AllReadyH.cons rfl (fun K hK => ?_) AllReadyH.nil)
        go_simp
        have hc := lm_flush L2.out
        rw [if_neg (show ¬ ((even (L.set k y) 6).o0 && (even (L.set k y) 6).o1) = true by show ¬ (false && false) = true; simp)] at hc
        refine hc.mono ?_
        clear hc
        rintro e v3 ⟨rfl, s3, F3, h3, hm3⟩
        have L3 := Lib.hid (show LM p1 g1 p2 g2 gG g w1 v3 s3 F3 (even (L.set k y) 6) 0 from h3)
        go_simp
        refine hK.out _ _ (B1.out.trans (L3.out.live.bel.mono B1.out.size)) (fun hh => ?_)
        have HH' := Lib.hid hh
        clear hh hK K HH h3 hm3 L2
        have HH := Lib.hid HH'.out
        clear HH'
        refine wpAnyH_take (i := 19) (v := .bool false) rfl (by kernel_rfl) (by kernel_rfl) (by kernel_rfl) (fun _ _ _ h => h) (Or.inl ⟨by rfl, fun w' hw' => ?yT19⟩) HH.out ?_
        case yT19 => (go_simp; try rfl)
        try simp only [List.getElem_toArray, List.getElem_cons_succ, List.getElem_cons_zero, Act.put, List.setIfInBounds_toArray, List.set_cons_zero, List.set_cons_succ]
        refine wpAnyH_take (i := 20) (v := ?vT20) rfl (by kernel_rfl) (by kernel_rfl) (by kernel_rfl) (fun _ _ _ h => h) (Or.inl ⟨by rfl, fun w' _ => ?yT20⟩) HH.out ?_
        case yT20 => (go_simp; try with_reducible rfl)
        try simp only [List.getElem_toArray, List.getElem_cons_succ, List.getElem_cons_zero, Act.put, List.setIfInBounds_toArray, List.set_cons_zero, List.set_cons_succ]
        refine wpAnyH_done (by kernel_rfl) ?_ _
        go_wp2_with fail
        go_roundw
        case rel => exact ⟨j + 1, L.set k y, F3, s3, HLT.out, by go_num, by rw [List.length_set]; exact HLL.out, L3.out⟩
        case measure => (have := HLT.out; simp [intOf]; omega)
      · obtain rfl : j = N := by have := HJ.out; omega
        clear hlt
        obtain ⟨rv, hrv⟩ : ∃ rv, rv = (even L 6).read goodN n := ⟨_, rfl⟩
        obtain ⟨hv, hhv⟩ : ∃ hv, hv = ((even L 6).heal goodN n).1 := ⟨_, rfl⟩
        obtain ⟨bl, hbl⟩ : ∃ bl, bl = (even L 6).both goodN n := ⟨_, rfl⟩
        have HRV3 := Lib.hid (show rv.1.length = 128 from by
          have hat := H.out.live.at_
          have := H.out.sees.read (G := gG) n
          rw [hrv, show (even L 6).read goodN n = (even L 6).read gG.f n from rfl, ← this, readM]
          split
          · split
            · exact ml_rdlen hat (i := 0) (by omega) n
            · split
              · exact ml_rdlen hat (i := 1) (by omega) n
              · exact zeroS_length
          · exact zeroS_length)
        have HBL := Lib.hid (show (∀ x ∈ bl, x.length = 128) ∧ bl.length ≤ 2 from by
          rw [hbl, show (even L 6).both goodN n = (even L 6).both gG.f n from rfl, ← H.out.sees.both (G := gG) n, bothL]
          split
          · exact ⟨bothTo_len H.out.live.at_ n 2 (by omega), bothTo_few _ _ 2⟩
          · exact ⟨fun x hx => (by cases hx), Nat.zero_le _⟩)
        have HIR := Lib.hid (show (Try.prog.info? 38).map (·.size) = some (bva rv.1).size by rw [bva_size, HRV3.out]; exact info_sec)
        obtain ⟨ra, re⟩ := rv
        obtain ⟨ha, he⟩ := hv
        have HQ := eq_sec ra ra HRV3.out HRV3.out
        rw [decide_eq_true (rfl : ra = ra)] at HQ
        have HQQ := Lib.hid HQ
        have HSE := Lib.hid H.out.sees
        clear HQ
        go_wp2_with fail
        refine (tl_new H.out HLL.out).mono ?_
        rintro e w60 ⟨u, t, F60, rfl, h, ht⟩
        have T60 := Lib.hid h
        have HTE := Lib.hid ht
        clear h ht H
        go_wp2_with fail
        have hc := tl_read T60.out.at_ HSE.out n
        rw [← hrv] at hc
        refine hc.mono ?_
        clear hc
        rintro e w61 hret
        obtain ⟨rfl, F61, hm⟩ := hret
        have T61 := Lib.hid (T60.out.step hm)
        clear hm T60
        go_wp2_with (show wpList _ _ _ ({ dst := none, op := .store 38 (.tmp 10) (.tmp 62), type := _, pos := _, after := _, guard := _ } :: _) _ _; apply Classical.byContradiction; intro hneg)
        refine hneg ?_
        clear hneg
        refine wpList_store_row rfl 38 (.tmp 10) (.tmp 62) rfl w61.heap.size (bva ra) rfl rfl 38 (bva z) (heap_alloc_new _ _) HIR.out (by rw [bva_size, bva_size, HRV3.out, HZ3.out]) (bva_one _) ?_
        obtain ⟨w62, hw62⟩ : ∃ w62, w62 = (w61.alloc (.cells (bva z) 38)).setRow w61.heap.size (bva ra) := ⟨_, rfl⟩
        have bw : Below w61.heap.size w61 w62 := by rw [hw62]; exact below_setRow ((Below.refl _ _).alloc (Nat.le_refl _) _) (Nat.le_refl _) _
        have hbx : Blk w62 w61.heap.size (bva ra) 38 := by rw [hw62]; exact setRow_heap _ _ _ _ _ _ (heap_alloc_new _ _)
        rw [← hw62]
        clear hw62
        obtain ⟨b62, hb62⟩ : ∃ b62, b62 = w61.heap.size := ⟨_, rfl⟩
        rw [← hb62] at hbx
        rw [← hb62]
        have R62 := Lib.hid (show Bx w1 w62 F61 b62 (bva ra) 38 from ⟨hbx, by rw [hb62]; exact T61.out.bel.size, fun hf => by have := (TL p1 g1 p2 g2 g u s t).lt T61.out.at_ _ hf; omega⟩)
        have T62 := Lib.hid (T61.out.below bw)
        clear hb62 hbx bw T61
        skip
        go_wp2_with fail
        have hc := tl_read (tl_swap T62.out.at_) HTE.out n
        rw [← hrv] at hc
        refine hc.mono ?_
        clear hc
        rintro e w63 hret
        obtain ⟨rfl, F63, hm⟩ := tl_unswap hret
        have T63 := Lib.hid (T62.out.step hm)
        have R63 := Lib.hid (R62.out.step hm)
        clear R62
        clear hm T62
        go_wp2_with (show wpList _ _ _ ({ dst := none, op := .store 38 (.tmp 12) (.tmp 68), type := _, pos := _, after := _, guard := _ } :: _) _ _; apply Classical.byContradiction; intro hneg)
        refine hneg ?_
        clear hneg
        refine wpList_store_row rfl 38 (.tmp 12) (.tmp 68) rfl w63.heap.size (bva ra) rfl rfl 38 (bva z) (heap_alloc_new _ _) HIR.out (by rw [bva_size, bva_size, HRV3.out, HZ3.out]) (bva_one _) ?_
        obtain ⟨w64, hw64⟩ : ∃ w64, w64 = (w63.alloc (.cells (bva z) 38)).setRow w63.heap.size (bva ra) := ⟨_, rfl⟩
        have bw : Below w63.heap.size w63 w64 := by rw [hw64]; exact below_setRow ((Below.refl _ _).alloc (Nat.le_refl _) _) (Nat.le_refl _) _
        have hbx : Blk w64 w63.heap.size (bva ra) 38 := by rw [hw64]; exact setRow_heap _ _ _ _ _ _ (heap_alloc_new _ _)
        rw [← hw64]
        clear hw64
        obtain ⟨b64, hb64⟩ : ∃ b64, b64 = w63.heap.size := ⟨_, rfl⟩
        rw [← hb64] at hbx
        rw [← hb64]
        have V64 := Lib.hid (show Bx w1 w64 F63 b64 (bva ra) 38 from ⟨hbx, by rw [hb64]; exact T63.out.bel.size, fun hf => by have := (TL p1 g1 p2 g2 g u s t).lt T63.out.at_ _ hf; omega⟩)
        have T64 := Lib.hid (T63.out.below bw)
        have R64 := Lib.hid (R63.out.below bw)
        clear R63
        clear hb64 hbx bw T63
        go_wp2_with fail
        have hc := tl_heal T64.out.at_ HSE.out n
        rw [← hhv, show tup2 (ha, he) = .tuple #[.int .i64 ha, .int .i64 he] from rfl] at hc
        refine hc.mono ?_
        clear hc
        rintro e w65 hret
        obtain ⟨rfl, F65, hm⟩ := hret
        have T65 := Lib.hid (T64.out.step hm)
        have R65 := Lib.hid (R64.out.step hm)
        clear R64
        have V65 := Lib.hid (V64.out.step hm)
        clear V64
        clear hm T64
        go_wp2_with fail
        have hc := tl_heal (tl_swap T65.out.at_) HTE.out n
        rw [← hhv, show tup2 (ha, he) = .tuple #[.int .i64 ha, .int .i64 he] from rfl] at hc
        refine hc.mono ?_
        clear hc
        rintro e w66 hret
        obtain ⟨rfl, F66, hm⟩ := tl_unswap hret
        have T66 := Lib.hid (T65.out.step hm)
        have R66 := Lib.hid (R65.out.step hm)
        clear R65
        have V66 := Lib.hid (V65.out.step hm)
        clear V65
        clear hm T65
        have hQ := HQQ.out
        go_wp2_with (first
          | (refine wpList_load_row rfl 38 (.tmp 10) rfl _ rfl 38 (bva ra) (0, 0) _ R66.out.1 Try.underlying38 rfl HIR.out ?_)
          | (refine wpList_load_row rfl 38 (.tmp 12) rfl _ rfl 38 (bva ra) (0, 0) _ V66.out.1 Try.underlying38 rfl HIR.out ?_))
        have hc := tl_both T66.out.at_ HSE.out n
        rw [← hbl] at hc
        refine hc.mono ?_
        clear hc
        rintro e w67 ⟨A1, n1', c1, rfl, hn1, ho1, bw1⟩
        have T67 := Lib.hid (T66.out.below bw1)
        have O67 := Lib.hid ho1
        have N67 := Lib.hid hn1
        clear bw1 ho1 hn1 T66
        go_wp2_with fail
        have hc := tl_both (tl_swap T67.out.at_) HTE.out n
        rw [← hbl] at hc
        refine hc.mono ?_
        clear hc
        rintro e w68 ⟨A2, n2', c2, rfl, hn2, ho2, bw2⟩
        obtain rfl : n1' = n2' := N67.out.symm.trans hn2
        have T68 := Lib.hid (T67.out.below bw2)
        have O68 := Lib.hid (own_belowN O67.out bw2)
        have P68 := Lib.hid ho2
        clear bw2 ho2 hn2 T67 O67
        go_wp2_with fail
        refine (sectors_same N67.out HBL.out.1 (Rd.ownN O68.out) (Rd.ownN P68.out) (Nat.le_refl _) (Nat.le_refl _) (by have := HBL.out.2; have := N67.out; omega)).mono ?_
        rintro e w69 ⟨rfl, bw⟩
        have T69 := Lib.hid (T68.out.below bw)
        clear bw T68
        go_wp2_with fail
        go_ret
        exact ⟨rfl, B1.out.trans (T69.out.bel.mono B1.out.size)⟩
theorem mirrorTurned_own : ownKnob Try.prog.godebug = none := by kernel_rfl
theorem mirrorTurned_laid : laidOutB Try.prog = true := by kernel_rfl

set_option maxRecDepth 100000 in
theorem mirrorTurned_lifted (os : Os) (started : os.Started) (H : Type) (enc : TypeId × Value → H) :
    ReturnsInHanded {} Try.checked os 10 .any (Rows.mirrorTurnedSpec.pre6 enc Try.prog Try.f10 Rows.mirrorTurnedRow.domain false) (Rows.mirrorTurnedSpec.post enc Try.prog Try.f10 false true false false) := by
  refine returnsInHanded_of_change (C := Try.checked) mirrorTurned_own started (by kernel_rfl) Try.func10
    (ChangeSpec.witness6 (enc := enc) (C := Try.checked) false ⟨#[], #[.slice none 0 0, .int .i64 0], []⟩ 8 (by kernel_rfl) (by kernel_rfl) (by kernel_rfl) (by kernel_rfl)) ?_
  intro W base args ds gs before hval0 hW _ _
  have hval : ∀ (j : Nat) t v, Try.f10.params[j]? = some t → args[j]? = some v → Value.okWide Try.prog W .any base t v := hval0
  have hW' := hW
  obtain ⟨p, q, hA0, hV, rfl, hfz, hnd⟩ := hW
  have hA : DataW.TrodAll enc Try.prog W 0 (fun _ => true) true Try.f10.params.toList args.toList ds p := hA0
  rw [Try.params10] at hA hval
  obtain ⟨v0, vs0, d0, ds0, p0, q0, hargs, rfl, rfl, h0, r0⟩ := trodAll_cons hA
  obtain ⟨v1, vs1, d1, ds1, p1, q1, rfl, rfl, rfl, h1, r1⟩ := trodAll_cons r0
  obtain ⟨rfl, rfl, rfl⟩ := trodAll_nil r1
  obtain rfl : args = #[v0, v1] := by cases args; simp_all
  obtain ⟨rfl, rfl⟩ := trodVars_none hV
  obtain ⟨a0, n0, c0, rfl⟩ := okWide_slice Try.underlying80 (hval 0 80 v0 rfl rfl)
  have lt0 : ∀ x ∈ p0, x.block < W.heap.size := by obtain ⟨m, hm⟩ := h0; exact DataW.trod_lt m _ _ _ hm
  obtain ⟨l0, hl0, hc0, hm0, hr0⟩ := open_bytes Try.underlying80 Try.underlying5 (by kernel_rfl) h0
  obtain ⟨a1, rfl, rfl, rfl, w1⟩ := open_int Try.underlying3 (hval 1 3 v1 rfl rfl) h1
  have b1 := bounds_i64 w1
  clear hA0 hval0
  refine (mirrorTurned_any W a0 n0 c0 l0 hl0 hc0 hm0 hr0 a1 b1).mono fun e W' ⟨he, bel⟩ => ?_
  subst he
  exact ⟨_, rfl, _, _, _, [], _, [], hW', trodAll_mk1 (shut_bool Try.underlying4 _), (trodAll_cons_mk (Below.trod mirrorTurned_laid (by kernel_rfl) (of_decide_eq_true (by kernel_rfl)) h0 bel lt0) (trodAll_cons_mk (shut_int Try.underlying3 w1) trodAll_mk0)), rfl, bel.frame _, fun h => by cases h⟩

theorem mirrorTurned_holds : Rows.MirrorTurnedSaid :=
  OpenClaim.holds_of_wide 10 Try.f10 rfl rfl rfl rfl rfl rfl rfl ⟨rfl, rfl, rfl, rfl, rfl⟩ rfl rfl rfl rfl rfl (by kernel_rfl) Try.func10 (by kernel_rfl)
    (of_decide_eq_true (by kernel_rfl)) (by unfold Func.isWrapper; rw [if_neg (of_decide_eq_false (by kernel_rfl))]; exact ⟨rfl, rfl⟩)
    (fun os started H enc _ => mirrorTurned_lifted os started H enc)

#print axioms mirrorTurned_holds

end Go.Proofs.Ytfofkjcdohmkpaa
