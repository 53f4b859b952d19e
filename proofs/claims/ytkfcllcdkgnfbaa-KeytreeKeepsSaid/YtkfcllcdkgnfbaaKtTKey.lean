/-
  The contract of the tree's Key.
-/
import Derived.Test.YtkfcllcdkgnfbaaKtCopy
namespace Go.Proofs.Ytkfcllcdkgnfbaa.Kt
open Go.RowKit
attribute [local go_sem ↓] Go.wp_at_zero Go.wp_at_succ
theorem near_step (y : Nd) (m : Int) : nearN y m = stepK y m := by
  unfold nearN stepK
  have e : (ndR y).a = IntKind.u64.wrap (y.a + manyI (y.d + 1)) := rfl
  rw [e]
  by_cases h : m < IntKind.u64.wrap (y.a + manyI (y.d + 1))
  · rw [if_pos h, if_neg (by omega)]
  · rw [if_neg h, if_pos (by omega)]
theorem by_rest3 {R G : Nat → Nat → Nat → World → Prop} {p : Prop} (ways : (∀ X Y Z w', R X Y Z w' → G X Y Z w') → p) (rest : ∀ X Y Z w', R X Y Z w' → G X Y Z w') : p := ways rest
theorem okH_step {y : Nd} (m : Int) (hy : okH y) (hd : y.d < 17) : okH (stepK y m) := by
  unfold stepK; split
  · exact (ndR_ok hy hd).1
  · exact (ndL_ok hy hd).1
set_option maxRecDepth 100000 in
set_option maxHeartbeats 3200000 in
theorem tkey_any (g : Nat) (A : Option Addr) (n c : Nat) (l : List Nd) (m : Int) (w : World) (h : TrA w g A n c l) :
    Calls Try.prog 23 #[.pointer (some ⟨g, 0, none⟩), .int .u64 m] w (RetB (keyV (l.find? (inI · m)) m) w) := by
  obtain ⟨z, hz0⟩ : ∃ z : List UInt8, z = List.replicate 32 0 := ⟨_, rfl⟩
  obtain ⟨cz, hcz⟩ : ∃ cz, cz = ndC zeroNd := ⟨_, rfl⟩
  have hz : ∀ W, (zeroValue 23).run Try.prog W = .ok (.agg (bva z)) W := fun _ => by rw [hz0]; kernel_rfl
  have hzh : ∀ W, (zeroValue 48).run Try.prog W = .ok (.agg cz) W := fun _ => by rw [hcz]; kernel_rfl
  have HBZ := Lib.hid (show ∀ W, (Instr.build 23 #[]).run Try.prog W = .ok (.agg (bva z)) W from fun _ => by rw [hz0]; kernel_rfl)
  have ZH : Hid (cz.size = 34) := by show _ = _; rw [hcz]; exact ndC_size rfl
  have Z3 : Hid (z.length = 32) := by show _ = _; rw [hz0]; rfl
  have HKZ : Hid ((Try.prog.info? 23).map (·.size) = some (bva z).size) := by rw [bva_size, Z3.out]; exact info_keyL
  have b1 : Blk (w.alloc (.cells (bva z) 23)) w.heap.size (bva z) 23 := heap_alloc_new _ _
  have hb : Below w.heap.size w (w.alloc (.cells (bva z) 23)) := (Below.refl _ _).alloc (Nat.le_refl _) _
  have HT := Lib.hid h
  have B1 := Lib.hid b1
  have BB := Lib.hid hb
  have Z0 := Lib.hid hz0
  clear h b1 hb hcz hz0
  go_enter Try.func23, Try.ntmps23
  go_wp2_with fail
  refine (find_any g A n c l m _ (HT.out.below BB.out)).mono ?_
  rintro e w2 ⟨i, b, rfl, hf, bw⟩
  have hB2 := BB.out.trans (bw.mono BB.out.size)
  have HT2 := Lib.hid (HT.out.below hB2)
  have HB2 := Lib.hid hB2
  have HF := Lib.hid hf
  have P1 := Lib.hid (B1.out.below bw)
  clear bw hf hB2 B1 BB
  cases b with
  | false =>
    have hk : l.find? (inI · m) = none := by
      rw [List.find?_eq_none]; intro x hx; rw [found_not HT.out.ok HF.out x hx]; simp
    have HK := Lib.hid hk
    clear hk
    go_wp2_with (first
      | (refine wpList_build rfl 23 #[] rfl (HBZ.out _) ?_)
      | (refine wpList_store_row rfl 23 (.tmp 4) (.tmp 18) rfl w.heap.size (bva z) rfl rfl 23 (bva z) P1.out HKZ.out rfl (bva_one _) ?_
         generalize hwx : World.setRow _ _ _ = wx
         have e1 : Blk wx w.heap.size (bva z) 23 := by rw [← hwx]; exact setRow_heap _ _ _ _ _ _ P1.out
         have eb : Below w.heap.size w wx := by rw [← hwx]; exact below_setRow HB2.out (Nat.le_refl _) _
         have Q1 := Lib.hid e1
         have QB := Lib.hid eb
         clear hwx e1 eb))
    try simp only [Act.put, List.setIfInBounds_toArray, List.set_cons_zero, List.set_cons_succ]
    rw [HK.out, keyV_none, ← Z0.out]
    exact bodyPost_ret (v := .tuple #[.agg (bva z), .bool false]) (results_ct Try.results23 _ _ w.heap.size 23 (bva z) _ rfl Q1.out Try.underlying23 rfl HKZ.out) rfl ⟨rfl, QB.out⟩
  | true =>
    obtain ⟨x, hx, hin, hbf, _⟩ := found_yes HT.out.ok HF.out
    have hil : i < l.length := (List.getElem?_eq_some_iff.1 hx).1
    have hin' : i < n := by rw [← HT.out.len]; exact hil
    have hxe : l[i] = x := (List.getElem?_eq_some_iff.1 hx).2
    have hxo : okH x := by rw [← hxe]; exact (okS_mem HT.out.ok _ (List.getElem_mem hil)).1
    have hfd : l.find? (inI · m) = some x := by
      have e1 : l = l.take i ++ (x :: l.drop (i + 1)) := by rw [← hxe, ← List.drop_eq_getElem_cons hil, List.take_append_drop]
      rw [e1, List.find?_append, List.find?_eq_none.2 (fun y hy => by rw [hbf y hy]; simp), Option.none_or, List.find?_cons_of_pos (by simpa using hin)]
    obtain ⟨ad, hA, hbl, _⟩ := rd_node HT2.out.rd HT2.out.len3 hil
    subst hA
    have hcell : ∀ w', Below w2.heap.size w2 w' → ∀ j v, (ndV x)[j]? = some v → w'.cell? ((ad.add (i * 34)).add j) = some v := fun w' hb' j v hv => by
      obtain ⟨ad', hA', _, hc⟩ := rd_node (HT2.out.rd.below hb') HT2.out.len3 hil
      injection hA' with hA'
      subst hA'
      exact hc j v (by rw [hxe]; exact hv)
    have hc1 : ∀ w', Below w2.heap.size w2 w' → w'.cell? ⟨g, 1, none⟩ = some (.slice (some ad) n c) := fun w' hb' => (HT2.out.below hb').c1
    have HX := Lib.hid hxo
    have HFD := Lib.hid hfd
    have HCL := Lib.hid hcell
    have HC1 := Lib.hid hc1
    have HI : Hid ((Try.prog.info? 48).map (·.size) = some (ndV x).length) := by rw [ndV_length hxo.2.2.2.2.2]; exact info_held
    have HIC : Hid ((Try.prog.info? 48).map (·.size) = some (ndC x).size) := by rw [ndC_size hxo.2.2.2.2.2]; exact info_held
    have k0 : (0 : Int) ≤ (i : Int) := by omega
    have k1 : (i : Int) < (n : Int) := by omega
    clear hx hin hbf hxe hxo hfd hcell hc1 hbl
    go_wp2_with fail
    apply by_rest3 (R := fun X p1 p2 w' => Blk w' X (ndC x) 48 ∧ Blk w' p1 #[.pointer (some ⟨g, 0, none⟩)] 27 ∧ Blk w' p2 #[.int .u64 m] 25 ∧ w2.heap.size ≤ X ∧ X ≠ p1 ∧ X ≠ p2 ∧ w2.heap.size ≤ p1 ∧ w2.heap.size ≤ p2 ∧ Below w2.heap.size w2 w')
    case ways =>
      intro hG
      refine wp_region_held_drew (S := fun w' => Below w2.heap.size w2 w') (by kernel_rfl) (Below.refl _ _).drew (fun hh => ?_)
      have HH := Lib.hid hh
      clear hh
      refine wpAnyH_take (i := 0) (v := ?va0) rfl (by kernel_rfl) (by kernel_rfl) (by kernel_rfl) (fun _ _ _ h => h) (Or.inl ⟨by rfl, fun w' _ => ?ya0⟩) HH.out ?_
      case ya0 => (go_simp; try with_reducible rfl)
      refine wpAnyH_take (i := 1) (v := ?va1) rfl (by kernel_rfl) (by kernel_rfl) (by kernel_rfl) (fun _ _ _ h => h) (Or.inl ⟨by rfl, fun w' _ => ?ya1⟩) HH.out ?_
      case ya1 => (go_simp; try with_reducible rfl)
      try simp only [List.getElem_toArray, List.getElem_cons_succ, List.getElem_cons_zero, Act.put, List.setIfInBounds_toArray, List.set_cons_zero, List.set_cons_succ]
      refine wpAnyH_take (i := 2) (v := ?va2) rfl (by kernel_rfl) (by kernel_rfl) (by kernel_rfl) (fun _ _ _ h => h) (Or.inl ⟨by rfl, fun w' _ => ?ya2⟩) HH.out ?_
      case ya2 => (go_simp; try with_reducible rfl)
      refine wpAnyH_take (i := 3) (v := .slice (some ad) n c) rfl (by kernel_rfl) (by kernel_rfl) (by kernel_rfl) (fun _ _ _ h => h) (Or.inl ⟨by rfl, fun w' hw' => ?ya3⟩) HH.out ?_
      case ya3 => (have cc := HC1.out w' hw'; go_simp; try with_reducible rfl)
      try simp only [List.getElem_toArray, List.getElem_cons_succ, List.getElem_cons_zero, Act.put, List.setIfInBounds_toArray, List.set_cons_zero, List.set_cons_succ]
      refine wpAnyH_take (i := 4) (v := ?va4) rfl (by kernel_rfl) (by kernel_rfl) (by kernel_rfl) (fun _ _ _ h => h) (Or.inl ⟨by rfl, fun w' _ => ?ya4⟩) HH.out ?_
      case ya4 => (go_simp; try with_reducible rfl)
      refine wpAnyH_take (i := 5) (v := ?va5) rfl (by kernel_rfl) (by kernel_rfl) (by kernel_rfl) (fun _ _ _ h => h) (Or.inl ⟨by rfl, fun w' _ => ?ya5⟩) HH.out ?_
      case ya5 => (go_simp; try with_reducible rfl)
      try simp only [List.getElem_toArray, List.getElem_cons_succ, List.getElem_cons_zero, Act.put, List.setIfInBounds_toArray, List.set_cons_zero, List.set_cons_succ]
      refine wpAnyH_take (i := 6) (v := .agg (ndC x)) rfl (by kernel_rfl) (by kernel_rfl) (by kernel_rfl) (fun _ _ _ h => h) (Or.inl ⟨by rfl, fun w' hw' => ?ya6⟩) HH.out ?_
      case ya6 => exact exec_load_at 48 (.tmp 24) rfl (ad.add (i * 34)) rfl (fun j v hj => HCL.out w' hw' j v hj) Try.underlying48 rfl HI.out
      refine wpAnyH_take (i := 7) (v := ?va7) rfl (by kernel_rfl) (by kernel_rfl) (by kernel_rfl) (fun _ _ _ h => h) (Or.inl ⟨by rfl, fun w' _ => ?ya7⟩) HH.out ?_
      case ya7 => (go_simp; try with_reducible rfl)
      refine wpAnyH_take (i := 8) (v := ?va8) rfl (by kernel_rfl) (by kernel_rfl) (by kernel_rfl) (fun _ _ _ h => h) (Or.inl ⟨by rfl, fun w' _ => ?ya8⟩) HH.out ?_
      case ya8 => (go_simp; try with_reducible rfl)
      try simp only [List.getElem_toArray, List.getElem_cons_succ, List.getElem_cons_zero, Act.put, List.setIfInBounds_toArray, List.set_cons_zero, List.set_cons_succ]
      have hsd : w2.drew.heap.size = w2.heap.size := rfl
      have hh2 := HH.out
      clear HH
      generalize w2.drew = wd at *
      have HH := Lib.hid hh2
      have HSD := Lib.hid hsd
      clear hh2 hsd
      refine wpAnyH_ready (rs := [9, 10]) (by kernel_rfl) (by simp) (AllReadyH.cons rfl (fun K hK => ?_) (AllReadyH.cons rfl (fun K hK => ?_) AllReadyH.nil))
      · go_simp
        refine (toward_any g m _).mono ?_
        rintro e w5 ⟨p1, p2, rfl, h1, h2, l1, l2, bw⟩
        go_simp
        have hsz5 := bw.size
        refine hK.out _ _ (HH.out.trans (bw.mono HH.out.size)) (fun hh => ?_)
        have HH' := Lib.hid hh
        clear hh hK K HH
        have HH := Lib.hid HH'.out
        clear HH'
        try simp only [List.getElem_toArray, List.getElem_cons_succ, List.getElem_cons_zero, Act.put, List.setIfInBounds_toArray, List.set_cons_zero, List.set_cons_succ]
        refine wpAnyH_ready (rs := [10]) (by kernel_rfl) (by simp) (AllReadyH.cons rfl (fun K hK => ?_) AllReadyH.nil)
        go_simp
        have FX : Blk (World.alloc w5 (.cells cz 48)) w5.heap.size cz 48 := heap_alloc_new _ _
        have F1 : Blk (World.alloc w5 (.cells cz 48)) p1 #[.pointer (some ⟨g, 0, none⟩)] 27 := blk_old1 h1
        have F2 : Blk (World.alloc w5 (.cells cz 48)) p2 #[.int .u64 m] 25 := blk_old1 h2
        have n1 := h1.lt
        have n2 := h2.lt
        have hs2 := HH.out.size
        refine hK.out _ _ (HH.out.alloc HH.out.size _) (fun hh => ?_)
        have HH' := Lib.hid hh
        clear hh hK K HH
        have HH := Lib.hid HH'.out
        clear HH'
        generalize hW6 : World.alloc w5 (.cells cz 48) = w6 at *
        try simp only [List.getElem_toArray, List.getElem_cons_succ, List.getElem_cons_zero, Act.put, List.setIfInBounds_toArray, List.set_cons_zero, List.set_cons_succ]
        refine wpAnyH_ready (rs := [11]) (by kernel_rfl) (by simp) (AllReadyH.cons rfl (fun K hK => ?_) AllReadyH.nil)
        rw [if_pos (by rfl)]
        refine wp_store_row 48 (.tmp 8) (.tmp 25) rfl w5.heap.size (ndC x) rfl rfl 48 cz FX HIC.out (by rw [ndC_size HX.out.2.2.2.2.2, ZH.out]) (ndC_one _) ?_
        have G0 : Blk (World.setRow w6 w5.heap.size (ndC x)) w5.heap.size (ndC x) 48 := setRow_heap _ _ _ _ _ _ FX
        have G1 : Blk (World.setRow w6 w5.heap.size (ndC x)) p1 #[.pointer (some ⟨g, 0, none⟩)] 27 := blk_row F1 (by omega)
        have G2 : Blk (World.setRow w6 w5.heap.size (ndC x)) p2 #[.int .u64 m] 25 := blk_row F2 (by omega)
        refine hK.out _ _ (below_setRow HH.out (by omega) _) (fun hh => ?_)
        have HH' := Lib.hid hh
        clear hh hK K HH
        have HH := Lib.hid HH'.out
        clear HH'
        clear FX F1 F2 hW6
        generalize hW7 : World.setRow w6 w5.heap.size (ndC x) = w7 at *
        clear hW7
        try simp only [List.getElem_toArray, List.getElem_cons_succ, List.getElem_cons_zero, Act.put]
        refine wpAnyH_take (i := 12) (v := ?vz12) rfl (by kernel_rfl) (by kernel_rfl) (by kernel_rfl) (fun _ _ _ h => h) (Or.inl ⟨by rfl, fun w' _ => ?yz12⟩) HH.out ?_
        case yz12 => (go_simp; try with_reducible rfl)
        try simp only [List.getElem_toArray, List.getElem_cons_succ, List.getElem_cons_zero, Act.put, List.setIfInBounds_toArray, List.set_cons_zero, List.set_cons_succ]
        refine wpAnyH_done (by kernel_rfl) ?_ _
        try simp only [List.getElem_toArray, List.getElem_cons_succ, List.getElem_cons_zero, Act.put, List.setIfInBounds_toArray, List.set_cons_zero, List.set_cons_succ]
        obtain ⟨X, hX⟩ : ∃ X, w5.heap.size = X := ⟨_, rfl⟩
        have kb := HH.out
        clear HH
        rw [HSD.out] at l1 l2
        simp only [hX] at *
        exact hG X p1 p2 w7 ⟨G0, G1, G2, by omega, by omega, by omega, by omega, by omega, kb⟩
      · go_simp
        have FX : Blk (World.alloc wd (.cells cz 48)) wd.heap.size cz 48 := heap_alloc_new _ _
        refine hK.out _ _ (HH.out.alloc HH.out.size _) (fun hh => ?_)
        have HH' := Lib.hid hh
        clear hh hK K HH
        have HH := Lib.hid HH'.out
        clear HH'
        have hsa : (World.alloc wd (.cells cz 48)).heap.size = wd.heap.size + 1 := by simp
        generalize hW6 : World.alloc wd (.cells cz 48) = w6 at *
        try simp only [List.getElem_toArray, List.getElem_cons_succ, List.getElem_cons_zero, Act.put, List.setIfInBounds_toArray, List.set_cons_zero, List.set_cons_succ]
        refine wpAnyH_ready (rs := [9]) (by kernel_rfl) (by simp) (AllReadyH.cons rfl (fun K hK => ?_) AllReadyH.nil)
        go_simp
        refine (toward_any g m _).mono ?_
        rintro e w5 ⟨p1, p2, rfl, h1, h2, l1, l2, bw⟩
        go_simp
        have hsz5 := bw.size
        have F0 : Blk w5 wd.heap.size cz 48 := FX.below bw
        refine hK.out _ _ (HH.out.trans (bw.mono HH.out.size)) (fun hh => ?_)
        have HH' := Lib.hid hh
        clear hh hK K HH
        have HH := Lib.hid HH'.out
        clear HH'
        try simp only [List.getElem_toArray, List.getElem_cons_succ, List.getElem_cons_zero, Act.put, List.setIfInBounds_toArray, List.set_cons_zero, List.set_cons_succ]
        refine wpAnyH_ready (rs := [11]) (by kernel_rfl) (by simp) (AllReadyH.cons rfl (fun K hK => ?_) AllReadyH.nil)
        rw [if_pos (by rfl)]
        refine wp_store_row 48 (.tmp 8) (.tmp 25) rfl wd.heap.size (ndC x) rfl rfl 48 cz F0 HIC.out (by rw [ndC_size HX.out.2.2.2.2.2, ZH.out]) (ndC_one _) ?_
        have G0 : Blk (World.setRow w5 wd.heap.size (ndC x)) wd.heap.size (ndC x) 48 := setRow_heap _ _ _ _ _ _ F0
        have G1 : Blk (World.setRow w5 wd.heap.size (ndC x)) p1 #[.pointer (some ⟨g, 0, none⟩)] 27 := blk_row h1 (by omega)
        have G2 : Blk (World.setRow w5 wd.heap.size (ndC x)) p2 #[.int .u64 m] 25 := blk_row h2 (by omega)
        have hwd := HSD.out
        refine hK.out _ _ (below_setRow HH.out (by omega) _) (fun hh => ?_)
        have HH' := Lib.hid hh
        clear hh hK K HH
        have HH := Lib.hid HH'.out
        clear HH'
        clear FX F0 hW6 h1 h2
        generalize hW7 : World.setRow w5 wd.heap.size (ndC x) = w7 at *
        clear hW7
        try simp only [List.getElem_toArray, List.getElem_cons_succ, List.getElem_cons_zero, Act.put]
        refine wpAnyH_take (i := 12) (v := ?vy12) rfl (by kernel_rfl) (by kernel_rfl) (by kernel_rfl) (fun _ _ _ h => h) (Or.inl ⟨by rfl, fun w' _ => ?yy12⟩) HH.out ?_
        case yy12 => (go_simp; try with_reducible rfl)
        try simp only [List.getElem_toArray, List.getElem_cons_succ, List.getElem_cons_zero, Act.put, List.setIfInBounds_toArray, List.set_cons_zero, List.set_cons_succ]
        refine wpAnyH_done (by kernel_rfl) ?_ _
        try simp only [List.getElem_toArray, List.getElem_cons_succ, List.getElem_cons_zero, Act.put, List.setIfInBounds_toArray, List.set_cons_zero, List.set_cons_succ]
        obtain ⟨X, hX⟩ : ∃ X, wd.heap.size = X := ⟨_, rfl⟩
        have kb := HH.out
        clear HH
        simp only [hX] at *
        exact hG X p1 p2 w7 ⟨G0, G1, G2, by omega, by omega, by omega, by omega, by omega, kb⟩
    case rest =>
      rintro X p1 p2 w4 ⟨f0, f1, f2, x1, x2, x3, x4, x5, bw⟩
      have hB4 := HB2.out.trans (bw.mono HB2.out.size)
      have p1' := P1.out.below bw
      have hw0 := P1.out.lt
      have HT4 := Lib.hid (HT2.out.below bw)
      go_wp2_with fail
      go_loopw [] (fun wr => ∃ y, Hid (okH y ∧ goL (17 - y.d).toNat y m = goL (17 - x.d).toNat x m) ∧ Blk wr X (ndC y) 48 ∧ Blk wr p1 #[.pointer (some ⟨g, 0, none⟩)] 27 ∧ Blk wr p2 #[.int .u64 m] 25 ∧ Blk wr w.heap.size (bva z) 23 ∧ wr.cell? ⟨g, 0, none⟩ = some little ∧ Below w.heap.size w wr) (fun wr => depthAt wr X)
      case atStart => exact ⟨x, ⟨HX.out, rfl⟩, f0, f1, f2, p1', HT4.out.c0, hB4⟩
      case round =>
        clear f0 f1 f2 p1' hB4
        obtain ⟨y, HY, f0, f1, f2, q1, hc0, fb⟩ := hrel
        by_cases h17 : y.d < 17
        · have c0 := ndt_d f0
          obtain ⟨y', hy'⟩ : ∃ y', y' = nearN y m := ⟨_, rfl⟩
          obtain ⟨zz, hzz⟩ : ∃ zz, zz = asideN y m := ⟨_, rfl⟩
          have hy3 := HY.out.1.2.2.2.2.2
          have hoy : okH y' := by rw [hy', near_step]; exact okH_step m HY.out.1 h17
          have HIY : Hid ((Try.prog.info? 48).map (·.size) = some (ndC y).size) := by rw [ndC_size hy3]; exact info_held
          have HIY' : Hid ((Try.prog.info? 48).map (·.size) = some (ndC y').size) := by rw [ndC_size hoy.2.2.2.2.2]; exact info_held
          have HC := Lib.hid hc0
          have HN := Lib.hid hy'
          have HZ := Lib.hid hzz
          have HO := Lib.hid hoy
          have F0 := Lib.hid f0
          have F1 := Lib.hid f1
          have F2 := Lib.hid f2
          have Q1 := Lib.hid q1
          have FB := Lib.hid fb
          have hdd := depthAt_eqH f0
          have HDD := Lib.hid hdd
          clear f0 f1 f2 q1 hc0 fb hoy hy' hzz hdd
          go_wp2_with (refine wpList_load_row rfl 48 (.tmp 8) rfl X rfl 48 (ndC y) (0, 0) _ F0.out Try.underlying48 rfl HIY.out ?_)
          refine (spl_any g p1 p2 y m _ HY.out.1 h17 HC.out F1.out F2.out y' zz HN.out HZ.out).mono ?_
          rintro e w5 ⟨rfl, bw⟩
          have D0 := Lib.hid (F0.out.below bw)
          have D1 := Lib.hid (F1.out.below bw)
          have D2 := Lib.hid (F2.out.below bw)
          have DQ := Lib.hid (Q1.out.below bw)
          have DC := Lib.hid ((bw.cell (block_lt_of_cell HC.out)).trans HC.out)
          have DB := Lib.hid (FB.out.trans (bw.mono FB.out.size))
          have hgl : g < w.heap.size := HT.out.blk.lt
          clear bw F0 F1 F2 Q1 HC FB c0
          go_wp2_with (refine wpList_store_row rfl 48 (.tmp 8) (.tmp 36) rfl X (ndC y') rfl rfl 48 (ndC y) D0.out HIY'.out (by rw [ndC_size HO.out.2.2.2.2.2, ndC_size HY.out.1.2.2.2.2.2]) (ndC_one _) ?_
                       generalize hwx : World.setRow _ _ _ = wx
                       have e0 : Blk wx X (ndC y') 48 := by rw [← hwx]; exact setRow_heap _ _ _ _ _ _ D0.out
                       have e1 : Blk wx p1 #[.pointer (some ⟨g, 0, none⟩)] 27 := by rw [← hwx]; exact blk_row D1.out (by omega)
                       have e2 : Blk wx p2 #[.int .u64 m] 25 := by rw [← hwx]; exact blk_row D2.out (by omega)
                       have e3 : Blk wx w.heap.size (bva z) 23 := by rw [← hwx]; exact blk_row DQ.out (by omega)
                       have e4 : Below w.heap.size w wx := by rw [← hwx]; exact below_setRow DB.out (by omega) _
                       have e5 : wx.cell? ⟨g, 0, none⟩ = some little := by rw [← hwx, (below_setRow (B := X) (Below.refl X w5) (Nat.le_refl _) _).cell (by show g < X; omega)]; exact DC.out
                       have E0 := Lib.hid e0
                       have E1 := Lib.hid e1
                       have E2 := Lib.hid e2
                       have E3 := Lib.hid e3
                       have E4 := Lib.hid e4
                       have E5 := Lib.hid e5
                       clear hwx e0 e1 e2 e3 e4 e5 D0 D1 D2 DQ DB DC)
          try simp only [Act.put]
          have hdy := depthAt_eqH E0.out
          have hydn : y'.d = y.d + 1 := by rw [HN.out, near_step, stepK_d]
          have HDY := Lib.hid hdy
          have HYD := Lib.hid hydn
          clear hdy hydn
          go_roundw
          case rel => exact ⟨y', ⟨HO.out, by rw [HYD.out, HN.out, near_step, ← goL_step y m (by omega)]; exact HY.out.2⟩, E0.out, E1.out, E2.out, E3.out, E5.out, E4.out⟩
          case measure => rw [HDY.out, HDD.out, HYD.out]; omega
        · have c0 := ndt_d f0
          have hge := goL_end y m h17
          have hy3 := HY.out.1.2.2.2.2.2
          have HY3 : Hid (y.s.length = 32) := hy3
          have HIX : Hid ((Try.prog.info? 23).map (·.size) = some (bv y.s).length) := by rw [bv_length, hy3]; exact info_keyL
          have HIB : Hid ((Try.prog.info? 23).map (·.size) = some (bva y.s).size) := by rw [bva_size, hy3]; exact info_keyL
          have HG := Lib.hid (show goL (17 - x.d).toNat x m = y by rw [← HY.out.2, hge])
          have F0 := Lib.hid f0
          have Q1 := Lib.hid q1
          have FB := Lib.hid fb
          clear hge hy3 f0 f1 f2 q1 hc0 fb
          go_wp2_with (first
            | (refine wpList_load_mid rfl 23 (.tmp 38) rfl X 2 rfl (bv y.s) _ (ndt_s F0.out) Try.underlying23 rfl HIX.out ?_
               change wpList _ _ _ _ (Act.put _ _ (.agg (bva y.s))) _)
            | (refine wpList_store_row rfl 23 (.tmp 4) (.tmp 39) rfl w.heap.size (bva y.s) rfl rfl 23 (bva z) Q1.out HIB.out (by rw [bva_size, bva_size, HY3.out, Z3.out]) (bva_one _) ?_
               generalize hwx : World.setRow _ _ _ = wx
               have e1 : Blk wx w.heap.size (bva y.s) 23 := by rw [← hwx]; exact setRow_heap _ _ _ _ _ _ Q1.out
               have eb : Below w.heap.size w wx := by rw [← hwx]; exact below_setRow FB.out (Nat.le_refl _) _
               have R1 := Lib.hid e1
               have RB := Lib.hid eb
               clear hwx e1 eb))
          try simp only [Act.put, List.setIfInBounds_toArray, List.set_cons_zero, List.set_cons_succ]
          rw [HFD.out, keyV_some, HG.out]
          exact bodyPost_ret (v := .tuple #[.agg (bva y.s), .bool true]) (results_ct Try.results23 _ _ w.heap.size 23 (bva y.s) _ rfl R1.out Try.underlying23 rfl HIB.out) rfl ⟨rfl, RB.out⟩
theorem tkey_nil (m : Int) (w : World) : Calls Try.prog 23 #[.pointer none, .int .u64 m] w (RetB (keyV none m) w) := by
  obtain ⟨z, hz0⟩ : ∃ z : List UInt8, z = List.replicate 32 0 := ⟨_, rfl⟩
  have hz : ∀ W, (zeroValue 23).run Try.prog W = .ok (.agg (bva z)) W := fun _ => by rw [hz0]; kernel_rfl
  have HBZ := Lib.hid (show ∀ W, (Instr.build 23 #[]).run Try.prog W = .ok (.agg (bva z)) W from fun _ => by rw [hz0]; kernel_rfl)
  have Z3 : Hid (z.length = 32) := by show _ = _; rw [hz0]; rfl
  have HKZ : Hid ((Try.prog.info? 23).map (·.size) = some (bva z).size) := by rw [bva_size, Z3.out]; exact info_keyL
  have P1 := Lib.hid (show Blk (w.alloc (.cells (bva z) 23)) w.heap.size (bva z) 23 from heap_alloc_new _ _)
  have HB2 := Lib.hid (show Below w.heap.size w (w.alloc (.cells (bva z) 23)) from (Below.refl _ _).alloc (Nat.le_refl _) _)
  have Z0 := Lib.hid hz0
  clear hz0
  go_enter Try.func23, Try.ntmps23
  go_wp2_with fail
  refine (find_nil m _).mono ?_
  rintro e w2 ⟨rfl, rfl⟩
  go_wp2_with (first
    | (refine wpList_build rfl 23 #[] rfl (HBZ.out _) ?_)
    | (refine wpList_store_row rfl 23 (.tmp 4) (.tmp 18) rfl w.heap.size (bva z) rfl rfl 23 (bva z) P1.out HKZ.out rfl (bva_one _) ?_
       generalize hwx : World.setRow _ _ _ = wx
       have e1 : Blk wx w.heap.size (bva z) 23 := by rw [← hwx]; exact setRow_heap _ _ _ _ _ _ P1.out
       have eb : Below w.heap.size w wx := by rw [← hwx]; exact below_setRow HB2.out (Nat.le_refl _) _
       have Q1 := Lib.hid e1
       have QB := Lib.hid eb
       clear hwx e1 eb))
  try simp only [Act.put, List.setIfInBounds_toArray, List.set_cons_zero, List.set_cons_succ]
  rw [keyV_none, ← Z0.out]
  exact bodyPost_ret (v := .tuple #[.agg (bva z), .bool false]) (results_ct Try.results23 _ _ w.heap.size 23 (bva z) _ rfl Q1.out Try.underlying23 rfl HKZ.out) rfl ⟨rfl, QB.out⟩
end Go.Proofs.Ytkfcllcdkgnfbaa.Kt
