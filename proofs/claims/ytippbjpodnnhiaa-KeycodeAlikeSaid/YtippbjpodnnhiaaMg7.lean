/-
  Texts of this seat, one behind the other: KgTKey, KgAwake, KgLaw, KgCan, KcNoC, KcCat, WiPut, KcKEnc, WiGet.
-/
import Derived.Deep.RegionHeld
import Derived.Lib.AppendZerosOnto
import Derived.Deep.QuietTactic
import Derived.BigQuiet
import Derived.Laws.BitsAllLaws
import Derived.Test.YtippbjpodnnhiaaMg6
/-
  The contract of the tree's Key.
-/
namespace Go.Proofs.Ytippbjpodnnhiaa.Kg
open Go.RowKit
variable {ci : Ciph}
attribute [local go_sem ↓] Go.wp_at_zero Go.wp_at_succ
theorem near_step (y : Nd) (m : Int) : nearN ci y m = stepK ci y m := by
  unfold nearN stepK
  have e : (ndR ci y).a = IntKind.u64.wrap (y.a + manyI (y.d + 1)) := rfl
  rw [e]
  by_cases h : m < IntKind.u64.wrap (y.a + manyI (y.d + 1))
  · rw [if_pos h, if_neg (by omega)]
  · rw [if_neg h, if_pos (by omega)]
theorem by_rest3 {R G : Nat → Nat → Nat → World → Prop} {p : Prop} (ways : (∀ X Y Z w', R X Y Z w' → G X Y Z w') → p) (rest : ∀ X Y Z w', R X Y Z w' → G X Y Z w') : p := ways rest
theorem okH_step {y : Nd} (m : Int) (hy : okH y) (hd : y.d < 17) : okH (stepK ci y m) := by
  unfold stepK; split
  · exact (ndR_ok (ci := ci) hy hd).1
  · exact (ndL_ok (ci := ci) hy hd).1
set_option maxRecDepth 100000 in
set_option maxHeartbeats 3200000 in
theorem tkey_any (g : Nat) (A : Option Addr) (n c : Nat) (l : List Nd) (m : Int) (w : World) (h : TrA ci w g A n c l) :
    Calls Try.prog 23 #[.pointer (some ⟨g, 0, none⟩), .int .u64 m] w (RetB (keyV ci (l.find? (inI · m)) m) w) := by
  obtain ⟨z, hz0⟩ : ∃ z : List UInt8, z = List.replicate 32 0 := ⟨_, rfl⟩
  obtain ⟨cz, hcz⟩ : ∃ cz, cz = ndC zeroNd := ⟨_, rfl⟩
  have hz : ∀ W, (zeroValue 43).run Try.prog W = .ok (.agg (bva z)) W := fun _ => by rw [hz0]; kernel_rfl
  have hzh : ∀ W, (zeroValue 61).run Try.prog W = .ok (.agg cz) W := fun _ => by rw [hcz]; kernel_rfl
  have HBZ := Lib.hid (show ∀ W, (Instr.build 43 #[]).run Try.prog W = .ok (.agg (bva z)) W from fun _ => by rw [hz0]; kernel_rfl)
  have ZH : Hid (cz.size = 34) := by show _ = _; rw [hcz]; exact ndC_size rfl
  have Z3 : Hid (z.length = 32) := by show _ = _; rw [hz0]; rfl
  have HKZ : Hid ((Try.prog.info? 43).map (·.size) = some (bva z).size) := by rw [bva_size, Z3.out]; exact info_keyL
  have b1 : Blk (w.alloc (.cells (bva z) 43)) w.heap.size (bva z) 43 := heap_alloc_new _ _
  have hb : Below w.heap.size w (w.alloc (.cells (bva z) 43)) := (Below.refl _ _).alloc (Nat.le_refl _) _
  have HT := Lib.hid h
  have B1 := Lib.hid b1
  have BB := Lib.hid hb
  have Z0 := Lib.hid hz0
  clear h b1 hb hcz hz0
  go_enter Try.func23, Try.ntmps23
  go_wp2_with fail
  refine (find_any g A n c l m _ (HT.out.below BB.out)).mono ?_
  rintro e w2 ⟨i, b, rfl, hf, bw⟩
  have hB2 := BB.out.trans (bw.mono BB.out.size)
  have HT2 := Lib.hid (HT.out.below hB2)
  have HB2 := Lib.hid hB2
  have HF := Lib.hid hf
  have P1 := Lib.hid (B1.out.below bw)
  clear bw hf hB2 B1 BB
  cases b with
  | false =>
    have hk : l.find? (inI · m) = none := by
      rw [List.find?_eq_none]; intro x hx; rw [found_not HT.out.ok HF.out x hx]; simp
    have HK := Lib.hid hk
    clear hk
    go_wp2_with (first
      | (refine wpList_build rfl 43 #[] rfl (HBZ.out _) ?_)
      | (refine wpList_store_row rfl 43 (.tmp 4) (.tmp 18) rfl w.heap.size (bva z) rfl rfl 43 (bva z) P1.out HKZ.out rfl (bva_one _) ?_
         generalize hwx : World.setRow _ _ _ = wx
         have e1 : Blk wx w.heap.size (bva z) 43 := by rw [← hwx]; exact setRow_heap _ _ _ _ _ _ P1.out
         have eb : Below w.heap.size w wx := by rw [← hwx]; exact below_setRow HB2.out (Nat.le_refl _) _
         have Q1 := Lib.hid e1
         have QB := Lib.hid eb
         clear hwx e1 eb))
    try simp only [Act.put, List.setIfInBounds_toArray, List.set_cons_zero, List.set_cons_succ]
    rw [HK.out, keyV_none, ← Z0.out]
    exact bodyPost_ret (v := .tuple #[.agg (bva z), .bool false]) (results_ct Try.results23 _ _ w.heap.size 43 (bva z) _ rfl Q1.out Try.underlying43 rfl HKZ.out) rfl ⟨rfl, QB.out⟩
  | true =>
    obtain ⟨x, hx, hin, hbf, _⟩ := found_yes HT.out.ok HF.out
    have hil : i < l.length := (List.getElem?_eq_some_iff.1 hx).1
    have hin' : i < n := by rw [← HT.out.len]; exact hil
    have hxe : l[i] = x := (List.getElem?_eq_some_iff.1 hx).2
    have hxo : okH x := by rw [← hxe]; exact (okS_mem HT.out.ok _ (List.getElem_mem hil)).1
    have hfd : l.find? (inI · m) = some x := by
      have e1 : l = l.take i ++ (x :: l.drop (i + 1)) := by rw [← hxe, ← List.drop_eq_getElem_cons hil, List.take_append_drop]
      rw [e1, List.find?_append, List.find?_eq_none.2 (fun y hy => by rw [hbf y hy]; simp), Option.none_or, List.find?_cons_of_pos (by simpa using hin)]
    obtain ⟨ad, hA, hbl, _⟩ := rd_node HT2.out.rd HT2.out.len3 hil
    subst hA
    have hcell : ∀ w', Below w2.heap.size w2 w' → ∀ j v, (ndV x)[j]? = some v → w'.cell? ((ad.add (i * 34)).add j) = some v := fun w' hb' j v hv => by
      obtain ⟨ad', hA', _, hc⟩ := rd_node (HT2.out.rd.below hb') HT2.out.len3 hil
      injection hA' with hA'
      subst hA'
      exact hc j v (by rw [hxe]; exact hv)
    have hc1 : ∀ w', Below w2.heap.size w2 w' → w'.cell? ⟨g, 1, none⟩ = some (.slice (some ad) n c) := fun w' hb' => (HT2.out.below hb').c1
    have HX := Lib.hid hxo
    have HFD := Lib.hid hfd
    have HCL := Lib.hid hcell
    have HC1 := Lib.hid hc1
    have HI : Hid ((Try.prog.info? 61).map (·.size) = some (ndV x).length) := by rw [ndV_length hxo.2.2.2.2.2]; exact info_held
    have HIC : Hid ((Try.prog.info? 61).map (·.size) = some (ndC x).size) := by rw [ndC_size hxo.2.2.2.2.2]; exact info_held
    have k0 : (0 : Int) ≤ (i : Int) := by omega
    have k1 : (i : Int) < (n : Int) := by omega
    clear hx hin hbf hxe hxo hfd hcell hc1 hbl
    go_wp2_with fail
    apply by_rest3 (R := fun X p1 p2 w' => Blk w' X (ndC x) 61 ∧ Blk w' p1 #[.pointer (some ⟨g, 0, none⟩)] 45 ∧ Blk w' p2 #[.int .u64 m] 38 ∧ w2.heap.size ≤ X ∧ X ≠ p1 ∧ X ≠ p2 ∧ w2.heap.size ≤ p1 ∧ w2.heap.size ≤ p2 ∧ Below w2.heap.size w2 w')
    case ways =>
      intro hG
      refine wp_region_held_drew (S := fun w' => Below w2.heap.size w2 w') (by kernel_rfl) (Below.refl _ _).drew (fun hh => ?_)
      have HH := Lib.hid hh
      clear hh
      refine wpAnyH_take (i := 0) (v := ?va0) rfl (by kernel_rfl) (by kernel_rfl) (by kernel_rfl) (fun _ _ _ h => h) (Or.inl ⟨by rfl, fun w' _ => ?ya0⟩) HH.out ?_
      case ya0 => (go_simp; try with_reducible rfl)
      refine wpAnyH_take (i := 1) (v := ?va1) rfl (by kernel_rfl) (by kernel_rfl) (by kernel_rfl) (fun _ _ _ h => h) (Or.inl ⟨by rfl, fun w' _ => ?ya1⟩) HH.out ?_
      case ya1 => (go_simp; try with_reducible rfl)
      try simp only [List.getElem_toArray, List.getElem_cons_succ, List.getElem_cons_zero, Act.put, List.setIfInBounds_toArray, List.set_cons_zero, List.set_cons_succ]
      refine wpAnyH_take (i := 2) (v := ?va2) rfl (by kernel_rfl) (by kernel_rfl) (by kernel_rfl) (fun _ _ _ h => h) (Or.inl ⟨by rfl, fun w' _ => ?ya2⟩) HH.out ?_
      case ya2 => (go_simp; try with_reducible rfl)
      refine wpAnyH_take (i := 3) (v := .slice (some ad) n c) rfl (by kernel_rfl) (by kernel_rfl) (by kernel_rfl) (fun _ _ _ h => h) (Or.inl ⟨by rfl, fun w' hw' => ?ya3⟩) HH.out ?_
      case ya3 => (have cc := HC1.out w' hw'; go_simp; try with_reducible rfl)
      try simp only [List.getElem_toArray, List.getElem_cons_succ, List.getElem_cons_zero, Act.put, List.setIfInBounds_toArray, List.set_cons_zero, List.set_cons_succ]
      refine wpAnyH_take (i := 4) (v := ?va4) rfl (by kernel_rfl) (by kernel_rfl) (by kernel_rfl) (fun _ _ _ h => h) (Or.inl ⟨by rfl, fun w' _ => ?ya4⟩) HH.out ?_
      case ya4 => (go_simp; try with_reducible rfl)
      refine wpAnyH_take (i := 5) (v := ?va5) rfl (by kernel_rfl) (by kernel_rfl) (by kernel_rfl) (fun _ _ _ h => h) (Or.inl ⟨by rfl, fun w' _ => ?ya5⟩) HH.out ?_
      case ya5 => (go_simp; try with_reducible rfl)
      try simp only [List.getElem_toArray, List.getElem_cons_succ, List.getElem_cons_zero, Act.put, List.setIfInBounds_toArray, List.set_cons_zero, List.set_cons_succ]
      refine wpAnyH_take (i := 6) (v := .agg (ndC x)) rfl (by kernel_rfl) (by kernel_rfl) (by kernel_rfl) (fun _ _ _ h => h) (Or.inl ⟨by rfl, fun w' hw' => ?ya6⟩) HH.out ?_
      case ya6 => exact exec_load_at 61 (.tmp 24) rfl (ad.add (i * 34)) rfl (fun j v hj => HCL.out w' hw' j v hj) Try.underlying61 rfl HI.out
      refine wpAnyH_take (i := 7) (v := ?va7) rfl (by kernel_rfl) (by kernel_rfl) (by kernel_rfl) (fun _ _ _ h => h) (Or.inl ⟨by rfl, fun w' _ => ?ya7⟩) HH.out ?_
      case ya7 => (go_simp; try with_reducible rfl)
      refine wpAnyH_take (i := 8) (v := ?va8) rfl (by kernel_rfl) (by kernel_rfl) (by kernel_rfl) (fun _ _ _ h => h) (Or.inl ⟨by rfl, fun w' _ => ?ya8⟩) HH.out ?_
      case ya8 => (go_simp; try with_reducible rfl)
      try simp only [List.getElem_toArray, List.getElem_cons_succ, List.getElem_cons_zero, Act.put, List.setIfInBounds_toArray, List.set_cons_zero, List.set_cons_succ]
      have hsd : w2.drew.heap.size = w2.heap.size := rfl
      have hh2 := HH.out
      clear HH
      generalize w2.drew = wd at *
      have HH := Lib.hid hh2
      have HSD := Lib.hid hsd
      clear hh2 hsd
      refine wpAnyH_ready (rs := [9, 10]) (by kernel_rfl) (by simp) (AllReadyH.cons rfl (fun K hK => ?_) (AllReadyH.cons rfl (fun K hK => ?_) AllReadyH.nil))
      · go_simp
        refine (toward_any g m _).mono ?_
        rintro e w5 ⟨p1, p2, rfl, h1, h2, l1, l2, bw⟩
        go_simp
        have hsz5 := bw.size
        refine hK.out _ _ (HH.out.trans (bw.mono HH.out.size)) (fun hh => ?_)
        have HH' := Lib.hid hh
        clear hh hK K HH
        have HH := Lib.hid HH'.out
        clear HH'
        try simp only [List.getElem_toArray, List.getElem_cons_succ, List.getElem_cons_zero, Act.put, List.setIfInBounds_toArray, List.set_cons_zero, List.set_cons_succ]
        refine wpAnyH_ready (rs := [10]) (by kernel_rfl) (by simp) (AllReadyH.cons rfl (fun K hK => ?_) AllReadyH.nil)
        go_simp
        have FX : Blk (World.alloc w5 (.cells cz 61)) w5.heap.size cz 61 := heap_alloc_new _ _
        have F1 : Blk (World.alloc w5 (.cells cz 61)) p1 #[.pointer (some ⟨g, 0, none⟩)] 45 := blk_old1 h1
        have F2 : Blk (World.alloc w5 (.cells cz 61)) p2 #[.int .u64 m] 38 := blk_old1 h2
        have n1 := h1.lt
        have n2 := h2.lt
        have hs2 := HH.out.size
        refine hK.out _ _ (HH.out.alloc HH.out.size _) (fun hh => ?_)
        have HH' := Lib.hid hh
        clear hh hK K HH
        have HH := Lib.hid HH'.out
        clear HH'
        generalize hW6 : World.alloc w5 (.cells cz 61) = w6 at *
        try simp only [List.getElem_toArray, List.getElem_cons_succ, List.getElem_cons_zero, Act.put, List.setIfInBounds_toArray, List.set_cons_zero, List.set_cons_succ]
        refine wpAnyH_ready (rs := [11]) (by kernel_rfl) (by simp) (AllReadyH.cons rfl (fun K hK => ?_) AllReadyH.nil)
        rw [if_pos (by rfl)]
        refine wp_store_row 61 (.tmp 8) (.tmp 25) rfl w5.heap.size (ndC x) rfl rfl 61 cz FX HIC.out (by rw [ndC_size HX.out.2.2.2.2.2, ZH.out]) (ndC_one _) ?_
        have G0 : Blk (World.setRow w6 w5.heap.size (ndC x)) w5.heap.size (ndC x) 61 := setRow_heap _ _ _ _ _ _ FX
        have G1 : Blk (World.setRow w6 w5.heap.size (ndC x)) p1 #[.pointer (some ⟨g, 0, none⟩)] 45 := blk_row F1 (by omega)
        have G2 : Blk (World.setRow w6 w5.heap.size (ndC x)) p2 #[.int .u64 m] 38 := blk_row F2 (by omega)
        refine hK.out _ _ (below_setRow HH.out (by omega) _) (fun hh => ?_)
        have HH' := Lib.hid hh
        clear hh hK K HH
        have HH := Lib.hid HH'.out
        clear HH'
        clear FX F1 F2 hW6
        generalize hW7 : World.setRow w6 w5.heap.size (ndC x) = w7 at *
        clear hW7
        try simp only [List.getElem_toArray, List.getElem_cons_succ, List.getElem_cons_zero, Act.put]
        refine wpAnyH_take (i := 12) (v := ?vz12) rfl (by kernel_rfl) (by kernel_rfl) (by kernel_rfl) (fun _ _ _ h => h) (Or.inl ⟨by rfl, fun w' _ => ?yz12⟩) HH.out ?_
        case yz12 => (go_simp; try with_reducible rfl)
        try simp only [List.getElem_toArray, List.getElem_cons_succ, List.getElem_cons_zero, Act.put, List.setIfInBounds_toArray, List.set_cons_zero, List.set_cons_succ]
        refine wpAnyH_done (by kernel_rfl) ?_ _
        try simp only [List.getElem_toArray, List.getElem_cons_succ, List.getElem_cons_zero, Act.put, List.setIfInBounds_toArray, List.set_cons_zero, List.set_cons_succ]
        obtain ⟨X, hX⟩ : ∃ X, w5.heap.size = X := ⟨_, rfl⟩
        have kb := HH.out
        clear HH
        rw [HSD.out] at l1 l2
        simp only [hX] at *
        exact hG X p1 p2 w7 ⟨G0, G1, G2, by omega, by omega, by omega, by omega, by omega, kb⟩
      · go_simp
        have FX : Blk (World.alloc wd (.cells cz 61)) wd.heap.size cz 61 := heap_alloc_new _ _
        refine hK.out _ _ (HH.out.alloc HH.out.size _) (fun hh => ?_)
        have HH' := Lib.hid hh
        clear hh hK K HH
        have HH := Lib.hid HH'.out
        clear HH'
        have hsa : (World.alloc wd (.cells cz 61)).heap.size = wd.heap.size + 1 := by simp
        generalize hW6 : World.alloc wd (.cells cz 61) = w6 at *
        try simp only [List.getElem_toArray, List.getElem_cons_succ, List.getElem_cons_zero, Act.put, List.setIfInBounds_toArray, List.set_cons_zero, List.set_cons_succ]
        refine wpAnyH_ready (rs := [9]) (by kernel_rfl) (by simp) (AllReadyH.cons rfl (fun K hK => ?_) AllReadyH.nil)
        go_simp
        refine (toward_any g m _).mono ?_
        rintro e w5 ⟨p1, p2, rfl, h1, h2, l1, l2, bw⟩
        go_simp
        have hsz5 := bw.size
        have F0 : Blk w5 wd.heap.size cz 61 := FX.below bw
        refine hK.out _ _ (HH.out.trans (bw.mono HH.out.size)) (fun hh => ?_)
        have HH' := Lib.hid hh
        clear hh hK K HH
        have HH := Lib.hid HH'.out
        clear HH'
        try simp only [List.getElem_toArray, List.getElem_cons_succ, List.getElem_cons_zero, Act.put, List.setIfInBounds_toArray, List.set_cons_zero, List.set_cons_succ]
        refine wpAnyH_ready (rs := [11]) (by kernel_rfl) (by simp) (AllReadyH.cons rfl (fun K hK => ?_) AllReadyH.nil)
        rw [if_pos (by rfl)]
        refine wp_store_row 61 (.tmp 8) (.tmp 25) rfl wd.heap.size (ndC x) rfl rfl 61 cz F0 HIC.out (by rw [ndC_size HX.out.2.2.2.2.2, ZH.out]) (ndC_one _) ?_
        have G0 : Blk (World.setRow w5 wd.heap.size (ndC x)) wd.heap.size (ndC x) 61 := setRow_heap _ _ _ _ _ _ F0
        have G1 : Blk (World.setRow w5 wd.heap.size (ndC x)) p1 #[.pointer (some ⟨g, 0, none⟩)] 45 := blk_row h1 (by omega)
        have G2 : Blk (World.setRow w5 wd.heap.size (ndC x)) p2 #[.int .u64 m] 38 := blk_row h2 (by omega)
        have hwd := HSD.out
        refine hK.out _ _ (below_setRow HH.out (by omega) _) (fun hh => ?_)
        have HH' := Lib.hid hh
        clear hh hK K HH
        have HH := Lib.hid HH'.out
        clear HH'
        clear FX F0 hW6 h1 h2
        generalize hW7 : World.setRow w5 wd.heap.size (ndC x) = w7 at *
        clear hW7
        try simp only [List.getElem_toArray, List.getElem_cons_succ, List.getElem_cons_zero, Act.put]
        refine wpAnyH_take (i := 12) (v := ?vy12) rfl (by kernel_rfl) (by kernel_rfl) (by kernel_rfl) (fun _ _ _ h => h) (Or.inl ⟨by rfl, fun w' _ => ?yy12⟩) HH.out ?_
        case yy12 => (go_simp; try with_reducible rfl)
        try simp only [List.getElem_toArray, List.getElem_cons_succ, List.getElem_cons_zero, Act.put, List.setIfInBounds_toArray, List.set_cons_zero, List.set_cons_succ]
        refine wpAnyH_done (by kernel_rfl) ?_ _
        try simp only [List.getElem_toArray, List.getElem_cons_succ, List.getElem_cons_zero, Act.put, List.setIfInBounds_toArray, List.set_cons_zero, List.set_cons_succ]
        obtain ⟨X, hX⟩ : ∃ X, wd.heap.size = X := ⟨_, rfl⟩
        have kb := HH.out
        clear HH
        simp only [hX] at *
        exact hG X p1 p2 w7 ⟨G0, G1, G2, by omega, by omega, by omega, by omega, by omega, kb⟩
    case rest =>
      rintro X p1 p2 w4 ⟨f0, f1, f2, x1, x2, x3, x4, x5, bw⟩
      have hB4 := HB2.out.trans (bw.mono HB2.out.size)
      have p1' := P1.out.below bw
      have hw0 := P1.out.lt
      have HT4 := Lib.hid (HT2.out.below bw)
      go_wp2_with fail
      go_loopw [] (fun wr => ∃ y, Hid (okH y ∧ goL ci (17 - y.d).toNat y m = goL ci (17 - x.d).toNat x m) ∧ Blk wr X (ndC y) 61 ∧ Blk wr p1 #[.pointer (some ⟨g, 0, none⟩)] 45 ∧ Blk wr p2 #[.int .u64 m] 38 ∧ Blk wr w.heap.size (bva z) 43 ∧ wr.cell? ⟨g, 0, none⟩ = some ci.v ∧ Below w.heap.size w wr) (fun wr => depthAt wr X)
      case atStart => exact ⟨x, ⟨HX.out, rfl⟩, f0, f1, f2, p1', HT4.out.c0, hB4⟩
      case round =>
        clear f0 f1 f2 p1' hB4
        obtain ⟨y, HY, f0, f1, f2, q1, hc0, fb⟩ := hrel
        by_cases h17 : y.d < 17
        · have c0 := ndt_d f0
          obtain ⟨y', hy'⟩ : ∃ y', y' = nearN ci y m := ⟨_, rfl⟩
          obtain ⟨zz, hzz⟩ : ∃ zz, zz = asideN ci y m := ⟨_, rfl⟩
          have hy3 := HY.out.1.2.2.2.2.2
          have hoy : okH y' := by rw [hy', near_step]; exact okH_step (ci := ci) m HY.out.1 h17
          have HIY : Hid ((Try.prog.info? 61).map (·.size) = some (ndC y).size) := by rw [ndC_size hy3]; exact info_held
          have HIY' : Hid ((Try.prog.info? 61).map (·.size) = some (ndC y').size) := by rw [ndC_size hoy.2.2.2.2.2]; exact info_held
          have HC := Lib.hid hc0
          have HN := Lib.hid hy'
          have HZ := Lib.hid hzz
          have HO := Lib.hid hoy
          have F0 := Lib.hid f0
          have F1 := Lib.hid f1
          have F2 := Lib.hid f2
          have Q1 := Lib.hid q1
          have FB := Lib.hid fb
          have hdd := depthAt_eqH f0
          have HDD := Lib.hid hdd
          clear f0 f1 f2 q1 hc0 fb hoy hy' hzz hdd
          go_wp2_with (refine wpList_load_row rfl 61 (.tmp 8) rfl X rfl 61 (ndC y) (0, 0) _ F0.out Try.underlying61 rfl HIY.out ?_)
          refine (spl_any g p1 p2 y m _ HY.out.1 h17 HC.out F1.out F2.out y' zz HN.out HZ.out).mono ?_
          rintro e w5 ⟨rfl, bw⟩
          have D0 := Lib.hid (F0.out.below bw)
          have D1 := Lib.hid (F1.out.below bw)
          have D2 := Lib.hid (F2.out.below bw)
          have DQ := Lib.hid (Q1.out.below bw)
          have DC := Lib.hid ((bw.cell (block_lt_of_cell HC.out)).trans HC.out)
          have DB := Lib.hid (FB.out.trans (bw.mono FB.out.size))
          have hgl : g < w.heap.size := HT.out.blk.lt
          clear bw F0 F1 F2 Q1 HC FB c0
          go_wp2_with (refine wpList_store_row rfl 61 (.tmp 8) (.tmp 36) rfl X (ndC y') rfl rfl 61 (ndC y) D0.out HIY'.out (by rw [ndC_size HO.out.2.2.2.2.2, ndC_size HY.out.1.2.2.2.2.2]) (ndC_one _) ?_
                       generalize hwx : World.setRow _ _ _ = wx
                       have e0 : Blk wx X (ndC y') 61 := by rw [← hwx]; exact setRow_heap _ _ _ _ _ _ D0.out
                       have e1 : Blk wx p1 #[.pointer (some ⟨g, 0, none⟩)] 45 := by rw [← hwx]; exact blk_row D1.out (by omega)
                       have e2 : Blk wx p2 #[.int .u64 m] 38 := by rw [← hwx]; exact blk_row D2.out (by omega)
                       have e3 : Blk wx w.heap.size (bva z) 43 := by rw [← hwx]; exact blk_row DQ.out (by omega)
                       have e4 : Below w.heap.size w wx := by rw [← hwx]; exact below_setRow DB.out (by omega) _
                       have e5 : wx.cell? ⟨g, 0, none⟩ = some ci.v := by rw [← hwx, (below_setRow (B := X) (Below.refl X w5) (Nat.le_refl _) _).cell (by show g < X; omega)]; exact DC.out
                       have E0 := Lib.hid e0
                       have E1 := Lib.hid e1
                       have E2 := Lib.hid e2
                       have E3 := Lib.hid e3
                       have E4 := Lib.hid e4
                       have E5 := Lib.hid e5
                       clear hwx e0 e1 e2 e3 e4 e5 D0 D1 D2 DQ DB DC)
          try simp only [Act.put]
          have hdy := depthAt_eqH E0.out
          have hydn : y'.d = y.d + 1 := by rw [HN.out, near_step, stepK_d]
          have HDY := Lib.hid hdy
          have HYD := Lib.hid hydn
          clear hdy hydn
          go_roundw
          case rel => exact ⟨y', ⟨HO.out, by rw [HYD.out, HN.out, near_step, ← goL_step (ci := ci) y m (by omega)]; exact HY.out.2⟩, E0.out, E1.out, E2.out, E3.out, E5.out, E4.out⟩
          case measure => rw [HDY.out, HDD.out, HYD.out]; omega
        · have c0 := ndt_d f0
          have hge := goL_end (ci := ci) y m h17
          have hy3 := HY.out.1.2.2.2.2.2
          have HY3 : Hid (y.s.length = 32) := hy3
          have HIX : Hid ((Try.prog.info? 43).map (·.size) = some (bv y.s).length) := by rw [bv_length, hy3]; exact info_keyL
          have HIB : Hid ((Try.prog.info? 43).map (·.size) = some (bva y.s).size) := by rw [bva_size, hy3]; exact info_keyL
          have HG := Lib.hid (show goL ci (17 - x.d).toNat x m = y by rw [← HY.out.2, hge])
          have F0 := Lib.hid f0
          have Q1 := Lib.hid q1
          have FB := Lib.hid fb
          clear hge hy3 f0 f1 f2 q1 hc0 fb
          go_wp2_with (first
            | (refine wpList_load_mid rfl 43 (.tmp 38) rfl X 2 rfl (bv y.s) _ (ndt_s F0.out) Try.underlying43 rfl HIX.out ?_
               change wpList _ _ _ _ (Act.put _ _ (.agg (bva y.s))) _)
            | (refine wpList_store_row rfl 43 (.tmp 4) (.tmp 39) rfl w.heap.size (bva y.s) rfl rfl 43 (bva z) Q1.out HIB.out (by rw [bva_size, bva_size, HY3.out, Z3.out]) (bva_one _) ?_
               generalize hwx : World.setRow _ _ _ = wx
               have e1 : Blk wx w.heap.size (bva y.s) 43 := by rw [← hwx]; exact setRow_heap _ _ _ _ _ _ Q1.out
               have eb : Below w.heap.size w wx := by rw [← hwx]; exact below_setRow FB.out (Nat.le_refl _) _
               have R1 := Lib.hid e1
               have RB := Lib.hid eb
               clear hwx e1 eb))
          try simp only [Act.put, List.setIfInBounds_toArray, List.set_cons_zero, List.set_cons_succ]
          rw [HFD.out, keyV_some, HG.out]
          exact bodyPost_ret (v := .tuple #[.agg (bva y.s), .bool true]) (results_ct Try.results23 _ _ w.heap.size 43 (bva y.s) _ rfl R1.out Try.underlying43 rfl HIB.out) rfl ⟨rfl, RB.out⟩
set_option maxRecDepth 100000 in
theorem tkey_nil (m : Int) (w : World) : Calls Try.prog 23 #[.pointer none, .int .u64 m] w (RetB (keyV ci none m) w) := by
  obtain ⟨z, hz0⟩ : ∃ z : List UInt8, z = List.replicate 32 0 := ⟨_, rfl⟩
  have hz : ∀ W, (zeroValue 43).run Try.prog W = .ok (.agg (bva z)) W := fun _ => by rw [hz0]; kernel_rfl
  have HBZ := Lib.hid (show ∀ W, (Instr.build 43 #[]).run Try.prog W = .ok (.agg (bva z)) W from fun _ => by rw [hz0]; kernel_rfl)
  have Z3 : Hid (z.length = 32) := by show _ = _; rw [hz0]; rfl
  have HKZ : Hid ((Try.prog.info? 43).map (·.size) = some (bva z).size) := by rw [bva_size, Z3.out]; exact info_keyL
  have P1 := Lib.hid (show Blk (w.alloc (.cells (bva z) 43)) w.heap.size (bva z) 43 from heap_alloc_new _ _)
  have HB2 := Lib.hid (show Below w.heap.size w (w.alloc (.cells (bva z) 43)) from (Below.refl _ _).alloc (Nat.le_refl _) _)
  have Z0 := Lib.hid hz0
  clear hz0
  go_enter Try.func23, Try.ntmps23
  go_wp2_with fail
  refine (find_nil m _).mono ?_
  rintro e w2 ⟨rfl, rfl⟩
  go_wp2_with (first
    | (refine wpList_build rfl 43 #[] rfl (HBZ.out _) ?_)
    | (refine wpList_store_row rfl 43 (.tmp 4) (.tmp 18) rfl w.heap.size (bva z) rfl rfl 43 (bva z) P1.out HKZ.out rfl (bva_one _) ?_
       generalize hwx : World.setRow _ _ _ = wx
       have e1 : Blk wx w.heap.size (bva z) 43 := by rw [← hwx]; exact setRow_heap _ _ _ _ _ _ P1.out
       have eb : Below w.heap.size w wx := by rw [← hwx]; exact below_setRow HB2.out (Nat.le_refl _) _
       have Q1 := Lib.hid e1
       have QB := Lib.hid eb
       clear hwx e1 eb))
  try simp only [Act.put, List.setIfInBounds_toArray, List.set_cons_zero, List.set_cons_succ]
  rw [keyV_none, ← Z0.out]
  exact bodyPost_ret (v := .tuple #[.agg (bva z), .bool false]) (results_ct Try.results23 _ _ w.heap.size 43 (bva z) _ rfl Q1.out Try.underlying43 rfl HKZ.out) rfl ⟨rfl, QB.out⟩
end Go.Proofs.Ytippbjpodnnhiaa.Kg
/-
  The laws' example, awake: a tree whose leaf 0 is punctured.
-/
namespace Go.Proofs.Ytippbjpodnnhiaa.Kg
open Go.RowKit
variable {ci : Ciph}
attribute [local go_sem ↓] Go.wp_at_zero Go.wp_at_succ
section
variable {w : World} {g : Nat} {l : List Nd} {F : Nat → Prop}
theorem theld_tr (h : Tr ci w g l F) : Calls Try.prog 21 #[.pointer (some ⟨g, 0, none⟩)] w (RetRowN 61 34 (nvs l) w) := by
  obtain ⟨A, n, c, ht, _⟩ := h; exact theld_any g A n c l w ht
theorem tcount_tr (h : Tr ci w g l F) : Calls Try.prog 24 #[.pointer (some ⟨g, 0, none⟩)] w (RetB (.int .i64 (countL l)) w) := by
  obtain ⟨A, n, c, ht, _⟩ := h; exact tcount_any g A n c l w ht
theorem tkey_tr (h : Tr ci w g l F) (m : Int) : Calls Try.prog 23 #[.pointer (some ⟨g, 0, none⟩), .int .u64 m] w (RetB (keyV ci (l.find? (inI · m)) m) w) := by
  obtain ⟨A, n, c, ht, _⟩ := h; exact tkey_any g A n c l m w ht
theorem thas_tr (h : Tr ci w g l F) (m : Int) : Calls Try.prog 42 #[.pointer (some ⟨g, 0, none⟩), .int .u64 m] w (RetB (.bool (hasI l m)) w) := by
  obtain ⟨A, n, c, ht, _⟩ := h; exact has_any g A n c l m w ht
theorem but_belowF {w' : World} {N : Nat} (hb : But F w w') (hF : ∀ k, F k → N ≤ k) (hN : N ≤ w.heap.size) : Below N w w' := hb.below (fun k hk h => by have := hF k h; omega) hN
end
end Go.Proofs.Ytippbjpodnnhiaa.Kg
/-
  What the laws of the tree have in common: punctures one behind the other, a key with its sign.
-/
namespace Go.Proofs.Ytippbjpodnnhiaa.Kg
open Go.RowKit
variable {ci : Ciph}
attribute [local go_sem ↓] Go.wp_at_zero Go.wp_at_succ
/-- Punctures, one behind the other. -/
def punAll (ci : Ciph) (x : List Nd) (ms : List Int) : List Nd := ms.foldl (punL ci) x
theorem punAll_snoc (x : List Nd) (ms : List Int) {k : Nat} (h : k < ms.length) : punAll ci x (ms.take (k + 1)) = punL ci (punAll ci x (ms.take k)) (ms.getD k 0) := by
  rw [List.take_succ_eq_append_getElem h, punAll, List.foldl_append]
  simp [punAll, h]
theorem punAll_ok {x : List Nd} (hx : okS 0 x) : ∀ (ms : List Int), okS 0 (punAll ci x ms)
  | [] => hx
  | m :: ms => punAll_ok (punL_ok (ci := ci) m hx) ms
/-- A leaf's key, and whether there is one. -/
def keyK (ci : Ciph) (l : List Nd) (m : Int) : List UInt8 := match l.find? (inI · m) with | some x => (goL ci (17 - x.d).toNat x m).s | none => List.replicate 32 0
theorem keyV_form (l : List Nd) (m : Int) : keyV ci (l.find? (inI · m)) m = .tuple #[.agg (bva (keyK ci l m)), .bool (hasI l m)] := by
  unfold keyK
  cases h : l.find? (inI · m) with
  | none =>
    have : hasI l m = false := by rw [hasI, List.any_eq_false]; exact fun x hx => List.find?_eq_none.1 h x hx
    rw [this, keyV_none]
  | some x =>
    have : hasI l m = true := by rw [hasI, List.any_eq_true]; exact ⟨x, List.mem_of_find?_eq_some h, by simpa using List.find?_some h⟩
    rw [this, keyV_some]
theorem keyK_length {l : List Nd} (h : ∀ x ∈ l, x.s.length = 32) (m : Int) : (keyK ci l m).length = 32 := by
  unfold keyK
  split
  · rename_i x hx; exact goL_s (ci := ci) _ _ _ (h x (List.mem_of_find?_eq_some hx))
  · rfl
theorem eq_key (a b : List UInt8) (ha : a.length = 32) (hb : b.length = 32) (w : World) : (Op.equalIn 10000 43 (.agg (bva a)) (.agg (bva b))).run Try.prog w = .ok (decide (a = b)) w := by
  obtain ⟨i, hi⟩ := Option.isSome_iff_exists.1 (show (Try.prog.info? 5).isSome = true by kernel_rfl)
  exact run_equal_bytes w Try.underlying43 Try.underlying5 hi (by kernel_rfl) a b ha hb
end Go.Proofs.Ytippbjpodnnhiaa.Kg
/-
  What is held behind punctures, by definition: a node that has none of them, or what its halves have. No program.
-/
namespace Go.Proofs.Ytippbjpodnnhiaa.Kg
open Go.RowKit
variable {ci : Ciph}
/-- What is held of a node behind punctures. -/
def canL (ci : Ciph) : Nat → Nd → List Int → List Nd
  | 0, x, ms => if ms.any (inI x) then [] else [x]
  | f + 1, x, ms => if ms.any (inI x) then canL ci f (ndL ci x) ms ++ canL ci f (ndR ci x) ms else [x]
theorem inI_kids {x : Nd} {a : Int} (h : okH x) (hd : x.d < 17) : inI x a = (inI (ndL ci x) a || inI (ndR ci x) a) := by
  obtain ⟨h1, h2, h3⟩ := ndL_ok (ci := ci) h hd
  obtain ⟨h4, h5⟩ := ndR_ok (ci := ci) h hd
  have e1 : (ndL ci x).d = x.d + 1 := rfl
  have e2 : (ndR ci x).d = x.d + 1 := rfl
  have hp := (manyI_ok (d := x.d + 1) (by have := h.1; omega) (by omega)).2
  rw [Bool.eq_iff_iff, Bool.or_eq_true, inI_iff, inI_iff, inI_iff, h2, h5, e1, e2]
  omega
theorem inI_one {x : Nd} {a : Int} (h : okH x) (hd : inI (ndL ci x) a = true) (h17 : x.d < 17) : inI (ndR ci x) a = false := by
  obtain ⟨h1, h2, h3⟩ := ndL_ok (ci := ci) h h17
  obtain ⟨h4, h5⟩ := ndR_ok (ci := ci) h h17
  have e1 : (ndL ci x).d = x.d + 1 := rfl
  have e2 : (ndR ci x).d = x.d + 1 := rfl
  rw [inI_iff, h2, e1] at hd
  rw [inI_not, h5]; omega
theorem any_kids {x : Nd} {ms : List Int} (h : okH x) (hd : x.d < 17) : ms.any (inI x) = (ms.any (inI (ndL ci x)) || ms.any (inI (ndR ci x))) := by
  rw [Bool.eq_iff_iff, Bool.or_eq_true, List.any_eq_true, List.any_eq_true, List.any_eq_true]
  constructor
  · rintro ⟨m, hm, hi⟩
    rw [inI_kids (ci := ci) h hd, Bool.or_eq_true] at hi
    rcases hi with hi | hi
    · exact .inl ⟨m, hm, hi⟩
    · exact .inr ⟨m, hm, hi⟩
  · rintro (⟨m, hm, hi⟩ | ⟨m, hm, hi⟩)
    · exact ⟨m, hm, by rw [inI_kids (ci := ci) h hd, hi]; rfl⟩
    · exact ⟨m, hm, by rw [inI_kids (ci := ci) h hd, hi, Bool.or_true]⟩
theorem canL_none {f : Nat} {x : Nd} {ms : List Int} (h : ms.any (inI x) = false) : canL ci f x ms = [x] := by
  cases f <;> (unfold canL; rw [if_neg (by simp [h])])
theorem any_snoc (x : Nd) (ms : List Int) (m : Int) : (ms ++ [m]).any (inI x) = (ms.any (inI x) || inI x m) := by
  rw [List.any_append]; simp
theorem punL_one (f : Nat) (x : Nd) (m : Int) (hd : x.d = 17 - (f : Int)) : punL ci [x] m = woL ci f x m := by
  have : (17 - x.d).toNat = f := by omega
  rw [punL, List.flatMap_cons, this]; simp
theorem punL_can : ∀ (f : Nat) (x : Nd) (ms : List Int) (m : Int), okH x → x.d = 17 - (f : Int) → punL ci (canL ci f x ms) m = canL ci f x (ms ++ [m])
  | 0, x, ms, m, h, hd => by
    unfold canL
    rw [any_snoc]
    by_cases ha : ms.any (inI x) = true
    · rw [if_pos ha, ha, Bool.true_or, if_pos rfl]; rfl
    · rw [if_neg ha, punL_one (ci := ci) 0 x m hd, woL]
      have ha' : ms.any (inI x) = false := by simpa using ha
      rw [ha', Bool.false_or]
  | f + 1, x, ms, m, h, hd => by
    obtain ⟨h1, _⟩ := ndL_ok (ci := ci) h (by omega)
    obtain ⟨h2, _⟩ := ndR_ok (ci := ci) h (by omega)
    have il := punL_can f (ndL ci x) ms m h1 (by simp only [ndL]; omega)
    have ir := punL_can f (ndR ci x) ms m h2 (by simp only [ndR]; omega)
    unfold canL
    rw [any_snoc]
    by_cases ha : ms.any (inI x) = true
    · rw [if_pos ha, ha, Bool.true_or, if_pos rfl, punL_append, il, ir]
    · have ha' : ms.any (inI x) = false := by simpa using ha
      rw [if_neg ha, punL_one (ci := ci) (f + 1) x m hd, woL, ha', Bool.false_or]
      by_cases hi : inI x m = true
      · have hk := any_kids (ci := ci) (ms := ms) h (by omega)
        rw [ha'] at hk
        have hk' := hk.symm
        rw [Bool.or_eq_false_iff] at hk'
        rw [if_pos hi, if_pos hi, ← il, ← ir, canL_none (ci := ci) hk'.1, canL_none (ci := ci) hk'.2, punL_one (ci := ci) f (ndL ci x) m (by simp only [ndL]; omega), punL_one (ci := ci) f (ndR ci x) m (by simp only [ndR]; omega)]
      · rw [if_neg hi, if_neg hi]
theorem punAll_can (x : Nd) (hx : okH x) (f : Nat) (hd : x.d = 17 - (f : Int)) : ∀ (bs us : List Int), punAll ci (canL ci f x us) bs = canL ci f x (us ++ bs)
  | [], us => by simp [punAll]
  | b :: bs, us => by
    have h := punAll_can x hx f hd bs (us ++ [b])
    show punAll ci (punL ci (canL ci f x us) b) bs = _
    rw [punL_can (ci := ci) f x us b hx hd, h]
    simp
theorem any_congr {x : Nd} {ms ms' : List Int} (h : ∀ m, m ∈ ms ↔ m ∈ ms') : ms.any (inI x) = ms'.any (inI x) := by
  rw [Bool.eq_iff_iff, List.any_eq_true, List.any_eq_true]
  constructor
  · rintro ⟨m, hm, hi⟩; exact ⟨m, (h m).1 hm, hi⟩
  · rintro ⟨m, hm, hi⟩; exact ⟨m, (h m).2 hm, hi⟩
theorem can_congr : ∀ (f : Nat) (x : Nd) {ms ms' : List Int}, (∀ m, m ∈ ms ↔ m ∈ ms') → canL ci f x ms = canL ci f x ms'
  | 0, x, _, _, h => by unfold canL; rw [any_congr h]
  | f + 1, x, _, _, h => by unfold canL; rw [any_congr h, can_congr f _ h, can_congr f _ h]
/-- The root, behind punctures. -/
theorem punAll_root {s : List UInt8} (hs : s.length = 32) (ms : List Int) : punAll ci [⟨0, 0, s⟩] ms = canL ci 17 ⟨0, 0, s⟩ ms := by
  have h := punAll_can (ci := ci) ⟨0, 0, s⟩ (okS_root hs).1 17 rfl ms []
  rw [canL_none (ci := ci) (by rfl)] at h
  exact h
theorem can_mem_ok : ∀ (f : Nat) (x : Nd) (ms : List Int), okH x → x.d = 17 - (f : Int) → ∀ y ∈ canL ci f x ms, okH y
  | 0, x, ms, h, _, y, hy => by
    unfold canL at hy; split at hy
    · simp at hy
    · rw [List.mem_singleton] at hy; rw [hy]; exact h
  | f + 1, x, ms, h, hd, y, hy => by
    unfold canL at hy; split at hy
    · rcases List.mem_append.1 hy with hy | hy
      · exact can_mem_ok f _ ms (ndL_ok (ci := ci) h (by omega)).1 (by simp only [ndL]; omega) y hy
      · exact can_mem_ok f _ ms (ndR_ok (ci := ci) h (by omega)).1 (by simp only [ndR]; omega) y hy
    · rw [List.mem_singleton] at hy; rw [hy]; exact h
theorem leaf_one {x : Nd} {a m : Int} (hd : x.d = 17) (h1 : inI x a = true) (h2 : inI x m = true) : a = m := by
  have : manyI x.d = 1 := by rw [hd]; rfl
  rw [inI_iff, this] at h1 h2
  omega
theorem hasI_append (a b : List Nd) (m : Int) : hasI (a ++ b) m = (hasI a m || hasI b m) := by simp [hasI]
theorem hasI_single (x : Nd) (m : Int) : hasI [x] m = inI x m := by simp [hasI]
/-- Which leaves are left. -/
theorem hasI_can : ∀ (f : Nat) (x : Nd) (ms : List Int) (a : Int), okH x → x.d = 17 - (f : Int) → hasI (canL ci f x ms) a = (inI x a && !decide (a ∈ ms))
  | 0, x, ms, a, h, hd => by
    unfold canL
    by_cases ha : ms.any (inI x) = true
    · rw [if_pos ha]
      obtain ⟨m, hm, hi⟩ := List.any_eq_true.1 ha
      by_cases hx : inI x a = true
      · have := leaf_one (by omega) hx hi
        subst this
        rw [hx, decide_eq_true hm]; rfl
      · have hx' : inI x a = false := by simpa using hx
        rw [hx']; rfl
    · rw [if_neg ha, hasI_single]
      by_cases hx : inI x a = true
      · have hn : a ∉ ms := fun hm => ha (List.any_eq_true.2 ⟨a, hm, hx⟩)
        rw [hx, decide_eq_false hn]; rfl
      · have hx' : inI x a = false := by simpa using hx
        rw [hx']; rfl
  | f + 1, x, ms, a, h, hd => by
    unfold canL
    by_cases ha : ms.any (inI x) = true
    · rw [if_pos ha, hasI_append, hasI_can f _ ms a (ndL_ok (ci := ci) h (by omega)).1 (by simp only [ndL]; omega), hasI_can f _ ms a (ndR_ok (ci := ci) h (by omega)).1 (by simp only [ndR]; omega), inI_kids (ci := ci) h (by omega)]
      cases inI (ndL ci x) a <;> cases inI (ndR ci x) a <;> simp
    · rw [if_neg ha, hasI_single]
      by_cases hx : inI x a = true
      · have hn : a ∉ ms := fun hm => ha (List.any_eq_true.2 ⟨a, hm, hx⟩)
        rw [hx, decide_eq_false hn]; rfl
      · have hx' : inI x a = false := by simpa using hx
        rw [hx']; rfl
theorem step_left {x : Nd} {a : Int} (h : okH x) (hd : x.d < 17) (hi : inI (ndL ci x) a = true) : stepK ci x a = ndL ci x := by
  have hr := inI_one (ci := ci) h hi hd
  obtain ⟨h4, h5⟩ := ndR_ok (ci := ci) h hd
  obtain ⟨_, h2, _⟩ := ndL_ok (ci := ci) h hd
  have e1 : (ndL ci x).d = x.d + 1 := rfl
  rw [inI_iff, h2, e1] at hi
  have e : (ndR ci x).a = IntKind.u64.wrap (x.a + manyI (x.d + 1)) := rfl
  unfold stepK
  rw [← e, h5, if_neg (by omega)]
theorem step_right {x : Nd} {a : Int} (h : okH x) (hd : x.d < 17) (hi : inI (ndR ci x) a = true) : stepK ci x a = ndR ci x := by
  obtain ⟨h4, h5⟩ := ndR_ok (ci := ci) h hd
  rw [inI_iff, h5] at hi
  have e : (ndR ci x).a = IntKind.u64.wrap (x.a + manyI (x.d + 1)) := rfl
  unfold stepK
  rw [← e, h5, if_pos (by omega)]
/-- Each node that is held leads to the same keys. -/
theorem goL_can : ∀ (f : Nat) (x : Nd) (ms : List Int) (a : Int), okH x → x.d = 17 - (f : Int) → ∀ y ∈ canL ci f x ms, inI y a = true → inI x a = true ∧ goL ci (17 - y.d).toNat y a = goL ci f x a
  | 0, x, ms, a, h, hd, y, hy, hi => by
    unfold canL at hy; split at hy
    · simp at hy
    · rw [List.mem_singleton] at hy; subst hy
      have : (17 - y.d).toNat = 0 := by omega
      rw [this]; exact ⟨hi, rfl⟩
  | f + 1, x, ms, a, h, hd, y, hy, hi => by
    unfold canL at hy; split at hy
    · rcases List.mem_append.1 hy with hy | hy
      · obtain ⟨h1, h2⟩ := goL_can f _ ms a (ndL_ok (ci := ci) h (by omega)).1 (by simp only [ndL]; omega) y hy hi
        exact ⟨by rw [inI_kids (ci := ci) h (by omega), h1]; rfl, by rw [h2, goL, step_left (ci := ci) h (by omega) h1]⟩
      · obtain ⟨h1, h2⟩ := goL_can f _ ms a (ndR_ok (ci := ci) h (by omega)).1 (by simp only [ndR]; omega) y hy hi
        exact ⟨by rw [inI_kids (ci := ci) h (by omega), h1, Bool.or_true], by rw [h2, goL, step_right (ci := ci) h (by omega) h1]⟩
    · rw [List.mem_singleton] at hy; subst hy
      have : (17 - y.d).toNat = f + 1 := by omega
      rw [this]; exact ⟨hi, rfl⟩
/-- A leaf's key behind punctures: as it was, if it is left. -/
theorem keyK_can {f : Nat} {x : Nd} (ms : List Int) (a : Int) (h : okH x) (hd : x.d = 17 - (f : Int)) : keyK ci (canL ci f x ms) a = if hasI (canL ci f x ms) a = true then (goL ci f x a).s else List.replicate 32 0 := by
  unfold keyK
  cases hf : (canL ci f x ms).find? (inI · a) with
  | none =>
    have : hasI (canL ci f x ms) a = false := by rw [hasI, List.any_eq_false]; exact fun y hy => List.find?_eq_none.1 hf y hy
    rw [this]; rfl
  | some y =>
    have hm := List.mem_of_find?_eq_some hf
    have hi : inI y a = true := by simpa using List.find?_some hf
    have : hasI (canL ci f x ms) a = true := by rw [hasI, List.any_eq_true]; exact ⟨y, hm, hi⟩
    rw [if_pos this]
    show (goL ci (17 - y.d).toNat y a).s = _
    rw [(goL_can (ci := ci) f x ms a h hd y hm hi).2]
/-- How many of them a node has. -/
def nIn (x : Nd) (ms : List Int) : Nat := (ms.filter (inI x)).length
theorem nIn_kids {x : Nd} (ms : List Int) (h : okH x) (hd : x.d < 17) : nIn x ms = nIn (ndL ci x) ms + nIn (ndR ci x) ms := by
  unfold nIn
  induction ms with
  | nil => rfl
  | cons m ms ih =>
    rw [List.filter_cons, List.filter_cons, List.filter_cons]
    have hk := inI_kids (ci := ci) (a := m) h hd
    by_cases hl : inI (ndL ci x) m = true
    · have hr := inI_one (ci := ci) h hl hd
      rw [hl, Bool.true_or] at hk
      rw [if_pos hk, if_pos hl, if_neg (by simp [hr]), List.length_cons, List.length_cons, ih]; omega
    · have hl' : inI (ndL ci x) m = false := by simpa using hl
      rw [hl', Bool.false_or] at hk
      by_cases hr : inI (ndR ci x) m = true
      · rw [if_pos (by rw [hk]; exact hr), if_neg hl, if_pos hr, List.length_cons, List.length_cons, ih]; omega
      · rw [if_neg (by rw [hk]; exact hr), if_neg hl, if_neg hr, ih]
theorem nIn_zero {x : Nd} {ms : List Int} (h : ¬ ms.any (inI x) = true) : nIn x ms = 0 := by
  unfold nIn
  rw [List.length_eq_zero_iff, List.filter_eq_nil_iff]
  intro m hm hi
  exact h (List.any_eq_true.2 ⟨m, hm, hi⟩)
theorem nIn_pos {x : Nd} {ms : List Int} (h : ms.any (inI x) = true) : 1 ≤ nIn x ms := by
  unfold nIn
  obtain ⟨m, hm, hi⟩ := List.any_eq_true.1 h
  exact List.length_pos_of_mem (List.mem_filter.2 ⟨hm, hi⟩)
theorem nIn_leaf {x : Nd} (hd : x.d = 17) : ∀ {ms : List Int}, ms.Nodup → nIn x ms ≤ 1
  | [], _ => by simp [nIn]
  | m :: ms, hn => by
    rw [List.nodup_cons] at hn
    have ih := nIn_leaf hd hn.2
    unfold nIn at ih ⊢
    rw [List.filter_cons]
    by_cases hi : inI x m = true
    · have h0 : nIn x ms = 0 := nIn_zero (fun h => by
        obtain ⟨m', hm', hi'⟩ := List.any_eq_true.1 h
        have := leaf_one hd hi hi'
        subst this
        exact hn.1 hm')
      unfold nIn at h0
      rw [if_pos hi, List.length_cons, h0]; omega
    · rw [if_neg hi]; exact ih
/-- How many leaves are left. -/
theorem count_can : ∀ (f : Nat) (x : Nd) (ms : List Int), okH x → x.d = 17 - (f : Int) → ms.Nodup → countL (canL ci f x ms) = manyI x.d - (nIn x ms : Int)
  | 0, x, ms, h, hd, hn => by
    have hm : manyI x.d = 1 := by rw [show x.d = 17 by omega]; rfl
    unfold canL
    by_cases ha : ms.any (inI x) = true
    · have h1 := nIn_pos ha
      have h2 := nIn_leaf (x := x) (by omega) hn
      rw [if_pos ha, hm, countL]; omega
    · rw [if_neg ha, nIn_zero ha, countL, countL]; omega
  | f + 1, x, ms, h, hd, hn => by
    unfold canL
    by_cases ha : ms.any (inI x) = true
    · obtain ⟨h1, _, h3⟩ := ndL_ok (ci := ci) h (by omega)
      obtain ⟨h2, _⟩ := ndR_ok (ci := ci) h (by omega)
      have e1 : (ndL ci x).d = x.d + 1 := rfl
      have e2 : (ndR ci x).d = x.d + 1 := rfl
      have il := count_can f _ ms h1 (by simp only [ndL]; omega) hn
      have ir := count_can f _ ms h2 (by simp only [ndR]; omega) hn
      rw [if_pos ha, countL_append, il, ir, nIn_kids (ci := ci) ms h (by omega), e1, e2]; omega
    · rw [if_neg ha, nIn_zero ha, countL, countL]; omega
theorem length_can : ∀ (f : Nat) (x : Nd) (ms : List Int), okH x → x.d = 17 - (f : Int) → (canL ci f x ms).length ≤ nIn x ms * f + 1
  | 0, x, ms, h, hd => by unfold canL; split <;> simp
  | f + 1, x, ms, h, hd => by
    unfold canL
    by_cases ha : ms.any (inI x) = true
    · have il := length_can f _ ms (ndL_ok (ci := ci) h (by omega)).1 (by simp only [ndL]; omega)
      have ir := length_can f _ ms (ndR_ok (ci := ci) h (by omega)).1 (by simp only [ndR]; omega)
      have hp := nIn_pos ha
      rw [if_pos ha, List.length_append]
      rw [nIn_kids (ci := ci) ms h (by omega)] at hp ⊢
      rw [Nat.mul_succ, Nat.add_mul]; omega
    · rw [if_neg ha]; simp
/-- One tree is punctured: what becomes of it, and of another one beside it. -/
theorem pun_one {w w' : World} {g N : Nat} {l : List Nd} {m : Int} {F : Nat → Prop} (h : ∃ F', Tr ci w' g (punL ci l m) F' ∧ But F w w' ∧ ∀ k, F' k → F k ∨ w.heap.size ≤ k) (hF : ∀ q, F q → N ≤ q) (hN : N ≤ w.heap.size) :
    ∃ F', Tr ci w' g (punL ci l m) F' ∧ (∀ q, F' q → N ≤ q) ∧ Below N w w' := by
  obtain ⟨F', h1, h2, h3⟩ := h
  exact ⟨F', h1, fun q hq => by rcases h3 q hq with h | h; exact hF q h; omega, but_belowF h2 hF hN⟩
theorem pun_two {w w' : World} {g g2 N : Nat} {l l2 : List Nd} {m : Int} {F G : Nat → Prop} (h : ∃ F', Tr ci w' g (punL ci l m) F' ∧ But F w w' ∧ ∀ k, F' k → F k ∨ w.heap.size ≤ k) (hB : Tr ci w g2 l2 G) (hd : ∀ q, F q → G q → False) (hF : ∀ q, F q → N ≤ q) (hN : N ≤ w.heap.size) :
    ∃ F', Tr ci w' g (punL ci l m) F' ∧ Tr ci w' g2 l2 G ∧ (∀ q, F' q → G q → False) ∧ (∀ q, F' q → N ≤ q) ∧ Below N w w' := by
  obtain ⟨F', h1, h2, h3⟩ := h
  refine ⟨F', h1, hB.but h2 (fun q hG hFq => hd q hFq hG), fun q hq hG => ?_, fun q hq => by rcases h3 q hq with h | h; exact hF q h; omega, but_belowF h2 hF hN⟩
  rcases h3 q hq with h | h
  · exact hd q h hG
  · have := hB.lt q hG; omega
end Go.Proofs.Ytippbjpodnnhiaa.Kg
/-
  The cipher that stands where layer 6 takes no nil, as a cipher that a tree of keys is made of.
-/
namespace Go.Proofs.Ytippbjpodnnhiaa.Kc
open Go.RowKit Kg
attribute [local go_sem ↓] Go.wp_at_zero Go.wp_at_succ
def noL (_ : List UInt8) : List UInt8 := List.replicate 32 0
theorem noL_length (k : List UInt8) : (noL k).length = 32 := by simp [noL]
set_option maxRecDepth 100000 in
set_option maxHeartbeats 1600000 in
theorem nos_any (X : Array Value) (k : List UInt8) (_hk : k.length = 32) (w : World) :
    Calls Try.prog 87 #[.agg X, .agg (bva k)] w (RetB (.tuple #[.agg (bva (noL k)), .agg (bva (noL k))]) w) := by
  obtain ⟨z, hz0⟩ : ∃ z : List UInt8, z = noL k := ⟨_, rfl⟩
  obtain ⟨b1, b2, b3, b4, hb⟩ := four_blocks w (.cells X 96) (.cells (bva k) 43) (.cells (bva z) 43) (.cells (bva z) 43)
  have hz : ∀ W, (zeroValue 43).run Try.prog W = .ok (.agg (bva z)) W := fun _ => by rw [hz0]; kernel_rfl
  have Z3 : Hid (z.length = 32) := by show _ = _; rw [hz0]; rfl
  have HKZ : Hid ((Try.prog.info? 43).map (·.size) = some (bva z).size) := by rw [bva_size, Z3.out]; exact info_keyL
  have HZ := Lib.hid hz0
  have HS := Lib.hid (show _ ∧ _ ∧ _ from ⟨(show Blk _ _ _ _ from b3), (show Blk _ _ _ _ from b4), hb.drew⟩)
  clear hz0 b1 b2 b3 b4 hb
  go_enter Try.func87, Try.ntmps87
  go_wp2_with fail
  refine wp_region_held_drew (S := fun w' => Blk w' (w.heap.size + 1 + 1) (bva z) 43 ∧ Blk w' (w.heap.size + 1 + 1 + 1) (bva z) 43 ∧ Below w.heap.size w w') (by kernel_rfl) HS.out (fun hh => ?_)
  have HH := Lib.hid hh
  clear hh
  refine wpAnyH_take (i := 0) (v := .agg (bva z)) rfl (by kernel_rfl) (by kernel_rfl) (by kernel_rfl) (fun _ _ _ h => h) (Or.inl ⟨by rfl, fun w' hw' => ?q0⟩) HH.out ?_
  case q0 => exact exec_load 43 (.tmp 4) rfl rfl hw'.1 Try.underlying43 rfl HKZ.out
  refine wpAnyH_take (i := 1) (v := .agg (bva z)) rfl (by kernel_rfl) (by kernel_rfl) (by kernel_rfl) (fun _ _ _ h => h) (Or.inl ⟨by rfl, fun w' hw' => ?q1⟩) HH.out ?_
  case q1 => exact exec_load 43 (.tmp 5) rfl rfl hw'.2.1 Try.underlying43 rfl HKZ.out
  refine wpAnyH_ready (rs := [2]) (by kernel_rfl) (by simp) (AllReadyH.cons rfl (fun K hK => ?_) AllReadyH.nil)
  rw [if_pos (by rfl)]
  refine wp_store_row 43 (.tmp 4) (.tmp 6) rfl (w.heap.size + 1 + 1) (bva z) rfl rfl 43 (bva z) HH.out.1 HKZ.out (by simp only [bva_size, Z3.out]) (bva_one _) ?_
  generalize hwx : World.setRow _ _ _ = wx
  have u1 : Blk wx (w.heap.size + 1 + 1) (bva z) 43 := by rw [← hwx]; exact setRow_heap _ _ _ _ _ _ HH.out.1
  have u2 : Blk wx (w.heap.size + 1 + 1 + 1) (bva z) 43 := by rw [← hwx]; exact blk_row HH.out.2.1 (by omega)
  have ub : Below w.heap.size w wx := by rw [← hwx]; exact below_setRow HH.out.2.2 (by omega) _
  refine hK.out _ _ ⟨u1, u2, ub⟩ (fun _ => ?_)
  have U := Lib.hid (show _ ∧ _ ∧ _ from ⟨u1, u2, ub⟩)
  clear u1 u2 ub hK K HH HS hwx
  refine wpAnyH_ready (rs := [3]) (by kernel_rfl) (by simp) (AllReadyH.cons rfl (fun K hK => ?_) AllReadyH.nil)
  rw [if_pos (by rfl)]
  refine wp_store_row 43 (.tmp 5) (.tmp 7) rfl (w.heap.size + 1 + 1 + 1) (bva z) rfl rfl 43 (bva z) U.out.2.1 HKZ.out (by simp only [bva_size, Z3.out]) (bva_one _) ?_
  generalize hwy : World.setRow _ _ _ = wy
  have u1 : Blk wy (w.heap.size + 1 + 1) (bva z) 43 := by rw [← hwy]; exact blk_row U.out.1 (by omega)
  have u2 : Blk wy (w.heap.size + 1 + 1 + 1) (bva z) 43 := by rw [← hwy]; exact setRow_heap _ _ _ _ _ _ U.out.2.1
  have ub : Below w.heap.size w wy := by rw [← hwy]; exact below_setRow U.out.2.2 (by omega) _
  refine hK.out _ _ ⟨u1, u2, ub⟩ (fun _ => ?_)
  have V1 := Lib.hid u1
  have V2 := Lib.hid u2
  have VB := Lib.hid ub
  clear u1 u2 ub hK K U hwy
  refine wpAnyH_done (by kernel_rfl) ?_ _
  go_wp2
  exact bodyPost_ret (v := .tuple #[.agg (bva z), .agg (bva z)]) (results_cells2 Try.results87 _ _ (w.heap.size + 1 + 1) (w.heap.size + 1 + 1 + 1) 43 43 (bva z) (bva z) _ rfl rfl V1.out V2.out Try.underlying43 rfl HKZ.out HKZ.out) rfl ⟨by rw [HZ.out], VB.out⟩
theorem no_method (x : Array Value) (fuel : Nat) (W : World) : (method (fuel + 1) 96 (.agg x) "Split").run Try.prog W = .ok (87, .agg x) W := by kernel_rfl
theorem no_calls (args : Array Value) (W : World) : (callFunc 87 args).run Try.prog W = .ok (.enter 87 args) W := by kernel_rfl
/-- The cipher that nothing is split or hidden by. -/
def noC : Ciph := ⟨96, .agg #[], 87, noL, noL, noL_length, noL_length, fun fuel W => no_method #[] fuel W, fun args W => no_calls args W, fun k hk W => nos_any #[] k hk W⟩
end Go.Proofs.Ytippbjpodnnhiaa.Kc
/-
  The contracts of slices.Grow at no bytes and of slices.Concat at rows of bytes: a new row of all of them.
-/
namespace Go.Proofs.Ytippbjpodnnhiaa.Kc
open Go.RowKit
attribute [local go_sem ↓] Go.wp_at_zero Go.wp_at_succ
/-- It returns a new row without bytes, that has room. -/
def RetGrow (w : World) (e : Ending) (w' : World) : Prop :=
  ∃ A c, e = .returned (.slice A 0 c) ∧ w'.ownsRow w.heap.size 5 1 (.slice A 0 c) 0 [] ∧ Below w.heap.size w w'
set_option maxRecDepth 100000 in
set_option maxHeartbeats 1600000 in
theorem grow_any (m : Nat) (w : World) (hm : m ≤ 10000000) : Calls Try.prog 57 #[.slice none 0 0, .int .i64 (m : Nat)] w (RetGrow w) := by
  rcases Nat.eq_zero_or_pos m with rfl | h0
  · go_enter Try.func57, Try.ntmps57
    go_wp2_with fail
    go_ret
    exact ⟨none, 0, rfl, World.ownsRow_nil _ _ _ _, Below.refl _ _⟩
  · have m0 : (m : Int) > 0 := by omega
    have m1 : IntKind.i64.wrap (m : Int) = (m : Int) := IntWalk.i64_in _ (by omega)
    obtain ⟨ie, hie, hz0, hz1, hz2⟩ := info_parts Wi.bytesElt.info
    obtain ⟨G, hG⟩ : ∃ G, G = grownCap w m 0 5 := ⟨_, rfl⟩
    have hGn : m ≤ G := by rw [hG]; exact grownCap_ge w _ _ _
    have hGm : G ≤ 9223372036854775807 := by
      have := grownCap_le_maxLen w m 0 5 (by unfold maxLen; omega)
      rw [← hG] at this
      unfold maxLen at this
      omega
    obtain ⟨R0, hR0⟩ : ∃ R0 : Array Value, R0 = #[] ++ Builtin.zeroCells (Value.int IntKind.u8 0).cells m ++ Builtin.zeroCells (Value.int IntKind.u8 0).cells (G - m) := ⟨_, rfl⟩
    have hR0s : R0.size = G * 1 := by
      rw [hR0]
      simp only [Array.size_append, size_zeroCells]
      show 0 + m * 1 + (G - m) * 1 = G * 1
      omega
    obtain ⟨N, hN⟩ : ∃ N, N = w.heap.size := ⟨_, rfl⟩
    have hrz : ∀ ty, (Builtin.append_ #[24, 3] ty #[.slice none 0 0, .int .i64 (m : Int)]).run Try.prog w = .ok (.slice (some ⟨N, 0, none⟩) m G) (w.drew.alloc (.cells R0 5)) := fun ty => by
      have hold : (Builtin.firstCells ie.size 0 (.slice none 0 0)).run Try.prog w.drew = .ok ([] : List Value).toArray w.drew := by
        rw [hz1]; simp [Builtin.firstCells]
      have hh := Lib.run_append_grow_zeros (P := Try.prog) w 24 3 ty 5 ie _ .i64 .i64 Try.underlying24 Try.underlying3 hie hz0 none 0 0 [] hold m h0 (by rw [hz1]; omega) (by omega) (by omega) (by rw [hz2]; omega) (by rw [hz2, show 0 + m = m by omega]; exact growslice_fits h0 (by omega))
      rw [show 0 + m = m by omega, ← hG] at hh
      rw [hN, hR0]
      exact hh
    obtain ⟨W1, hW1⟩ : ∃ W1, W1 = w.drew.alloc (.cells R0 5) := ⟨_, rfl⟩
    have g1 : W1.heap[N]? = some (.cells R0 5 (0, 0)) := by rw [hW1, hN]; exact heap_alloc_new w.drew _
    have b1 : Below w.heap.size w W1 := by rw [hW1]; exact (Below.refl _ w).drew.alloc (Nat.le_refl _) _
    rw [← hW1] at hrz
    have HRZ := Lib.hid hrz
    have HO := Lib.hid (show W1.ownsRow w.heap.size 5 1 (.slice (some ⟨N, 0, none⟩) 0 G) 0 [] from ⟨rfl, .inr ⟨N, G, R0, rfl, by omega, g1, Nat.zero_le _, by unfold maxLen; omega, hR0s, by simp⟩⟩)
    have HB := Lib.hid b1
    have hg0 : (0 : Int) ≤ (G : Int) := by omega
    clear hrz hG hR0 hR0s hN hW1 g1 b1 hie hz0 hz1 hz2
    go_enter Try.func57, Try.ntmps57
    go_wp2_with (at_builtin
                 refine wpList_appR _ rfl (.tmp 20) (.tmp 21) 24 3 rfl (.slice none 0 0) (.int .i64 (m : Int)) rfl rfl (HRZ.out _) ?_)
    go_ret
    exact ⟨_, _, rfl, HO.out, HB.out⟩
theorem flat_take (ls : List (List UInt8)) {k : Nat} (h : k < ls.length) : (ls.take (k + 1)).flatten = (ls.take k).flatten ++ ls[k] := by
  rw [List.take_succ_eq_append_getElem h, List.flatten_append, List.flatten_cons, List.flatten_nil, List.append_nil]
theorem flat_le (ls : List (List UInt8)) (k : Nat) : (ls.take k).flatten.length ≤ ls.flatten.length := by
  have e : ls.flatten = (ls.take k).flatten ++ (ls.drop k).flatten := by rw [← List.flatten_append, List.take_append_drop]
  rw [e, List.length_append]; omega
set_option maxRecDepth 100000 in
set_option maxHeartbeats 1600000 in
theorem concat_any {B : Nat} (A : Option Addr) (n c : Nat) (ls : List (List UInt8)) (w : World) (hl : ls.length = n) (hB : B ≤ w.heap.size) (hr : RdB B w A ls) (hn : n ≤ 1000000) (hf : ls.flatten.length ≤ 1000000) :
    Calls Try.prog 44 #[.slice A n c] w (RetRow 5 (bv ls.flatten) w) := by
  have HL := Lib.hid hl
  have HR := Lib.hid (hr.more hB)
  clear hr hB
  go_enter Try.func44, Try.ntmps44
  go_wp2_with fail
  go_loopw [3, 5, 11] (fun o _ i wr => ∃ k s : Nat, k ≤ n ∧ i = .int .i64 k ∧ o = .int .i64 (s : Nat) ∧ Hid (s = (ls.take k).flatten.length) ∧ wr = w) (fun _ _ i _ => n - (intOf i).toNat)
  case atStart => exact ⟨0, 0, by omega, rfl, rfl, rfl, rfl⟩
  case round =>
    obtain ⟨k, s, hk, rfl, rfl, HS, hw⟩ := hrel
    have hw' := hw.symm
    clear hw
    subst hw'
    by_cases hlt : k < n
    · have hkl : k < ls.length := by omega
      obtain ⟨ad, A', c', hA, _, hcell, _, _, _⟩ := HR.out.at_ hkl
      subst hA
      obtain ⟨q, hq⟩ : ∃ q, q = ls[k].length := ⟨_, rfl⟩
      have hfl := flat_take ls hkl
      have hle := flat_le ls (k + 1)
      rw [hfl, List.length_append, ← HS.out, ← hq] at hle
      have HQ := Lib.hid (show s + q = (ls.take (k + 1)).flatten.length by rw [hfl, List.length_append, ← HS.out, ← hq])
      rw [← hq] at hcell
      have k0 : (0 : Int) ≤ (k : Int) := by omega
      have k1 : (k : Int) < (n : Int) := by omega
      have e1 : IntKind.i64.wrap ((s : Int) + (q : Int)) = ((s + q : Nat) : Int) := by rw [IntWalk.i64_in _ (by omega)]; omega
      have e2 : ¬ ((s + q : Nat) : Int) < 0 := by omega
      have ek : IntKind.i64.wrap ((k : Int) + 1) = ((k + 1 : Nat) : Int) := by rw [IntWalk.i64_in _ (by omega)]; omega
      clear hfl hq
      go_wp2_with fail
      go_roundw
      case rel => exact ⟨k + 1, s + q, by omega, by go_num, by go_num, HQ, by first | rfl | trivial⟩
      case measure => simp [intOf]; omega
    · obtain rfl : n = k := by omega
      have hs : s = ls.flatten.length := by rw [HS.out, List.take_of_length_le (by omega)]
      have HSF := Lib.hid hs
      have hs2 : s ≤ 10000000 := by omega
      clear hs HS
      go_wp2_with fail
      refine (grow_any s w hs2).mono ?_
      rintro e w2 ⟨A1, c1, rfl, ho, hb⟩
      have HO := Lib.hid ho
      have HB := Lib.hid hb
      clear ho hb
      go_wp2_with fail
      go_loopw [6, 8, 27] (fun o _ i wx => ∃ k m A2 c2, k ≤ n ∧ i = .int .i64 (k : Nat) ∧ o = .slice A2 m c2 ∧ Hid (m = (ls.take k).flatten.length) ∧ wx.ownsRow w.heap.size 5 1 (.slice A2 m c2) m (bv (ls.take k).flatten) ∧ Below w.heap.size w wx) (fun _ _ i _ => n - (intOf i).toNat)
      case atStart => exact ⟨0, 0, A1, c1, by omega, rfl, rfl, rfl, HO.out, HB.out⟩
      case round =>
        clear HO HB
        obtain ⟨k, m, A2, c2, hk, rfl, rfl, HM, ho, hb⟩ := hrel
        by_cases hlt : k < n
        · have hkl : k < ls.length := by omega
          obtain ⟨ad, A', c', hA, _, hcell, _, _, hrow⟩ := (HR.out.below hb).at_ hkl
          subst hA
          obtain ⟨q, hq⟩ : ∃ q, q = ls[k].length := ⟨_, rfl⟩
          obtain ⟨y, hy⟩ : ∃ y, y = ls[k] := ⟨_, rfl⟩
          have hfl := flat_take ls hkl
          have hle := flat_le ls (k + 1)
          rw [hfl, List.length_append, ← HM.out, ← hq] at hle
          rw [← hy] at hfl hrow
          have HQ := Lib.hid (show m + q = (ls.take (k + 1)).flatten.length by rw [hfl, List.length_append, ← HM.out, hq, hy])
          rw [← hq] at hcell
          have hyl : y.length = q := by rw [hq, hy]
          have HFL := Lib.hid hfl
          have HW := Lib.hid hrow
          have HO := Lib.hid ho
          have HB := Lib.hid hb
          have hmq : m + q ≤ 1000000 := by omega
          have k0 : (0 : Int) ≤ (k : Int) := by omega
          have k1 : (k : Int) < (n : Int) := by omega
          have ek : IntKind.i64.wrap ((k : Int) + 1) = ((k + 1 : Nat) : Int) := by rw [IntWalk.i64_in _ (by omega)]; omega
          clear hfl hq hrow ho hb hy
          go_wp2_with (at_builtin
                       refine wpList_app _ rfl (.tmp 31) (.tmp 32) _ rfl Wi.bytesElt (base := w.heap.size) (v := .slice A2 m c2) rfl HO.out (m := q) rfl HW.out (by rw [bv_length, hyl]) (bv_one _) ?_ ?_ ?_
                       · omega
                       · exact HB.out.size
                       intro A3 c3 w3 ho3 hg3 _
                       have hb3 := app_below HB.out HO.out hg3 (Nat.le_refl _) HB.out.size
                       have O3 := Lib.hid ho3
                       have B3 := Lib.hid hb3
                       clear ho3 hg3 hb3 HO HB)
          go_roundw
          case rel => exact ⟨k + 1, m + q, A3, c3, by omega, by go_num, rfl, HQ, own_eq O3.out rfl (by rw [HFL.out, bv_append]), B3.out⟩
          case measure => simp [intOf]; omega
        · obtain rfl : n = k := by omega
          rw [List.take_of_length_le (by omega)] at ho
          have HO := Lib.hid ho
          have HB := Lib.hid hb
          clear ho hb
          go_wp2_with fail
          go_ret
          exact RetRow.mk rfl HO.out HB.out
end Go.Proofs.Ytippbjpodnnhiaa.Kc
/-
  The contract of wire's Put, in a namespace of its own: a number in so many bytes, the highest first, in new memory.
-/
namespace Go.Proofs.Ytippbjpodnnhiaa.Wi
open Go.RowKit


/-- n in size bytes, the highest first. -/
def putL (n size : Nat) : List UInt8 := (List.range size).map fun i => UInt8.ofNat (n / 2 ^ (8 * (size - 1 - i)) % 256)

theorem putL_length (n s : Nat) : (putL n s).length = s := by simp [putL]
theorem putL_get {n s k : Nat} (h : k < s) : (putL n s)[k]? = some (UInt8.ofNat (n / 2 ^ (8 * (s - 1 - k)) % 256)) := by
  simp [putL, h]
theorem put_made (n s : Nat) : (madeCells (Value.int IntKind.u8 0).cells (s * 1)).toList = bv ((putL n s).take 0 ++ List.replicate (s - 0) 0) := by
  have e : (Value.int IntKind.u8 0).cells = #[Value.int IntKind.u8 0] := rfl
  rw [e, toList_madeCells_one, List.take_zero, List.nil_append, bv_replicate]
  simp
theorem ofNat_byte (x : Nat) : ((UInt8.ofNat (x % 256)).toNat : Int) = ((x % 256 : Nat) : Int) := by simp
theorem put_set {n s k : Nat} (h : k < s) : (bv ((putL n s).take k ++ List.replicate (s - k) 0)).set k (.int .u8 ((n : Int) / 2 ^ (8 * (s - 1 - k)) % 256)) = bv ((putL n s).take (k + 1) ++ List.replicate (s - (k + 1)) 0) := by
  have hl : ((putL n s).take k).length = k := by simp [putL_length]; omega
  have e1 : List.replicate (s - k) (0 : UInt8) = 0 :: List.replicate (s - (k + 1)) 0 := by
    rw [← List.replicate_succ]; congr 1; omega
  have e2 : (putL n s).take (k + 1) = (putL n s).take k ++ [UInt8.ofNat (n / 2 ^ (8 * (s - 1 - k)) % 256)] := by
    rw [List.take_add_one, putL_get h]; rfl
  have e3 : (Value.int .u8 ((n : Int) / 2 ^ (8 * (s - 1 - k)) % 256)) = .int .u8 ((UInt8.ofNat (n / 2 ^ (8 * (s - 1 - k)) % 256)).toNat : Int) := by
    rw [ofNat_byte, Int.natCast_emod, Int.natCast_ediv, Int.natCast_pow]; rfl
  rw [e1, e2, e3, bv_append, List.set_append_right _ _ (by rw [bv_length]; omega), bv_length, hl, Nat.sub_self]
  simp [bv]
theorem put_cell {n s k : Nat} (h : k < s) : ∃ v, (bv ((putL n s).take k ++ List.replicate (s - k) 0))[k]? = some v := by
  have hl : k < ((putL n s).take k ++ List.replicate (s - k) (0 : UInt8)).length := by simp [putL_length]; omega
  exact ⟨_, bv_get hl⟩
theorem put_done (n s : Nat) : bv ((putL n s).take s ++ List.replicate (s - s) 0) = bv (putL n s) := by
  rw [List.take_of_length_le (by rw [putL_length]; exact Nat.le_refl _)]; simp

set_option maxRecDepth 100000 in
set_option maxHeartbeats 400000 in
theorem wput_in (n size : Int) (w : World) (h0 : 0 ≤ n) (h1 : n < 18446744073709551616) (hs0 : 1 ≤ size) (hs8 : size ≤ 8) :
    Calls Try.prog 28 #[.int .u64 n, .int .i64 size] w (RetRow 5 (bv (putL n.toNat size.toNat)) w) := by
  obtain ⟨s, rfl⟩ := Int.eq_ofNat_of_zero_le (by omega : 0 ≤ size)
  obtain ⟨N, rfl⟩ := Int.eq_ofNat_of_zero_le h0
  obtain ⟨i0, hi, hz0, hz1, hz2⟩ := info_parts info_byte
  rw [Int.toNat_natCast, Int.toNat_natCast]
  clear h1
  go_enter Try.func28, Try.ntmps28
  go_wp2_with (at_make; refine wpList_make_full _ rfl _ _ _ rfl w.heap.size 5 i0 _ 1 Try.underlying24 hi hz0 hz1 .i64 .i64 _ _ s rfl rfl rfl rfl ?_ ?_ ?_ ?_; (rw [hz2]; omega); (unfold maxLen; omega); (exact Nat.le_refl _); intro w1 hown hg)
  go_loopw [6, 17] (fun u i wr => ∃ k : Nat, k ≤ s ∧ i = .int .i64 k ∧ Below w.heap.size w wr ∧ wr.ownsRow w.heap.size 5 1 (.slice (some ⟨w.heap.size, 0, none⟩) s s) s (bv ((putL N s).take k ++ List.replicate (s - k) 0))) (fun _ i _ => s - (intOf i).toNat)
  case atStart => exact ⟨0, Nat.zero_le _, rfl, (Below.refl _ _).grown hg (Nat.le_refl _) (fun _ h => by cases h), by rw [← put_made]; exact hown⟩
  case round =>
    obtain ⟨k, hk, rfl, hb, how⟩ := hrel
    by_cases hlt : k < s
    · have hc := how.cellAt k (by omega)
      have hf := how.frozenAt k
      obtain ⟨v, hv⟩ := put_cell (n := N) hlt
      rw [hv] at hc
      have HS := Lib.hid (how.stored k (.int .u8 ((N : Int) / 2 ^ (8 * (s - 1 - k)) % 256))).1
      clear hv
      go_wp2
      go_roundw
      case rel => exact ⟨k + 1, by omega, by go_num, hb.setCell (Nat.le_refl _) _, by rw [← put_set hlt]; exact HS.out⟩
      case measure => simp [intOf]; omega
    · obtain rfl : k = s := by omega
      rw [put_done] at how
      go_wp2
      go_ret
      exact RetRow.mk rfl how hb

set_option maxRecDepth 100000 in
set_option maxHeartbeats 400000 in
theorem wput_out (n size : Int) (w : World) (hs : size < 1 ∨ 8 < size) :
    Calls Try.prog 28 #[.int .u64 n, .int .i64 size] w fun e w' => e = .returned (.slice none 0 0) ∧ w = w' := by
  rcases hs with hs | hs
  · go_enter Try.func28, Try.ntmps28
    go_wp2
    go_ret
    exact ⟨rfl, rfl⟩
  · have hs' : ¬ size < 1 := by omega
    go_enter Try.func28, Try.ntmps28
    go_wp2
    go_ret
    exact ⟨rfl, rfl⟩


/-- n told, whatever the size. -/
def putI (n size : Int) : List UInt8 := if 1 ≤ size ∧ size ≤ 8 then putL n.toNat size.toNat else []

set_option maxRecDepth 100000 in
set_option maxHeartbeats 400000 in
theorem wput_any (n size : Int) (w : World) (h0 : 0 ≤ n) (h1 : n < 18446744073709551616) :
    Calls Try.prog 28 #[.int .u64 n, .int .i64 size] w (RetRow 5 (bv (putI n size)) w) := by
  by_cases h : 1 ≤ size ∧ size ≤ 8
  · rw [putI, if_pos h]
    exact wput_in n size w h0 h1 h.1 h.2
  · rw [putI, if_neg h]
    refine (wput_out n size w (by omega)).mono ?_
    rintro e w' ⟨rfl, rfl⟩
    exact RetRow.mk rfl (World.ownsRow_nil _ _ _ _) (Below.refl _ _)

end Go.Proofs.Ytippbjpodnnhiaa.Wi
/-
  The contract of the code's Encode: the bytes of nodes; or that they may not be held; or that they are too many.
-/
namespace Go.Proofs.Ytippbjpodnnhiaa.Kc
open Go.RowKit Kg
attribute [local go_sem ↓] Go.wp_at_zero Go.wp_at_succ
set_option maxRecDepth 100000 in
set_option maxHeartbeats 1600000 in
theorem maybe_any {B : Nat} (A : Option Addr) (n c : Nat) (l : List Nd) (w : World) (hl : l.length = n) (h3 : ∀ x ∈ l, x.s.length = 32) (ha : ∀ x ∈ l, 0 ≤ x.a) (hB : B ≤ w.heap.size) (hr : Rd B w A (nvs l)) (hn : n ≤ 1000000) :
    Calls Try.prog 27 #[.slice A n c] w (fun e w' => ∃ b, e = .returned (.bool b) ∧ (b = true ↔ okS 0 l) ∧ Below w.heap.size w w') := by
  have HF := from_any (ci := noC) A n c l w hl h3 ha hB hr hn
  have hb : ∀ W, (Instr.build 96 #[]).run Try.prog W = .ok (.agg #[]) W := fun W => by kernel_rfl
  clear hl h3 ha hB hr hn
  go_enter Try.func27, Try.ntmps27
  go_wp2_with fail
  refine HF.mono ?_
  rintro e w2 ⟨⟨hok, g, F, rfl, _, _⟩ | ⟨hno, rfl⟩, bw⟩
  · clear HF
    go_wp2_with fail
    go_ret
    exact ⟨true, rfl, by simp [hok], bw⟩
  · clear HF
    go_wp2_with fail
    go_ret
    exact ⟨false, rfl, by simp [hno], bw⟩
theorem rdB_three {W : World} (t : TypeId) {v1 v2 v3 : Value} {l1 l2 l3 : List UInt8} (h1 : IsB W.heap.size W v1 l1) (h2 : IsB W.heap.size W v2 l2) (h3 : IsB W.heap.size W v3 l3) :
    RdB (W.heap.size + 1) (W.alloc (.cells #[v1, v2, v3] t)) (some ⟨W.heap.size, 0, none⟩) [l1, l2, l3] := by
  have hb : Below W.heap.size W (W.alloc (.cells #[v1, v2, v3] t)) := (Below.refl _ _).alloc (Nat.le_refl _) _
  refine ⟨[v1, v2, v3], rfl, Rd.lit W t [v1, v2, v3], ?_⟩
  intro k v l hv hl
  match k with
  | 0 => cases hv; cases hl; exact (h1.below hb).more (by omega)
  | 1 => cases hv; cases hl; exact (h2.below hb).more (by omega)
  | 2 => cases hv; cases hl; exact (h3.below hb).more (by omega)
  | k + 3 => cases hv
theorem putL_one {d : Int} (h0 : 0 ≤ d) (h1 : d < 256) : Wi.putL d.toNat 1 = [byteI d] := by
  have : d.toNat % 256 = d.toNat := by omega
  simp [Wi.putL, byteI, List.range_succ, this]
theorem putL_three {a : Int} (h0 : 0 ≤ a) (h1 : a < 16777216) : Wi.putL a.toNat 3 = [byteI (a / 65536), byteI (a / 256 % 256), byteI (a % 256)] := by
  have e1 : a.toNat / 65536 % 256 = (a / 65536).toNat := by omega
  have e2 : a.toNat / 256 % 256 = (a / 256 % 256).toNat := by omega
  have e3 : a.toNat % 256 = (a % 256).toNat := by omega
  simp [Wi.putL, byteI, List.range_succ, e1, e2, e3]
theorem putL_two {n : Nat} (h : n ≤ 65535) : Wi.putL n 2 = hdrY n := by
  have e1 : n / 256 % 256 = ((n : Int) / 256).toNat := by omega
  have e2 : n % 256 = ((n : Int) % 256).toNat := by omega
  simp [Wi.putL, hdrY, byteI, List.range_succ, e1, e2]
set_option maxRecDepth 100000 in
set_option maxHeartbeats 1600000 in
theorem nodebytes_any (x : Nd) (hx : fits x) (w : World) : Calls Try.prog 29 #[.agg (ndC x)] w (RetRow 5 (bv (nodeY x)) w) := by
  obtain ⟨D0, D1', E0, E1', hs⟩ := hx
  have D1 : x.d < 18446744073709551616 := by omega
  have E1 : x.a < 18446744073709551616 := by omega
  have q0 : IntKind.u64.wrap x.d = x.d := IntWalk.u64_in _ (by omega)
  have S0 := Lib.hid (show Blk (w.alloc (.cells (ndC x) 61)).drew w.heap.size (ndC x) 61 ∧ Below w.heap.size w (w.alloc (.cells (ndC x) 61)).drew from ⟨heap_alloc_new _ _, ((Below.refl _ w).alloc (Nat.le_refl _) _).drew⟩)
  have HS := Lib.hid hs
  clear hs
  go_enter Try.func29, Try.ntmps29
  go_wp2_with fail
  refine wp_region_held_drew (S := fun w' => Blk w' w.heap.size (ndC x) 61 ∧ Below w.heap.size w w') (by kernel_rfl) S0.out (fun hh => ?_)
  have HH := Lib.hid hh
  clear hh
  refine wpAnyH_take (i := 0) (v := ?va0) rfl (by kernel_rfl) (by kernel_rfl) (by kernel_rfl) (fun _ _ _ h => h) (Or.inl ⟨by rfl, fun w' _ => ?ya0⟩) HH.out ?_
  case ya0 => (go_simp; try with_reducible rfl)
  refine wpAnyH_take (i := 1) (v := .int .i64 x.d) rfl (by kernel_rfl) (by kernel_rfl) (by kernel_rfl) (fun _ _ _ h => h) (Or.inl ⟨by rfl, fun w' hw' => ?ya1⟩) HH.out ?_
  case ya1 => (have c0 := ndt_d hw'.1; go_simp; try with_reducible rfl)
  try simp only [List.getElem_toArray, List.getElem_cons_succ, List.getElem_cons_zero, Act.put, List.setIfInBounds_toArray, List.set_cons_zero, List.set_cons_succ]
  refine wpAnyH_take (i := 2) (v := ?va2) rfl (by kernel_rfl) (by kernel_rfl) (by kernel_rfl) (fun _ _ _ h => h) (Or.inl ⟨by rfl, fun w' _ => ?ya2⟩) HH.out ?_
  case ya2 => (go_simp; try with_reducible rfl)
  refine wpAnyH_take (i := 4) (v := ?va4) rfl (by kernel_rfl) (by kernel_rfl) (by kernel_rfl) (fun _ _ _ h => h) (Or.inl ⟨by rfl, fun w' _ => ?ya4⟩) HH.out ?_
  case ya4 => (go_simp; try with_reducible rfl)
  refine wpAnyH_take (i := 5) (v := .int .u64 x.a) rfl (by kernel_rfl) (by kernel_rfl) (by kernel_rfl) (fun _ _ _ h => h) (Or.inl ⟨by rfl, fun w' hw' => ?ya5⟩) HH.out ?_
  case ya5 => (have c0 := ndt_a hw'.1; go_simp; try with_reducible rfl)
  try simp only [List.getElem_toArray, List.getElem_cons_succ, List.getElem_cons_zero, Act.put, List.setIfInBounds_toArray, List.set_cons_zero, List.set_cons_succ]
  refine wpAnyH_ready (rs := [3]) (by kernel_rfl) (by simp) (AllReadyH.cons rfl (fun K hK => ?_) AllReadyH.nil)
  go_simp
  refine (Wi.wput_in x.d 1 _ D0 D1 (by omega) (by omega)).mono ?_
  rintro e w1 ⟨A1, n1, c1, rfl, ho, bw⟩
  have O1 := Lib.hid (own_more ho HH.out.2.size)
  go_simp
  refine hK.out _ _ ⟨HH.out.1.below bw, HH.out.2.trans (bw.mono HH.out.2.size)⟩ (fun hh => ?_)
  have HH' := Lib.hid hh
  clear hh hK K HH ho bw
  have HH := Lib.hid HH'.out
  clear HH'
  try simp only [List.getElem_toArray, List.getElem_cons_succ, List.getElem_cons_zero, Act.put, List.setIfInBounds_toArray, List.set_cons_zero, List.set_cons_succ]
  refine wpAnyH_ready (rs := [6]) (by kernel_rfl) (by simp) (AllReadyH.cons rfl (fun K hK => ?_) AllReadyH.nil)
  go_simp
  refine (Wi.wput_in x.a 3 _ E0 E1 (by omega) (by omega)).mono ?_
  rintro e w2 ⟨A2, n2, c2, rfl, ho, bw⟩
  have O2 := Lib.hid (own_more ho HH.out.2.size)
  have P1 := Lib.hid (own_below O1.out bw)
  clear O1
  go_simp
  refine hK.out _ _ ⟨HH.out.1.below bw, HH.out.2.trans (bw.mono HH.out.2.size)⟩ (fun hh => ?_)
  have HH' := Lib.hid hh
  clear hh hK K HH ho bw
  have HH := Lib.hid HH'.out
  clear HH'
  refine wpAnyH_take (i := 7) (v := ?va7) rfl (by kernel_rfl) (by kernel_rfl) (by kernel_rfl) (fun _ _ _ h => h) (Or.inl ⟨by rfl, fun w' _ => ?ya7⟩) HH.out ?_
  case ya7 => (go_simp; try with_reducible rfl)
  try simp only [List.getElem_toArray, List.getElem_cons_succ, List.getElem_cons_zero, Act.put, List.setIfInBounds_toArray, List.set_cons_zero, List.set_cons_succ]
  refine wpAnyH_take (i := 8) (v := ?va8) rfl (by kernel_rfl) (by kernel_rfl) (by kernel_rfl) (fun _ _ _ h => h) (Or.inl ⟨by rfl, fun w' _ => ?ya8⟩) HH.out ?_
  case ya8 => (go_simp; try with_reducible rfl)
  try simp only [List.getElem_toArray, List.getElem_cons_succ, List.getElem_cons_zero, Act.put, List.setIfInBounds_toArray, List.set_cons_zero, List.set_cons_succ]
  refine wpAnyH_done (by kernel_rfl) ?_ _
  have i1 := IsB.own P1.out
  have i2 := IsB.own O2.out
  have n1e := own_blen P1.out
  have n2e := own_blen O2.out
  rw [Wi.putL_length] at n1e n2e
  have i3 : IsB w2.heap.size w2 (.slice (some ⟨w.heap.size, 2, none⟩) 32 32) x.s := ⟨_, 32, by rw [HS.out], by rw [HS.out]; exact Nat.le_refl _, by unfold maxLen; omega, fun k u hu => ⟨_, rfl, HH.out.1.lt, ndt_s HH.out.1 k u hu⟩⟩
  rw [show (1 : Int).toNat = 1 from rfl, putL_one D0 D1'] at i1
  rw [show (3 : Int).toNat = 3 from rfl, putL_three E0 E1'] at i2
  have HRD := Lib.hid (fun t => rdB_three (W := w2) t i1 i2 i3)
  have HBW := Lib.hid HH.out.2
  have hfl : [[byteI x.d], [byteI (x.a / 65536), byteI (x.a / 256 % 256), byteI (x.a % 256)], x.s].flatten = nodeY x := by simp [nodeY]
  have hfn : [[byteI x.d], [byteI (x.a / 65536), byteI (x.a / 256 % 256), byteI (x.a % 256)], x.s].flatten.length ≤ 1000000 := by rw [hfl, nodeY_length HS.out]; omega
  obtain ⟨ls, hls⟩ : ∃ ls, ls = [[byteI x.d], [byteI (x.a / 65536), byteI (x.a / 256 % 256), byteI (x.a % 256)], x.s] := ⟨_, rfl⟩
  have hln : ls.length = 3 := by rw [hls]; rfl
  rw [← hls] at HRD hfl hfn
  clear i1 i2 i3 n1e n2e hls P1 O2 HH S0 HS
  go_wp2_with fail
  refine (concat_any _ 3 3 ls _ hln (by simp) (HRD.out _) (by omega) hfn).mono ?_
  rintro e w3 ⟨A4, n4, c4, rfl, ho, bw⟩
  rw [hfl] at ho
  have b3 := ((HBW.out.alloc HBW.out.size _).trans (bw.mono (by have := HBW.out.size; simp; omega)))
  have HO := Lib.hid (own_more ho (show w.heap.size ≤ _ by have := HBW.out.size; simp; omega))
  clear ho bw HRD
  go_wp2_with fail
  go_ret
  exact RetRow.mk rfl HO.out b3
/-- What the code's Encode tells. -/
def RetKEnc (l : List Nd) (w : World) (e : Ending) (w' : World) : Prop :=
  Below w.heap.size w w' ∧ (((okS 0 l ∧ l.length ≤ 65535) ∧ ∃ A m c, e = .returned (.tuple #[.slice A m c, .int .i64 0]) ∧ w'.ownsRow w.heap.size 5 1 (.slice A m c) m (bv (encB l))) ∨
    ((¬ okS 0 l) ∧ e = .returned (.tuple #[.slice none 0 0, .int .i64 3])) ∨ ((okS 0 l ∧ 65535 < l.length) ∧ e = .returned (.tuple #[.slice none 0 0, .int .i64 6])))
set_option maxRecDepth 100000 in
set_option maxHeartbeats 3200000 in
theorem kenc_any {B : Nat} (A : Option Addr) (n c : Nat) (l : List Nd) (w : World) (hl : l.length = n) (h3 : ∀ x ∈ l, x.s.length = 32) (ha : ∀ x ∈ l, 0 ≤ x.a) (hB : B ≤ w.heap.size) (hr : Rd B w A (nvs l)) (hn : n ≤ 1000000) :
    Calls Try.prog 13 #[.slice A n c] w (RetKEnc l w) := by
  have HMAY := maybe_any A n c l w hl h3 ha hB hr hn
  have HL := Lib.hid hl
  have HR := Lib.hid (hr.more hB)
  have H3 := Lib.hid h3
  obtain ⟨cz, hcz⟩ : ∃ cz, cz = ndC zeroNd := ⟨_, rfl⟩
  have hzh : ∀ W, (zeroValue 61).run Try.prog W = .ok (.agg cz) W := fun _ => by rw [hcz]; kernel_rfl
  have ZH : Hid (cz.size = 34) := by show _ = _; rw [hcz]; exact ndC_size rfl
  clear hl hr h3 ha hB hcz
  go_enter Try.func13, Try.ntmps13
  go_wp2_with fail
  refine HMAY.mono ?_
  rintro e w2 ⟨b, rfl, hb, bw⟩
  clear HMAY
  by_cases hok : okS 0 l
  · have hbt : b = true := hb.2 hok
    subst hbt
    by_cases h6 : (n : Int) > 65535
    · have d6 : decide ((n : Int) > 65535) = true := decide_eq_true h6
      have HNO := Lib.hid (show okS 0 l ∧ 65535 < l.length from ⟨hok, by rw [HL.out]; omega⟩)
      clear h6 hok hb
      go_wp2_with fail
      go_ret2
      exact ⟨bw, .inr (.inr ⟨HNO.out, rfl⟩)⟩
    · have d6 : decide ((n : Int) > 65535) = false := decide_eq_false h6
      have hn6 : n ≤ 65535 := by omega
      have HOK := Lib.hid (show okS 0 l ∧ l.length ≤ 65535 from ⟨hok, by rw [HL.out]; omega⟩)
      clear h6 hok hb
      have HF := Lib.hid (okS_fits HOK.out.1)
      have HBW := Lib.hid bw
      have em : IntKind.i64.wrap ((n : Int) * 36) = ((n * 36 : Nat) : Int) := by rw [IntWalk.i64_in _ (by omega)]; omega
      have em2 : IntKind.i64.wrap (2 + ((n * 36 : Nat) : Int)) = ((2 + n * 36 : Nat) : Int) := by rw [IntWalk.i64_in _ (by omega)]; omega
      have eu : IntKind.u64.wrap (n : Int) = (n : Int) := IntWalk.u64_in _ (by omega)
      have ek2 : ((2 + n * 36 : Nat) : Int) = 2 + (n : Int) * 36 := by omega
      obtain ⟨i0, hi, hz0, hz1, hz2⟩ := info_parts Wi.bytesElt.info
      clear bw
      go_wp2_with (at_make; refine wpList_make_own _ rfl _ _ _ rfl w.heap.size 5 i0 _ 1 Try.underlying24 hi hz0 hz1 .i64 .i64 _ (2 + n * 36) rfl rfl (by omega) ?_ ?_ ?_ ?_; (rw [hz2]; omega); (unfold maxLen; omega); (exact HBW.out.size); intro w1 hown hg)
      have HO1 := Lib.hid hown
      have HB1 := Lib.hid (HBW.out.grown hg HBW.out.size (fun _ h => by cases h))
      obtain ⟨A1, hA1⟩ : ∃ A1, A1 = some (⟨w2.heap.size, 0, none⟩ : Addr) := ⟨_, rfl⟩
      rw [← hA1] at HO1 ⊢
      clear hown hg hA1 hi hz0 hz1 hz2
      refine (Wi.wput_in (n : Int) 2 _ (by omega) (by omega) (by omega) (by omega)).mono ?_
      rintro e w3 ⟨A3, n3, c3, rfl, ho, bw⟩
      have n3e := own_blen ho
      rw [Wi.putL_length] at n3e
      rw [show ((n : Int)).toNat = n from by omega, show (2 : Int).toNat = 2 from rfl, putL_two hn6] at ho
      obtain rfl : n3 = 2 := by rw [← n3e]; rfl
      have R3 := Lib.hid (Rd.own ho)
      have HO3 := Lib.hid (own_below HO1.out bw)
      have HB3 := Lib.hid (HB1.out.trans (bw.mono HB1.out.size))
      have hyl : (hdrY n).length = 2 := rfl
      clear ho bw HO1 HB1 n3e
      go_wp2_with (at_builtin
                   refine wpList_app _ rfl (.tmp 18) (.tmp 22) _ rfl Wi.bytesElt (base := w.heap.size) (v := .slice A1 0 (2 + n * 36)) rfl HO3.out (m := 2) rfl R3.out (by rw [bv_length, hyl]) (bv_one _) ?_ ?_ ?_
                   · omega
                   · exact HB3.out.size
                   intro A4 c4 w4 ho4 hg4 _
                   have hb4 := app_below HB3.out HO3.out hg4 (Nat.le_refl _) HB3.out.size
                   have O4 := Lib.hid ho4
                   have B4 := Lib.hid hb4
                   clear ho4 hg4 hb4 HO3 HB3 R3)
      go_loopw [4, 6, 26] (fun o _ i wr => ∃ k m1 A1 c1, k ≤ n ∧ m1 = 2 + 36 * k ∧ i = .int .i64 (k : Nat) ∧ o = .slice A1 m1 c1 ∧ Below w.heap.size w wr ∧ wr.ownsRow w.heap.size 5 1 (.slice A1 m1 c1) m1 (bv (hdrY n ++ encN (l.take k)))) (fun _ _ i _ => n - (intOf i).toNat)
      case atStart => exact ⟨0, _, A4, c4, by omega, rfl, rfl, slice_eq (by omega), B4.out, by rw [List.take_zero, encN_nil, List.append_nil]; exact own_eq O4.out (by omega) (by rw [List.nil_append])⟩
      case round =>
        clear O4 B4
        obtain ⟨k, m1, A1, c1, hk, hm1, rfl, rfl, hbw, how⟩ := hrel
        by_cases hlt : k < n
        · have hkl : k < l.length := by rw [HL.out]; exact hlt
          obtain ⟨ad, hA, hbl, hcell⟩ := rd_node (HR.out.below hbw) H3.out hkl
          subst hA
          obtain ⟨x, hxe⟩ : ∃ x, x = l[k] := ⟨_, rfl⟩
          have hx3 : x.s.length = 32 := by rw [hxe]; exact H3.out _ (List.getElem_mem hkl)
          have hfit : fits x := by rw [hxe]; exact HF.out _ (List.getElem_mem hkl)
          have hsn : encN (l.take (k + 1)) = encN (l.take k) ++ nodeY x := by rw [hxe]; exact encN_snoc l hkl
          rw [← hxe] at hcell
          have HCE := Lib.hid hcell
          have HI : Hid ((Try.prog.info? 61).map (·.size) = some (ndV x).length) := by rw [ndV_length hx3]; exact info_held
          have HIC : Hid ((Try.prog.info? 61).map (·.size) = some (ndC x).size) := by rw [ndC_size hx3]; exact info_held
          have HX3 := Lib.hid hx3
          have HFX := Lib.hid hfit
          have HSN := Lib.hid hsn
          have HB := Lib.hid hbw
          have HO := Lib.hid how
          have k0 : (0 : Int) ≤ (k : Int) := by omega
          have k1 : (k : Int) < (n : Int) := by omega
          have ek : IntKind.i64.wrap ((k : Int) + 1) = ((k + 1 : Nat) : Int) := by rw [IntWalk.i64_in _ (by omega)]; omega
          have hm2 : m1 + 36 ≤ 3000000 := by omega
          have HM1 := Lib.hid hm1
          clear hm1 hcell hxe hx3 hfit hsn hbw how
          go_wp2_with (first
            | (refine wpList_load_at rfl 61 (.tmp 28) rfl (ad.add (k * 34)) rfl HCE.out Try.underlying61 rfl HI.out ?_
               change wpList _ _ _ _ (Act.put _ _ (.agg (ndC x))) _)
            | (refine wpList_store_row rfl 61 (.tmp 6) (.tmp 29) rfl wr.heap.size (ndC x) rfl rfl 61 cz (heap_alloc_new _ _) HIC.out (by rw [ndC_size HX3.out, ZH.out]) (ndC_one _) ?_
               generalize hwx : World.setRow _ _ _ = wx
               have E1 := Lib.hid (show Blk wx wr.heap.size (ndC x) 61 by rw [← hwx]; exact setRow_heap _ _ _ _ _ _ (heap_alloc_new _ _))
               have EB := Lib.hid (show Below w.heap.size w wx by rw [← hwx]; exact below_setRow (HB.out.alloc HB.out.size _) HB.out.size _)
               have EW := Lib.hid (show Below wr.heap.size wr wx by rw [← hwx]; exact below_setRow ((Below.refl _ wr).alloc (Nat.le_refl _) _) (Nat.le_refl _) _)
               have EO := Lib.hid (own_below HO.out EW.out)
               clear hwx HB HO EW)
            | (refine wpList_load_row rfl 61 (.tmp 6) rfl wr.heap.size rfl 61 (ndC x) (0, 0) _ E1.out Try.underlying61 rfl HIC.out ?_))
          refine (nodebytes_any x HFX.out _).mono ?_
          rintro e w5 ⟨A5, n5, c5, rfl, ho, bw⟩
          have n5e := own_blen ho
          rw [nodeY_length HX3.out] at n5e
          obtain rfl : n5 = 36 := n5e.symm
          have R5 := Lib.hid (Rd.own ho)
          have HO5 := Lib.hid (own_below EO.out bw)
          have HB5 := Lib.hid (EB.out.trans (bw.mono EB.out.size))
          have hyl : (bv (nodeY x)).length = 36 := by rw [bv_length, nodeY_length HX3.out]
          have HYL := Lib.hid hyl
          clear ho bw E1 EB EO n5e hyl
          go_wp2_with (at_builtin
                       refine wpList_app _ rfl (.tmp 30) (.tmp 32) _ rfl Wi.bytesElt (base := w.heap.size) (v := .slice A1 m1 c1) rfl HO5.out (m := 36) rfl R5.out HYL.out (bv_one _) ?_ ?_ ?_
                       · omega
                       · exact HB5.out.size
                       intro A6 c6 w6 ho6 hg6 _
                       have hb6 := app_below HB5.out HO5.out hg6 (Nat.le_refl _) HB5.out.size
                       have O6 := Lib.hid ho6
                       have B6 := Lib.hid hb6
                       clear ho6 hg6 hb6 HO5 HB5 R5)
          go_roundw
          case rel => exact ⟨k + 1, m1 + 36, A6, c6, by omega, by rw [HM1.out]; omega, by go_num, rfl, B6.out, own_eq O6.out rfl (by rw [HSN.out, ← bv_append, List.append_assoc])⟩
          case measure => simp [intOf]; omega
        · obtain rfl : k = n := by omega
          rw [List.take_of_length_le (by rw [HL.out]; exact Nat.le_refl _)] at how
          have HB := Lib.hid hbw
          have HO := Lib.hid how
          clear hbw how
          go_wp2_with fail
          go_ret2
          exact ⟨HB.out, .inl ⟨HOK.out, A1, m1, c1, rfl, by rw [encB_hdr, HL.out]; exact HO.out⟩⟩
  · have hbf : b = false := by cases b; rfl; exact absurd (hb.1 rfl) hok
    subst hbf
    have HNO := Lib.hid hok
    clear hok hb
    go_wp2_with fail
    go_ret2
    exact ⟨bw, .inr (.inl ⟨HNO.out, rfl⟩)⟩
end Go.Proofs.Ytippbjpodnnhiaa.Kc
/-
  The contract of wire's Get, in a namespace of its own: the number that stands in 1 to 8 bytes.
-/
namespace Go.Proofs.Ytippbjpodnnhiaa.Wi
open Go.RowKit

/-- The number that stands in l. -/
def getL (l : List UInt8) : Nat := l.foldl (fun n c => n * 256 + c.toNat) 0

theorem getL_nil : getL [] = 0 := rfl
theorem getL_snoc (l : List UInt8) (c : UInt8) : getL (l ++ [c]) = getL l * 256 + c.toNat := by simp [getL, List.foldl_append]
theorem getL_step {l : List UInt8} {k : Nat} (h : k < l.length) : getL (l.take (k + 1)) = getL (l.take k) * 256 + l[k].toNat := by
  rw [List.take_succ_eq_append_getElem h, getL_snoc]
theorem getL_take {l : List UInt8} : ∀ k, k ≤ l.length → getL (l.take k) < 256 ^ k
  | 0, _ => by simp [getL]
  | k + 1, h => by
    have h1 := getL_take k (Nat.le_of_succ_le h)
    have hb : l[k].toNat < 256 := UInt8.toNat_lt _
    rw [getL_step h, Nat.pow_succ]
    omega
theorem getL_lt (l : List UInt8) : getL l < 256 ^ l.length := by
  have h := getL_take l.length (Nat.le_refl _)
  rwa [List.take_of_length_le (Nat.le_refl _)] at h
theorem getL_small {l : List UInt8} {k : Nat} (h : k < l.length) (h8 : l.length ≤ 8) : getL (l.take k) * 256 + 255 < 18446744073709551616 := by
  have h1 := getL_take k (Nat.le_of_lt h)
  have h2 : 256 ^ k ≤ 256 ^ 7 := Nat.pow_le_pow_right (by omega) (by omega)
  have h3 : 256 ^ 7 = 72057594037927936 := by decide
  omega
theorem or_byte (Z b : Nat) (hb : b < 256) : Z * 256 ||| b = Z * 256 + b := by
  have e : Z * 256 = Z <<< 8 := by rw [Nat.shiftLeft_eq]
  rw [e, ← Nat.shiftLeft_add_eq_or_of_lt hb]
theorem get_or {l : List UInt8} {k Z : Nat} (hZ : Z = getL (l.take k)) (h : k < l.length) (h8 : l.length ≤ 8) :
    bits BinOp.or IntKind.u64 (IntKind.u64.wrap ((Z : Int) * 256)) (IntKind.u64.wrap (l[k].toNat : Int)) = ((Z * 256 + l[k].toNat : Nat) : Int) := by
  have hs := getL_small h h8
  have hb : l[k].toNat < 256 := UInt8.toNat_lt _
  rw [← hZ] at hs
  have e1 : IntKind.u64.wrap ((Z : Int) * 256) = ((Z * 256 : Nat) : Int) := (IntWalk.u64_in ((Z : Int) * 256) (by omega)).trans (Int.natCast_mul Z 256).symm
  have e2 : IntKind.u64.wrap (l[k].toNat : Int) = (l[k].toNat : Int) := IntWalk.u64_in (l[k].toNat : Int) (by clear e1; omega)
  rw [e1, e2]
  clear e1 e2
  have g1 : Z * 256 < 18446744073709551616 := Nat.lt_of_le_of_lt (Nat.le_add_right _ _) hs
  have g2 : l[k].toNat < 18446744073709551616 := Nat.lt_trans hb (by decide)
  have e3 := u64_or_nat (Z * 256) l[k].toNat g1 g2
  clear g1 g2
  rw [e3, or_byte Z _ hb]
theorem get_all (l : List UInt8) : getL (l.take l.length) = getL l := by rw [List.take_of_length_le (Nat.le_refl _)]
theorem ret_get {z z' : Int} {b : Bool} (h : z = z') : Ending.returned (.tuple #[.int .u64 z, .bool b]) = .returned (.tuple #[.int .u64 z', .bool b]) := by rw [h]

set_option maxRecDepth 100000 in
set_option maxHeartbeats 400000 in
theorem wget_in {B : Nat} (A : Option Addr) (n c : Nat) (l : List UInt8) (w : World) (hn : l.length = n) (ha : Rd B w A (bv l)) (h1 : 1 ≤ n) (h8 : n ≤ 8) :
    Calls Try.prog 46 #[.slice A n c] w fun e w' => e = .returned (.tuple #[.int .u64 (getL l : Int), .bool true]) ∧ w = w' := by
  subst hn
  go_enter Try.func46, Try.ntmps46
  go_wp2
  go_loop [4, 6, 17] (fun m u i => ∃ k Z : Nat, k ≤ l.length ∧ i = .int .i64 k ∧ m = .int .u64 (Z : Int) ∧ Hid (Z = getL (l.take k))) (fun _ _ i => l.length - (intOf i).toNat)
  case atStart => exact ⟨0, 0, Nat.zero_le _, rfl, rfl, rfl⟩
  case round =>
    obtain ⟨k, Z, hk, rfl, rfl, HZ⟩ := hrel
    by_cases hlt : k < l.length
    · obtain ⟨ad, rfl, _, hc⟩ := ha.at_ hlt
      go_wp2
      go_round
      case rel => exact ⟨k + 1, Z * 256 + l[k].toNat, by omega, by go_num, int_eq (get_or HZ.out hlt h8), by show _ = _; rw [getL_step hlt, HZ.out]⟩
      case measure => simp [intOf]; omega
    · obtain rfl : k = l.length := by omega
      go_wp2
      go_ret2
      exact ⟨ret_get (by rw [HZ.out, get_all]), rfl⟩

set_option maxRecDepth 100000 in
set_option maxHeartbeats 400000 in
theorem wget_out (A : Option Addr) (n c : Nat) (w : World) (h : n < 1 ∨ 8 < n) (hm : n ≤ maxLen) :
    Calls Try.prog 46 #[.slice A n c] w fun e w' => e = .returned (.tuple #[.int .u64 0, .bool false]) ∧ w = w' := by
  unfold maxLen at hm
  rcases h with h | h
  · go_enter Try.func46, Try.ntmps46
    go_wp2
    go_ret2
    exact ⟨rfl, rfl⟩
  · have h' : ¬ n < 1 := by omega
    go_enter Try.func46, Try.ntmps46
    go_wp2
    go_ret2
    exact ⟨rfl, rfl⟩

/-- What Get tells of l: a number and whether there is one. -/
def getN (l : List UInt8) : Nat := if 1 ≤ l.length ∧ l.length ≤ 8 then getL l else 0
def getOk (l : List UInt8) : Bool := decide (1 ≤ l.length ∧ l.length ≤ 8)

theorem wget_any {B : Nat} (A : Option Addr) (n c : Nat) (l : List UInt8) (w : World) (hn : l.length = n) (ha : Rd B w A (bv l)) (hm : n ≤ maxLen) :
    Calls Try.prog 46 #[.slice A n c] w fun e w' => e = .returned (.tuple #[.int .u64 (getN l : Int), .bool (getOk l)]) ∧ w = w' := by
  by_cases h : 1 ≤ l.length ∧ l.length ≤ 8
  · rw [getN, if_pos h, show getOk l = true from decide_eq_true h]
    exact wget_in A n c l w hn ha (by omega) (by omega)
  · rw [getN, if_neg h, show getOk l = false from decide_eq_false h]
    exact wget_out A n c w (by omega) hm
end Go.Proofs.Ytippbjpodnnhiaa.Wi
