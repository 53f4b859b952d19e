/-
  Texts of this seat, one behind the other: KgToward.
-/
import Derived.Test.YtippbjpodnnhiaaDoorDk3
/-
  The contracts of the way down: a closure that splits a node that has a leaf.
-/
namespace Go.Proofs.YtippbjpodnnhiaaDoor.Kg
open Go.RowKit
variable {ci : Ciph}
attribute [local go_sem ↓] Go.wp_at_zero Go.wp_at_succ
theorem toward_any (g : Nat) (m : Int) (w : World) :
    Calls Tryd.prog 27 #[.pointer (some ⟨g, 0, none⟩), .int .u64 m] w (fun e w' => ∃ b1 b2, e = .returned (.func (.func 35) #[] #[.pointer (some ⟨b1, 0, none⟩), .pointer (some ⟨b2, 0, none⟩)]) ∧ Blk w' b1 #[.pointer (some ⟨g, 0, none⟩)] 27 ∧ Blk w' b2 #[.int .u64 m] 25 ∧ w.heap.size ≤ b1 ∧ w.heap.size ≤ b2 ∧ Below w.heap.size w w') := by
  go_enter Tryd.func27, Tryd.ntmps27
  go_wp2_with fail
  go_ret
  exact ⟨_, _, rfl, heap_alloc2_old _ _ _, heap_alloc2_new _ _ _, Nat.le_refl _, by omega, ((Below.refl _ _).alloc (Nat.le_refl _) _).alloc (by simp) _⟩
set_option maxRecDepth 100000 in
set_option maxHeartbeats 3200000 in
theorem spl_any (g b1 b2 : Nat) (x : Nd) (m : Int) (w : World) (hx : okH x) (hd : x.d < 17) (c0 : w.cell? ⟨g, 0, none⟩ = some ci.v) (h1 : Blk w b1 #[.pointer (some ⟨g, 0, none⟩)] 27) (h2 : Blk w b2 #[.int .u64 m] 25) (near aside : Nd) (hn : near = if m < (ndR ci x).a then ndL ci x else ndR ci x) (ha : aside = if m < (ndR ci x).a then ndR ci x else ndL ci x) :
    Calls Tryd.prog 35 #[.agg (ndC x), .pointer (some ⟨b1, 0, none⟩), .pointer (some ⟨b2, 0, none⟩)] w (RetB (.tuple #[.agg (ndC near), .agg (ndC aside)]) w) := by
  obtain ⟨cz, hcz⟩ : ∃ cz, cz = ndC zeroNd := ⟨_, rfl⟩
  obtain ⟨z, hz0⟩ : ∃ z : List UInt8, z = List.replicate 32 0 := ⟨_, rfl⟩
  have hzk : ∀ W, (zeroValue 23).run Tryd.prog W = .ok (.agg (bva z)) W := fun _ => by rw [hz0]; kernel_rfl
  have hzh : ∀ W, (zeroValue 53).run Tryd.prog W = .ok (.agg cz) W := fun _ => by rw [hcz]; kernel_rfl
  have Z3 : Hid (z.length = 32) := by show _ = _; rw [hz0]; rfl
  have ZH : Hid (cz.size = 34) := by show _ = _; rw [hcz]; exact ndC_size rfl
  obtain ⟨p, hp⟩ : ∃ p, p = ci.L x.s := ⟨_, rfl⟩
  obtain ⟨q, hq⟩ : ∃ q, q = ci.R x.s := ⟨_, rfl⟩
  have P3 : Hid (p.length = 32) := by show _ = _; rw [hp, ci.lenL]
  have Q3 : Hid (q.length = 32) := by show _ = _; rw [hq, ci.lenR]
  have HKP : Hid ((Tryd.prog.info? 23).map (·.size) = some (bva p).size) := by rw [bva_size, P3.out]; exact info_keyL
  have HKQ : Hid ((Tryd.prog.info? 23).map (·.size) = some (bva q).size) := by rw [bva_size, Q3.out]; exact info_keyL
  have HS : Hid (x.s.length = 32) := hx.2.2.2.2.2
  have HIX : Hid ((Tryd.prog.info? 23).map (·.size) = some (bv x.s).length) := by rw [bv_length, HS.out]; exact info_keyL
  obtain ⟨r1, r2, r3, rb⟩ := three_blocks w (.cells (ndC x) 53) (.cells cz 53) (.cells cz 53)
  obtain ⟨W3, hW3⟩ : ∃ W3, ((w.alloc (.cells (ndC x) 53)).alloc (.cells cz 53)).alloc (.cells cz 53) = W3 := ⟨_, rfl⟩
  rw [hW3] at r1 r2 r3 rb
  have hs3 : W3.heap.size = w.heap.size + 1 + 1 + 1 := by rw [← hW3]; simp
  have c1 := ndt_d (x := x) (t := 53) r1
  have hgw : g < w.heap.size := block_lt_of_cell c0
  have B0 := Lib.hid (show Blk W3 w.heap.size (ndC x) 53 from r1)
  have B1 := Lib.hid (show Blk W3 (w.heap.size + 1) cz 53 from r2)
  have B2 := Lib.hid (show Blk W3 (w.heap.size + 1 + 1) cz 53 from r3)
  have BB := Lib.hid rb
  have h1c : Hid (∀ {w'}, Below W3.heap.size W3 w' → w'.cell? ⟨b1, 0, none⟩ = some (.pointer (some ⟨g, 0, none⟩))) := fun hw' => by
    have hb := h1.lt
    rw [hw'.cell (by show b1 < _; omega), rb.cell (by exact hb), h1.cell]; rfl
  have h2c : Hid (∀ {w'}, Below W3.heap.size W3 w' → w'.cell? ⟨b2, 0, none⟩ = some (.int .u64 m)) := fun hw' => by
    have hb := h2.lt
    rw [hw'.cell (by show b2 < _; omega), rb.cell (by exact hb), h2.cell]; rfl
  have c0c : Hid (∀ {w'}, Below W3.heap.size W3 w' → w'.cell? ⟨g, 0, none⟩ = some ci.v) := fun hw' => by
    rw [hw'.cell (by show g < _; omega), rb.cell (by exact hgw), c0]
  have e1 : IntKind.i64.wrap (x.d + 1) = x.d + 1 := IntWalk.i64_in _ (by have := hx.1; omega)
  have hM := ci.hM
  have hC := ci.hC
  have HP := Lib.hid hp
  have HQ := Lib.hid hq
  have HX := Lib.hid hx
  have HD := Lib.hid hd
  have HN := Lib.hid hn
  have HA := Lib.hid ha
  clear r1 r2 r3 rb h1 h2 c0 hcz hz0 hp hq hx hd hn ha
  go_enter Tryd.func35, Tryd.ntmps35
  go_wp2_with fail
  try rw [hW3]
  clear c1 hW3
  apply by_rest (R := fun X Y w' => X ≠ Y ∧ W3.heap.size ≤ X ∧ W3.heap.size ≤ Y ∧ Blk w' X (bva p) 23 ∧ Blk w' Y (bva q) 23 ∧ Below W3.heap.size W3 w')
  case ways =>
    intro hG
    unfold Ciph.v at *
    refine wp_region_held_drew (S := fun w' => Below W3.heap.size W3 w') (by kernel_rfl) (Below.refl _ _).drew (fun hh => ?_)
    have HH := Lib.hid hh
    clear hh
    refine wpAnyH_take (i := 0) (v := ?va0) rfl (by kernel_rfl) (by kernel_rfl) (by kernel_rfl) (fun _ _ _ h => h) (Or.inl ⟨by rfl, fun w' hw' => ?ya0⟩) HH.out ?_
    case ya0 => (have cc := (h1c.out hw'); go_simp; try with_reducible rfl)
    refine wpAnyH_take (i := 1) (v := ?va1) rfl (by kernel_rfl) (by kernel_rfl) (by kernel_rfl) (fun _ _ _ h => h) (Or.inl ⟨by rfl, fun w' hw' => ?ya1⟩) HH.out ?_
    case ya1 => (go_simp; try with_reducible rfl)
    try simp only [List.getElem_toArray, List.getElem_cons_succ, List.getElem_cons_zero, Act.put, List.setIfInBounds_toArray, List.set_cons_zero, List.set_cons_succ]
    refine wpAnyH_take (i := 2) (v := ?va2) rfl (by kernel_rfl) (by kernel_rfl) (by kernel_rfl) (fun _ _ _ h => h) (Or.inl ⟨by rfl, fun w' hw' => ?ya2⟩) HH.out ?_
    case ya2 => (go_simp; try with_reducible rfl)
    refine wpAnyH_take (i := 3) (v := .iface ci.T ci.x) rfl (by kernel_rfl) (by kernel_rfl) (by kernel_rfl) (fun _ _ _ h => h) (Or.inl ⟨by rfl, fun w' hw' => ?ya3⟩) HH.out ?_
    case ya3 => (have cc := (c0c.out hw'); go_simp; try with_reducible rfl)
    try simp only [List.getElem_toArray, List.getElem_cons_succ, List.getElem_cons_zero, Act.put, List.setIfInBounds_toArray, List.set_cons_zero, List.set_cons_succ]
    refine wpAnyH_take (i := 4) (v := ?va4) rfl (by kernel_rfl) (by kernel_rfl) (by kernel_rfl) (fun _ _ _ h => h) (Or.inl ⟨by rfl, fun w' hw' => ?ya4⟩) HH.out ?_
    case ya4 => (go_simp; try with_reducible rfl)
    refine wpAnyH_take (i := 5) (v := .agg (bva x.s)) rfl (by kernel_rfl) (by kernel_rfl) (by kernel_rfl) (fun _ _ _ h => h) (Or.inl ⟨by rfl, fun w' hw' => ?ya5⟩) HH.out ?_
    case ya5 => exact exec_load_at 23 (.tmp 19) rfl ⟨w.heap.size, 2, none⟩ rfl (fun j v hj => by rw [Addr.add_mid]; exact ndt_s (B0.out.below hw') j v hj) Tryd.underlying23 rfl HIX.out
    have hsd : W3.drew.heap.size = W3.heap.size := rfl
    have hh2 := HH.out
    clear HH
    generalize W3.drew = wd at *
    have HH := Lib.hid hh2
    have HSD := Lib.hid hsd
    clear hh2 hsd
    try simp only [List.getElem_toArray, List.getElem_cons_succ, List.getElem_cons_zero, Act.put, List.setIfInBounds_toArray, List.set_cons_zero, List.set_cons_succ]
    refine wpAnyH_ready (rs := [6, 10, 11]) (by kernel_rfl) (by simp) (AllReadyH.cons rfl (fun K hK => ?_) (AllReadyH.cons rfl (fun K hK => ?_) (AllReadyH.cons rfl (fun K hK => ?_) AllReadyH.nil)))
    · go_simp
      refine (ci.hS x.s HS.out _).mono ?_
      rintro e wq1 ⟨rfl, bw⟩
      rw [← HP.out, ← HQ.out]
      have hszwq1 := bw.size
      go_simp
      refine hK.out _ _ (HH.out.trans (bw.mono HH.out.size)) (fun hh => ?_)
      have HH' := Lib.hid hh
      clear hh hK K HH bw
      have HH := Lib.hid HH'.out
      clear HH'
      refine wpAnyH_take (i := 7) (v := ?vwm17) rfl (by kernel_rfl) (by kernel_rfl) (by kernel_rfl) (fun _ _ _ h => h) (Or.inl ⟨by rfl, fun w' _ => ?ywm17⟩) HH.out ?_
      case ywm17 => (go_simp; try with_reducible rfl)
      refine wpAnyH_take (i := 8) (v := ?vwm18) rfl (by kernel_rfl) (by kernel_rfl) (by kernel_rfl) (fun _ _ _ h => h) (Or.inl ⟨by rfl, fun w' _ => ?ywm18⟩) HH.out ?_
      case ywm18 => (go_simp; try with_reducible rfl)
      try simp only [List.getElem_toArray, List.getElem_cons_succ, List.getElem_cons_zero, Act.put, List.setIfInBounds_toArray, List.set_cons_zero, List.set_cons_succ]
      refine wpAnyH_take (i := 9) (v := ?vwm19) rfl (by kernel_rfl) (by kernel_rfl) (by kernel_rfl) (fun _ _ _ h => h) (Or.inl ⟨by rfl, fun w' _ => ?ywm19⟩) HH.out ?_
      case ywm19 => (go_simp; try with_reducible rfl)
      try simp only [List.getElem_toArray, List.getElem_cons_succ, List.getElem_cons_zero, Act.put, List.setIfInBounds_toArray, List.set_cons_zero, List.set_cons_succ]
      refine wpAnyH_ready (rs := [10, 11]) (by kernel_rfl) (by simp) (AllReadyH.cons rfl (fun K hK => ?_) (AllReadyH.cons rfl (fun K hK => ?_) AllReadyH.nil))
      · go_simp
        have FX := Lib.hid (show Blk (World.alloc wq1 (.cells (bva z) 23)) wq1.heap.size (bva z) 23 from heap_alloc_new _ _)
        refine hK.out _ _ (HH.out.alloc HH.out.size _) (fun hh => ?_)
        have HH' := Lib.hid hh
        clear hh hK K HH 
        have HH := Lib.hid HH'.out
        clear HH'
        have hszwq2 : wq1.heap.size < (World.alloc wq1 (.cells (bva z) 23)).heap.size := by simp
        generalize hWwq2 : World.alloc wq1 (.cells (bva z) 23) = wq2 at *
        clear hWwq2
        try simp only [List.getElem_toArray, List.getElem_cons_succ, List.getElem_cons_zero, Act.put, List.setIfInBounds_toArray, List.set_cons_zero, List.set_cons_succ]
        refine wpAnyH_ready (rs := [11]) (by kernel_rfl) (by simp) (AllReadyH.cons rfl (fun K hK => ?_) AllReadyH.nil)
        go_simp
        have FY := Lib.hid (show Blk (World.alloc wq2 (.cells (bva z) 23)) wq2.heap.size (bva z) 23 from heap_alloc_new _ _)
        have FX' := Lib.hid (show Blk (World.alloc wq2 (.cells (bva z) 23)) _ _ _ from blk_oldL FX.out)
        clear FX
        have FX := Lib.hid FX'.out
        clear FX'
        refine hK.out _ _ (HH.out.alloc HH.out.size _) (fun hh => ?_)
        have HH' := Lib.hid hh
        clear hh hK K HH 
        have HH := Lib.hid HH'.out
        clear HH'
        have hszwq3 : wq2.heap.size < (World.alloc wq2 (.cells (bva z) 23)).heap.size := by simp
        generalize hWwq3 : World.alloc wq2 (.cells (bva z) 23) = wq3 at *
        clear hWwq3
        have hsd := HSD.out
        have hXw : W3.heap.size ≤ wq1.heap.size := by omega
        have hYw : W3.heap.size ≤ wq2.heap.size := by omega
        have hXY : wq1.heap.size ≠ wq2.heap.size := by omega
        clear hsd
        try simp only [List.getElem_toArray, List.getElem_cons_succ, List.getElem_cons_zero, Act.put, List.setIfInBounds_toArray, List.set_cons_zero, List.set_cons_succ]
        refine wpAnyH_ready (rs := [12]) (by kernel_rfl) (by simp) (AllReadyH.cons rfl (fun K hK => ?_) AllReadyH.nil)
        rw [if_pos (by rfl)]
        refine wp_store_row 23 (.tmp 7) (.tmp 22) rfl (wq1.heap.size) (bva p) rfl rfl 23 (bva z) FX.out HKP.out (by simp only [bva_size, P3.out, Z3.out]) (bva_one _) ?_
        have GX := Lib.hid (show Blk (World.setRow wq3 (wq1.heap.size) (bva p)) (wq1.heap.size) (bva p) 23 from setRow_heap _ _ _ _ _ _ FX.out)
        have GY := Lib.hid (show Blk (World.setRow wq3 (wq1.heap.size) (bva p)) (wq2.heap.size) (bva z) 23 from blk_row FY.out (fun e => hXY e.symm))
        refine hK.out _ _ (below_setRow HH.out hXw _) (fun hh => ?_)
        have HH' := Lib.hid hh
        clear hh hK K HH FX FY
        have HH := Lib.hid HH'.out
        clear HH'
        generalize hWs : World.setRow wq3 (wq1.heap.size) (bva p) = ws at *
        clear hWs
        try simp only [List.getElem_toArray, List.getElem_cons_succ, List.getElem_cons_zero, Act.put]
        refine wpAnyH_ready (rs := [13]) (by kernel_rfl) (by simp) (AllReadyH.cons rfl (fun K hK => ?_) AllReadyH.nil)
        rw [if_pos (by rfl)]
        refine wp_store_row 23 (.tmp 8) (.tmp 23) rfl (wq2.heap.size) (bva q) rfl rfl 23 (bva z) GY.out HKQ.out (by simp only [bva_size, Q3.out, Z3.out]) (bva_one _) ?_
        have KX := Lib.hid (show Blk (World.setRow ws (wq2.heap.size) (bva q)) (wq1.heap.size) (bva p) 23 from blk_row GX.out hXY)
        have KY := Lib.hid (show Blk (World.setRow ws (wq2.heap.size) (bva q)) (wq2.heap.size) (bva q) 23 from setRow_heap _ _ _ _ _ _ GY.out)
        refine hK.out _ _ (below_setRow HH.out hYw _) (fun hh => ?_)
        have HH' := Lib.hid hh
        clear hh hK K HH GX GY
        have HH := Lib.hid HH'.out
        clear HH'
        generalize hWt : World.setRow ws (wq2.heap.size) (bva q) = wt at *
        clear hWt
        try simp only [List.getElem_toArray, List.getElem_cons_succ, List.getElem_cons_zero, Act.put]
        refine wpAnyH_done (by kernel_rfl) ?_ _
        try simp only [List.getElem_toArray, List.getElem_cons_succ, List.getElem_cons_zero, Act.put]
        obtain ⟨X, hX⟩ : ∃ X, wq1.heap.size = X := ⟨_, rfl⟩
        obtain ⟨Y, hY⟩ : ∃ Y, wq2.heap.size = Y := ⟨_, rfl⟩
        have kx := KX.out
        have ky := KY.out
        have kb := HH.out
        clear KX KY HH
        simp only [hX, hY] at *
        clear hX hY
        exact hG X Y wt ⟨hXY, hXw, hYw, kx, ky, kb⟩
      · go_simp
        have FY := Lib.hid (show Blk (World.alloc wq1 (.cells (bva z) 23)) wq1.heap.size (bva z) 23 from heap_alloc_new _ _)
        refine hK.out _ _ (HH.out.alloc HH.out.size _) (fun hh => ?_)
        have HH' := Lib.hid hh
        clear hh hK K HH 
        have HH := Lib.hid HH'.out
        clear HH'
        have hszwq4 : wq1.heap.size < (World.alloc wq1 (.cells (bva z) 23)).heap.size := by simp
        generalize hWwq4 : World.alloc wq1 (.cells (bva z) 23) = wq4 at *
        clear hWwq4
        try simp only [List.getElem_toArray, List.getElem_cons_succ, List.getElem_cons_zero, Act.put, List.setIfInBounds_toArray, List.set_cons_zero, List.set_cons_succ]
        refine wpAnyH_ready (rs := [10]) (by kernel_rfl) (by simp) (AllReadyH.cons rfl (fun K hK => ?_) AllReadyH.nil)
        go_simp
        have FX := Lib.hid (show Blk (World.alloc wq4 (.cells (bva z) 23)) wq4.heap.size (bva z) 23 from heap_alloc_new _ _)
        have FY' := Lib.hid (show Blk (World.alloc wq4 (.cells (bva z) 23)) _ _ _ from blk_oldL FY.out)
        clear FY
        have FY := Lib.hid FY'.out
        clear FY'
        refine hK.out _ _ (HH.out.alloc HH.out.size _) (fun hh => ?_)
        have HH' := Lib.hid hh
        clear hh hK K HH 
        have HH := Lib.hid HH'.out
        clear HH'
        have hszwq5 : wq4.heap.size < (World.alloc wq4 (.cells (bva z) 23)).heap.size := by simp
        generalize hWwq5 : World.alloc wq4 (.cells (bva z) 23) = wq5 at *
        clear hWwq5
        have hsd := HSD.out
        have hXw : W3.heap.size ≤ wq4.heap.size := by omega
        have hYw : W3.heap.size ≤ wq1.heap.size := by omega
        have hXY : wq4.heap.size ≠ wq1.heap.size := by omega
        clear hsd
        try simp only [List.getElem_toArray, List.getElem_cons_succ, List.getElem_cons_zero, Act.put, List.setIfInBounds_toArray, List.set_cons_zero, List.set_cons_succ]
        refine wpAnyH_ready (rs := [12]) (by kernel_rfl) (by simp) (AllReadyH.cons rfl (fun K hK => ?_) AllReadyH.nil)
        rw [if_pos (by rfl)]
        refine wp_store_row 23 (.tmp 7) (.tmp 22) rfl (wq4.heap.size) (bva p) rfl rfl 23 (bva z) FX.out HKP.out (by simp only [bva_size, P3.out, Z3.out]) (bva_one _) ?_
        have GX := Lib.hid (show Blk (World.setRow wq5 (wq4.heap.size) (bva p)) (wq4.heap.size) (bva p) 23 from setRow_heap _ _ _ _ _ _ FX.out)
        have GY := Lib.hid (show Blk (World.setRow wq5 (wq4.heap.size) (bva p)) (wq1.heap.size) (bva z) 23 from blk_row FY.out (fun e => hXY e.symm))
        refine hK.out _ _ (below_setRow HH.out hXw _) (fun hh => ?_)
        have HH' := Lib.hid hh
        clear hh hK K HH FX FY
        have HH := Lib.hid HH'.out
        clear HH'
        generalize hWs : World.setRow wq5 (wq4.heap.size) (bva p) = ws at *
        clear hWs
        try simp only [List.getElem_toArray, List.getElem_cons_succ, List.getElem_cons_zero, Act.put]
        refine wpAnyH_ready (rs := [13]) (by kernel_rfl) (by simp) (AllReadyH.cons rfl (fun K hK => ?_) AllReadyH.nil)
        rw [if_pos (by rfl)]
        refine wp_store_row 23 (.tmp 8) (.tmp 23) rfl (wq1.heap.size) (bva q) rfl rfl 23 (bva z) GY.out HKQ.out (by simp only [bva_size, Q3.out, Z3.out]) (bva_one _) ?_
        have KX := Lib.hid (show Blk (World.setRow ws (wq1.heap.size) (bva q)) (wq4.heap.size) (bva p) 23 from blk_row GX.out hXY)
        have KY := Lib.hid (show Blk (World.setRow ws (wq1.heap.size) (bva q)) (wq1.heap.size) (bva q) 23 from setRow_heap _ _ _ _ _ _ GY.out)
        refine hK.out _ _ (below_setRow HH.out hYw _) (fun hh => ?_)
        have HH' := Lib.hid hh
        clear hh hK K HH GX GY
        have HH := Lib.hid HH'.out
        clear HH'
        generalize hWt : World.setRow ws (wq1.heap.size) (bva q) = wt at *
        clear hWt
        try simp only [List.getElem_toArray, List.getElem_cons_succ, List.getElem_cons_zero, Act.put]
        refine wpAnyH_done (by kernel_rfl) ?_ _
        try simp only [List.getElem_toArray, List.getElem_cons_succ, List.getElem_cons_zero, Act.put]
        obtain ⟨X, hX⟩ : ∃ X, wq4.heap.size = X := ⟨_, rfl⟩
        obtain ⟨Y, hY⟩ : ∃ Y, wq1.heap.size = Y := ⟨_, rfl⟩
        have kx := KX.out
        have ky := KY.out
        have kb := HH.out
        clear KX KY HH
        simp only [hX, hY] at *
        clear hX hY
        exact hG X Y wt ⟨hXY, hXw, hYw, kx, ky, kb⟩
    · go_simp
      have FX := Lib.hid (show Blk (World.alloc wd (.cells (bva z) 23)) wd.heap.size (bva z) 23 from heap_alloc_new _ _)
      refine hK.out _ _ (HH.out.alloc HH.out.size _) (fun hh => ?_)
      have HH' := Lib.hid hh
      clear hh hK K HH 
      have HH := Lib.hid HH'.out
      clear HH'
      have hszwq6 : wd.heap.size < (World.alloc wd (.cells (bva z) 23)).heap.size := by simp
      generalize hWwq6 : World.alloc wd (.cells (bva z) 23) = wq6 at *
      clear hWwq6
      try simp only [List.getElem_toArray, List.getElem_cons_succ, List.getElem_cons_zero, Act.put, List.setIfInBounds_toArray, List.set_cons_zero, List.set_cons_succ]
      refine wpAnyH_ready (rs := [6, 11]) (by kernel_rfl) (by simp) (AllReadyH.cons rfl (fun K hK => ?_) (AllReadyH.cons rfl (fun K hK => ?_) AllReadyH.nil))
      · go_simp
        refine (ci.hS x.s HS.out _).mono ?_
        rintro e wq7 ⟨rfl, bw⟩
        rw [← HP.out, ← HQ.out]
        have hszwq7 := bw.size
        have FX' := Lib.hid (FX.out.below bw)
        clear FX
        have FX := Lib.hid FX'.out
        clear FX'
        go_simp
        refine hK.out _ _ (HH.out.trans (bw.mono HH.out.size)) (fun hh => ?_)
        have HH' := Lib.hid hh
        clear hh hK K HH bw
        have HH := Lib.hid HH'.out
        clear HH'
        refine wpAnyH_take (i := 7) (v := ?vw10m77) rfl (by kernel_rfl) (by kernel_rfl) (by kernel_rfl) (fun _ _ _ h => h) (Or.inl ⟨by rfl, fun w' _ => ?yw10m77⟩) HH.out ?_
        case yw10m77 => (go_simp; try with_reducible rfl)
        refine wpAnyH_take (i := 8) (v := ?vw10m78) rfl (by kernel_rfl) (by kernel_rfl) (by kernel_rfl) (fun _ _ _ h => h) (Or.inl ⟨by rfl, fun w' _ => ?yw10m78⟩) HH.out ?_
        case yw10m78 => (go_simp; try with_reducible rfl)
        try simp only [List.getElem_toArray, List.getElem_cons_succ, List.getElem_cons_zero, Act.put, List.setIfInBounds_toArray, List.set_cons_zero, List.set_cons_succ]
        refine wpAnyH_take (i := 9) (v := ?vw10m79) rfl (by kernel_rfl) (by kernel_rfl) (by kernel_rfl) (fun _ _ _ h => h) (Or.inl ⟨by rfl, fun w' _ => ?yw10m79⟩) HH.out ?_
        case yw10m79 => (go_simp; try with_reducible rfl)
        try simp only [List.getElem_toArray, List.getElem_cons_succ, List.getElem_cons_zero, Act.put, List.setIfInBounds_toArray, List.set_cons_zero, List.set_cons_succ]
        refine wpAnyH_ready (rs := [11]) (by kernel_rfl) (by simp) (AllReadyH.cons rfl (fun K hK => ?_) AllReadyH.nil)
        go_simp
        have FY := Lib.hid (show Blk (World.alloc wq7 (.cells (bva z) 23)) wq7.heap.size (bva z) 23 from heap_alloc_new _ _)
        have FX' := Lib.hid (show Blk (World.alloc wq7 (.cells (bva z) 23)) _ _ _ from blk_oldL FX.out)
        clear FX
        have FX := Lib.hid FX'.out
        clear FX'
        refine hK.out _ _ (HH.out.alloc HH.out.size _) (fun hh => ?_)
        have HH' := Lib.hid hh
        clear hh hK K HH 
        have HH := Lib.hid HH'.out
        clear HH'
        have hszwq8 : wq7.heap.size < (World.alloc wq7 (.cells (bva z) 23)).heap.size := by simp
        generalize hWwq8 : World.alloc wq7 (.cells (bva z) 23) = wq8 at *
        clear hWwq8
        have hsd := HSD.out
        have hXw : W3.heap.size ≤ wd.heap.size := by omega
        have hYw : W3.heap.size ≤ wq7.heap.size := by omega
        have hXY : wd.heap.size ≠ wq7.heap.size := by omega
        clear hsd
        try simp only [List.getElem_toArray, List.getElem_cons_succ, List.getElem_cons_zero, Act.put, List.setIfInBounds_toArray, List.set_cons_zero, List.set_cons_succ]
        refine wpAnyH_ready (rs := [12]) (by kernel_rfl) (by simp) (AllReadyH.cons rfl (fun K hK => ?_) AllReadyH.nil)
        rw [if_pos (by rfl)]
        refine wp_store_row 23 (.tmp 7) (.tmp 22) rfl (wd.heap.size) (bva p) rfl rfl 23 (bva z) FX.out HKP.out (by simp only [bva_size, P3.out, Z3.out]) (bva_one _) ?_
        have GX := Lib.hid (show Blk (World.setRow wq8 (wd.heap.size) (bva p)) (wd.heap.size) (bva p) 23 from setRow_heap _ _ _ _ _ _ FX.out)
        have GY := Lib.hid (show Blk (World.setRow wq8 (wd.heap.size) (bva p)) (wq7.heap.size) (bva z) 23 from blk_row FY.out (fun e => hXY e.symm))
        refine hK.out _ _ (below_setRow HH.out hXw _) (fun hh => ?_)
        have HH' := Lib.hid hh
        clear hh hK K HH FX FY
        have HH := Lib.hid HH'.out
        clear HH'
        generalize hWs : World.setRow wq8 (wd.heap.size) (bva p) = ws at *
        clear hWs
        try simp only [List.getElem_toArray, List.getElem_cons_succ, List.getElem_cons_zero, Act.put]
        refine wpAnyH_ready (rs := [13]) (by kernel_rfl) (by simp) (AllReadyH.cons rfl (fun K hK => ?_) AllReadyH.nil)
        rw [if_pos (by rfl)]
        refine wp_store_row 23 (.tmp 8) (.tmp 23) rfl (wq7.heap.size) (bva q) rfl rfl 23 (bva z) GY.out HKQ.out (by simp only [bva_size, Q3.out, Z3.out]) (bva_one _) ?_
        have KX := Lib.hid (show Blk (World.setRow ws (wq7.heap.size) (bva q)) (wd.heap.size) (bva p) 23 from blk_row GX.out hXY)
        have KY := Lib.hid (show Blk (World.setRow ws (wq7.heap.size) (bva q)) (wq7.heap.size) (bva q) 23 from setRow_heap _ _ _ _ _ _ GY.out)
        refine hK.out _ _ (below_setRow HH.out hYw _) (fun hh => ?_)
        have HH' := Lib.hid hh
        clear hh hK K HH GX GY
        have HH := Lib.hid HH'.out
        clear HH'
        generalize hWt : World.setRow ws (wq7.heap.size) (bva q) = wt at *
        clear hWt
        try simp only [List.getElem_toArray, List.getElem_cons_succ, List.getElem_cons_zero, Act.put]
        refine wpAnyH_done (by kernel_rfl) ?_ _
        try simp only [List.getElem_toArray, List.getElem_cons_succ, List.getElem_cons_zero, Act.put]
        obtain ⟨X, hX⟩ : ∃ X, wd.heap.size = X := ⟨_, rfl⟩
        obtain ⟨Y, hY⟩ : ∃ Y, wq7.heap.size = Y := ⟨_, rfl⟩
        have kx := KX.out
        have ky := KY.out
        have kb := HH.out
        clear KX KY HH
        simp only [hX, hY] at *
        clear hX hY
        exact hG X Y wt ⟨hXY, hXw, hYw, kx, ky, kb⟩
      · go_simp
        have FY := Lib.hid (show Blk (World.alloc wq6 (.cells (bva z) 23)) wq6.heap.size (bva z) 23 from heap_alloc_new _ _)
        have FX' := Lib.hid (show Blk (World.alloc wq6 (.cells (bva z) 23)) _ _ _ from blk_oldL FX.out)
        clear FX
        have FX := Lib.hid FX'.out
        clear FX'
        refine hK.out _ _ (HH.out.alloc HH.out.size _) (fun hh => ?_)
        have HH' := Lib.hid hh
        clear hh hK K HH 
        have HH := Lib.hid HH'.out
        clear HH'
        have hszwq9 : wq6.heap.size < (World.alloc wq6 (.cells (bva z) 23)).heap.size := by simp
        generalize hWwq9 : World.alloc wq6 (.cells (bva z) 23) = wq9 at *
        clear hWwq9
        try simp only [List.getElem_toArray, List.getElem_cons_succ, List.getElem_cons_zero, Act.put, List.setIfInBounds_toArray, List.set_cons_zero, List.set_cons_succ]
        refine wpAnyH_ready (rs := [6]) (by kernel_rfl) (by simp) (AllReadyH.cons rfl (fun K hK => ?_) AllReadyH.nil)
        go_simp
        refine (ci.hS x.s HS.out _).mono ?_
        rintro e wq10 ⟨rfl, bw⟩
        rw [← HP.out, ← HQ.out]
        have hszwq10 := bw.size
        have FX' := Lib.hid (FX.out.below bw)
        clear FX
        have FX := Lib.hid FX'.out
        clear FX'
        have FY' := Lib.hid (FY.out.below bw)
        clear FY
        have FY := Lib.hid FY'.out
        clear FY'
        go_simp
        refine hK.out _ _ (HH.out.trans (bw.mono HH.out.size)) (fun hh => ?_)
        have HH' := Lib.hid hh
        clear hh hK K HH bw
        have HH := Lib.hid HH'.out
        clear HH'
        refine wpAnyH_take (i := 7) (v := ?vw1011m107) rfl (by kernel_rfl) (by kernel_rfl) (by kernel_rfl) (fun _ _ _ h => h) (Or.inl ⟨by rfl, fun w' _ => ?yw1011m107⟩) HH.out ?_
        case yw1011m107 => (go_simp; try with_reducible rfl)
        refine wpAnyH_take (i := 8) (v := ?vw1011m108) rfl (by kernel_rfl) (by kernel_rfl) (by kernel_rfl) (fun _ _ _ h => h) (Or.inl ⟨by rfl, fun w' _ => ?yw1011m108⟩) HH.out ?_
        case yw1011m108 => (go_simp; try with_reducible rfl)
        try simp only [List.getElem_toArray, List.getElem_cons_succ, List.getElem_cons_zero, Act.put, List.setIfInBounds_toArray, List.set_cons_zero, List.set_cons_succ]
        refine wpAnyH_take (i := 9) (v := ?vw1011m109) rfl (by kernel_rfl) (by kernel_rfl) (by kernel_rfl) (fun _ _ _ h => h) (Or.inl ⟨by rfl, fun w' _ => ?yw1011m109⟩) HH.out ?_
        case yw1011m109 => (go_simp; try with_reducible rfl)
        have hsd := HSD.out
        have hXw : W3.heap.size ≤ wd.heap.size := by omega
        have hYw : W3.heap.size ≤ wq6.heap.size := by omega
        have hXY : wd.heap.size ≠ wq6.heap.size := by omega
        clear hsd
        try simp only [List.getElem_toArray, List.getElem_cons_succ, List.getElem_cons_zero, Act.put, List.setIfInBounds_toArray, List.set_cons_zero, List.set_cons_succ]
        refine wpAnyH_ready (rs := [12]) (by kernel_rfl) (by simp) (AllReadyH.cons rfl (fun K hK => ?_) AllReadyH.nil)
        rw [if_pos (by rfl)]
        refine wp_store_row 23 (.tmp 7) (.tmp 22) rfl (wd.heap.size) (bva p) rfl rfl 23 (bva z) FX.out HKP.out (by simp only [bva_size, P3.out, Z3.out]) (bva_one _) ?_
        have GX := Lib.hid (show Blk (World.setRow wq10 (wd.heap.size) (bva p)) (wd.heap.size) (bva p) 23 from setRow_heap _ _ _ _ _ _ FX.out)
        have GY := Lib.hid (show Blk (World.setRow wq10 (wd.heap.size) (bva p)) (wq6.heap.size) (bva z) 23 from blk_row FY.out (fun e => hXY e.symm))
        refine hK.out _ _ (below_setRow HH.out hXw _) (fun hh => ?_)
        have HH' := Lib.hid hh
        clear hh hK K HH FX FY
        have HH := Lib.hid HH'.out
        clear HH'
        generalize hWs : World.setRow wq10 (wd.heap.size) (bva p) = ws at *
        clear hWs
        try simp only [List.getElem_toArray, List.getElem_cons_succ, List.getElem_cons_zero, Act.put]
        refine wpAnyH_ready (rs := [13]) (by kernel_rfl) (by simp) (AllReadyH.cons rfl (fun K hK => ?_) AllReadyH.nil)
        rw [if_pos (by rfl)]
        refine wp_store_row 23 (.tmp 8) (.tmp 23) rfl (wq6.heap.size) (bva q) rfl rfl 23 (bva z) GY.out HKQ.out (by simp only [bva_size, Q3.out, Z3.out]) (bva_one _) ?_
        have KX := Lib.hid (show Blk (World.setRow ws (wq6.heap.size) (bva q)) (wd.heap.size) (bva p) 23 from blk_row GX.out hXY)
        have KY := Lib.hid (show Blk (World.setRow ws (wq6.heap.size) (bva q)) (wq6.heap.size) (bva q) 23 from setRow_heap _ _ _ _ _ _ GY.out)
        refine hK.out _ _ (below_setRow HH.out hYw _) (fun hh => ?_)
        have HH' := Lib.hid hh
        clear hh hK K HH GX GY
        have HH := Lib.hid HH'.out
        clear HH'
        generalize hWt : World.setRow ws (wq6.heap.size) (bva q) = wt at *
        clear hWt
        try simp only [List.getElem_toArray, List.getElem_cons_succ, List.getElem_cons_zero, Act.put]
        refine wpAnyH_done (by kernel_rfl) ?_ _
        try simp only [List.getElem_toArray, List.getElem_cons_succ, List.getElem_cons_zero, Act.put]
        obtain ⟨X, hX⟩ : ∃ X, wd.heap.size = X := ⟨_, rfl⟩
        obtain ⟨Y, hY⟩ : ∃ Y, wq6.heap.size = Y := ⟨_, rfl⟩
        have kx := KX.out
        have ky := KY.out
        have kb := HH.out
        clear KX KY HH
        simp only [hX, hY] at *
        clear hX hY
        exact hG X Y wt ⟨hXY, hXw, hYw, kx, ky, kb⟩
    · go_simp
      have FY := Lib.hid (show Blk (World.alloc wd (.cells (bva z) 23)) wd.heap.size (bva z) 23 from heap_alloc_new _ _)
      refine hK.out _ _ (HH.out.alloc HH.out.size _) (fun hh => ?_)
      have HH' := Lib.hid hh
      clear hh hK K HH 
      have HH := Lib.hid HH'.out
      clear HH'
      have hszwq11 : wd.heap.size < (World.alloc wd (.cells (bva z) 23)).heap.size := by simp
      generalize hWwq11 : World.alloc wd (.cells (bva z) 23) = wq11 at *
      clear hWwq11
      try simp only [List.getElem_toArray, List.getElem_cons_succ, List.getElem_cons_zero, Act.put, List.setIfInBounds_toArray, List.set_cons_zero, List.set_cons_succ]
      refine wpAnyH_ready (rs := [6, 10]) (by kernel_rfl) (by simp) (AllReadyH.cons rfl (fun K hK => ?_) (AllReadyH.cons rfl (fun K hK => ?_) AllReadyH.nil))
      · go_simp
        refine (ci.hS x.s HS.out _).mono ?_
        rintro e wq12 ⟨rfl, bw⟩
        rw [← HP.out, ← HQ.out]
        have hszwq12 := bw.size
        have FY' := Lib.hid (FY.out.below bw)
        clear FY
        have FY := Lib.hid FY'.out
        clear FY'
        go_simp
        refine hK.out _ _ (HH.out.trans (bw.mono HH.out.size)) (fun hh => ?_)
        have HH' := Lib.hid hh
        clear hh hK K HH bw
        have HH := Lib.hid HH'.out
        clear HH'
        refine wpAnyH_take (i := 7) (v := ?vw11m127) rfl (by kernel_rfl) (by kernel_rfl) (by kernel_rfl) (fun _ _ _ h => h) (Or.inl ⟨by rfl, fun w' _ => ?yw11m127⟩) HH.out ?_
        case yw11m127 => (go_simp; try with_reducible rfl)
        refine wpAnyH_take (i := 8) (v := ?vw11m128) rfl (by kernel_rfl) (by kernel_rfl) (by kernel_rfl) (fun _ _ _ h => h) (Or.inl ⟨by rfl, fun w' _ => ?yw11m128⟩) HH.out ?_
        case yw11m128 => (go_simp; try with_reducible rfl)
        try simp only [List.getElem_toArray, List.getElem_cons_succ, List.getElem_cons_zero, Act.put, List.setIfInBounds_toArray, List.set_cons_zero, List.set_cons_succ]
        refine wpAnyH_take (i := 9) (v := ?vw11m129) rfl (by kernel_rfl) (by kernel_rfl) (by kernel_rfl) (fun _ _ _ h => h) (Or.inl ⟨by rfl, fun w' _ => ?yw11m129⟩) HH.out ?_
        case yw11m129 => (go_simp; try with_reducible rfl)
        try simp only [List.getElem_toArray, List.getElem_cons_succ, List.getElem_cons_zero, Act.put, List.setIfInBounds_toArray, List.set_cons_zero, List.set_cons_succ]
        refine wpAnyH_ready (rs := [10]) (by kernel_rfl) (by simp) (AllReadyH.cons rfl (fun K hK => ?_) AllReadyH.nil)
        go_simp
        have FX := Lib.hid (show Blk (World.alloc wq12 (.cells (bva z) 23)) wq12.heap.size (bva z) 23 from heap_alloc_new _ _)
        have FY' := Lib.hid (show Blk (World.alloc wq12 (.cells (bva z) 23)) _ _ _ from blk_oldL FY.out)
        clear FY
        have FY := Lib.hid FY'.out
        clear FY'
        refine hK.out _ _ (HH.out.alloc HH.out.size _) (fun hh => ?_)
        have HH' := Lib.hid hh
        clear hh hK K HH 
        have HH := Lib.hid HH'.out
        clear HH'
        have hszwq13 : wq12.heap.size < (World.alloc wq12 (.cells (bva z) 23)).heap.size := by simp
        generalize hWwq13 : World.alloc wq12 (.cells (bva z) 23) = wq13 at *
        clear hWwq13
        have hsd := HSD.out
        have hXw : W3.heap.size ≤ wq12.heap.size := by omega
        have hYw : W3.heap.size ≤ wd.heap.size := by omega
        have hXY : wq12.heap.size ≠ wd.heap.size := by omega
        clear hsd
        try simp only [List.getElem_toArray, List.getElem_cons_succ, List.getElem_cons_zero, Act.put, List.setIfInBounds_toArray, List.set_cons_zero, List.set_cons_succ]
        refine wpAnyH_ready (rs := [12]) (by kernel_rfl) (by simp) (AllReadyH.cons rfl (fun K hK => ?_) AllReadyH.nil)
        rw [if_pos (by rfl)]
        refine wp_store_row 23 (.tmp 7) (.tmp 22) rfl (wq12.heap.size) (bva p) rfl rfl 23 (bva z) FX.out HKP.out (by simp only [bva_size, P3.out, Z3.out]) (bva_one _) ?_
        have GX := Lib.hid (show Blk (World.setRow wq13 (wq12.heap.size) (bva p)) (wq12.heap.size) (bva p) 23 from setRow_heap _ _ _ _ _ _ FX.out)
        have GY := Lib.hid (show Blk (World.setRow wq13 (wq12.heap.size) (bva p)) (wd.heap.size) (bva z) 23 from blk_row FY.out (fun e => hXY e.symm))
        refine hK.out _ _ (below_setRow HH.out hXw _) (fun hh => ?_)
        have HH' := Lib.hid hh
        clear hh hK K HH FX FY
        have HH := Lib.hid HH'.out
        clear HH'
        generalize hWs : World.setRow wq13 (wq12.heap.size) (bva p) = ws at *
        clear hWs
        try simp only [List.getElem_toArray, List.getElem_cons_succ, List.getElem_cons_zero, Act.put]
        refine wpAnyH_ready (rs := [13]) (by kernel_rfl) (by simp) (AllReadyH.cons rfl (fun K hK => ?_) AllReadyH.nil)
        rw [if_pos (by rfl)]
        refine wp_store_row 23 (.tmp 8) (.tmp 23) rfl (wd.heap.size) (bva q) rfl rfl 23 (bva z) GY.out HKQ.out (by simp only [bva_size, Q3.out, Z3.out]) (bva_one _) ?_
        have KX := Lib.hid (show Blk (World.setRow ws (wd.heap.size) (bva q)) (wq12.heap.size) (bva p) 23 from blk_row GX.out hXY)
        have KY := Lib.hid (show Blk (World.setRow ws (wd.heap.size) (bva q)) (wd.heap.size) (bva q) 23 from setRow_heap _ _ _ _ _ _ GY.out)
        refine hK.out _ _ (below_setRow HH.out hYw _) (fun hh => ?_)
        have HH' := Lib.hid hh
        clear hh hK K HH GX GY
        have HH := Lib.hid HH'.out
        clear HH'
        generalize hWt : World.setRow ws (wd.heap.size) (bva q) = wt at *
        clear hWt
        try simp only [List.getElem_toArray, List.getElem_cons_succ, List.getElem_cons_zero, Act.put]
        refine wpAnyH_done (by kernel_rfl) ?_ _
        try simp only [List.getElem_toArray, List.getElem_cons_succ, List.getElem_cons_zero, Act.put]
        obtain ⟨X, hX⟩ : ∃ X, wq12.heap.size = X := ⟨_, rfl⟩
        obtain ⟨Y, hY⟩ : ∃ Y, wd.heap.size = Y := ⟨_, rfl⟩
        have kx := KX.out
        have ky := KY.out
        have kb := HH.out
        clear KX KY HH
        simp only [hX, hY] at *
        clear hX hY
        exact hG X Y wt ⟨hXY, hXw, hYw, kx, ky, kb⟩
      · go_simp
        have FX := Lib.hid (show Blk (World.alloc wq11 (.cells (bva z) 23)) wq11.heap.size (bva z) 23 from heap_alloc_new _ _)
        have FY' := Lib.hid (show Blk (World.alloc wq11 (.cells (bva z) 23)) _ _ _ from blk_oldL FY.out)
        clear FY
        have FY := Lib.hid FY'.out
        clear FY'
        refine hK.out _ _ (HH.out.alloc HH.out.size _) (fun hh => ?_)
        have HH' := Lib.hid hh
        clear hh hK K HH 
        have HH := Lib.hid HH'.out
        clear HH'
        have hszwq14 : wq11.heap.size < (World.alloc wq11 (.cells (bva z) 23)).heap.size := by simp
        generalize hWwq14 : World.alloc wq11 (.cells (bva z) 23) = wq14 at *
        clear hWwq14
        try simp only [List.getElem_toArray, List.getElem_cons_succ, List.getElem_cons_zero, Act.put, List.setIfInBounds_toArray, List.set_cons_zero, List.set_cons_succ]
        refine wpAnyH_ready (rs := [6]) (by kernel_rfl) (by simp) (AllReadyH.cons rfl (fun K hK => ?_) AllReadyH.nil)
        go_simp
        refine (ci.hS x.s HS.out _).mono ?_
        rintro e wq15 ⟨rfl, bw⟩
        rw [← HP.out, ← HQ.out]
        have hszwq15 := bw.size
        have FX' := Lib.hid (FX.out.below bw)
        clear FX
        have FX := Lib.hid FX'.out
        clear FX'
        have FY' := Lib.hid (FY.out.below bw)
        clear FY
        have FY := Lib.hid FY'.out
        clear FY'
        go_simp
        refine hK.out _ _ (HH.out.trans (bw.mono HH.out.size)) (fun hh => ?_)
        have HH' := Lib.hid hh
        clear hh hK K HH bw
        have HH := Lib.hid HH'.out
        clear HH'
        refine wpAnyH_take (i := 7) (v := ?vw1110m157) rfl (by kernel_rfl) (by kernel_rfl) (by kernel_rfl) (fun _ _ _ h => h) (Or.inl ⟨by rfl, fun w' _ => ?yw1110m157⟩) HH.out ?_
        case yw1110m157 => (go_simp; try with_reducible rfl)
        refine wpAnyH_take (i := 8) (v := ?vw1110m158) rfl (by kernel_rfl) (by kernel_rfl) (by kernel_rfl) (fun _ _ _ h => h) (Or.inl ⟨by rfl, fun w' _ => ?yw1110m158⟩) HH.out ?_
        case yw1110m158 => (go_simp; try with_reducible rfl)
        try simp only [List.getElem_toArray, List.getElem_cons_succ, List.getElem_cons_zero, Act.put, List.setIfInBounds_toArray, List.set_cons_zero, List.set_cons_succ]
        refine wpAnyH_take (i := 9) (v := ?vw1110m159) rfl (by kernel_rfl) (by kernel_rfl) (by kernel_rfl) (fun _ _ _ h => h) (Or.inl ⟨by rfl, fun w' _ => ?yw1110m159⟩) HH.out ?_
        case yw1110m159 => (go_simp; try with_reducible rfl)
        have hsd := HSD.out
        have hXw : W3.heap.size ≤ wq11.heap.size := by omega
        have hYw : W3.heap.size ≤ wd.heap.size := by omega
        have hXY : wq11.heap.size ≠ wd.heap.size := by omega
        clear hsd
        try simp only [List.getElem_toArray, List.getElem_cons_succ, List.getElem_cons_zero, Act.put, List.setIfInBounds_toArray, List.set_cons_zero, List.set_cons_succ]
        refine wpAnyH_ready (rs := [12]) (by kernel_rfl) (by simp) (AllReadyH.cons rfl (fun K hK => ?_) AllReadyH.nil)
        rw [if_pos (by rfl)]
        refine wp_store_row 23 (.tmp 7) (.tmp 22) rfl (wq11.heap.size) (bva p) rfl rfl 23 (bva z) FX.out HKP.out (by simp only [bva_size, P3.out, Z3.out]) (bva_one _) ?_
        have GX := Lib.hid (show Blk (World.setRow wq15 (wq11.heap.size) (bva p)) (wq11.heap.size) (bva p) 23 from setRow_heap _ _ _ _ _ _ FX.out)
        have GY := Lib.hid (show Blk (World.setRow wq15 (wq11.heap.size) (bva p)) (wd.heap.size) (bva z) 23 from blk_row FY.out (fun e => hXY e.symm))
        refine hK.out _ _ (below_setRow HH.out hXw _) (fun hh => ?_)
        have HH' := Lib.hid hh
        clear hh hK K HH FX FY
        have HH := Lib.hid HH'.out
        clear HH'
        generalize hWs : World.setRow wq15 (wq11.heap.size) (bva p) = ws at *
        clear hWs
        try simp only [List.getElem_toArray, List.getElem_cons_succ, List.getElem_cons_zero, Act.put]
        refine wpAnyH_ready (rs := [13]) (by kernel_rfl) (by simp) (AllReadyH.cons rfl (fun K hK => ?_) AllReadyH.nil)
        rw [if_pos (by rfl)]
        refine wp_store_row 23 (.tmp 8) (.tmp 23) rfl (wd.heap.size) (bva q) rfl rfl 23 (bva z) GY.out HKQ.out (by simp only [bva_size, Q3.out, Z3.out]) (bva_one _) ?_
        have KX := Lib.hid (show Blk (World.setRow ws (wd.heap.size) (bva q)) (wq11.heap.size) (bva p) 23 from blk_row GX.out hXY)
        have KY := Lib.hid (show Blk (World.setRow ws (wd.heap.size) (bva q)) (wd.heap.size) (bva q) 23 from setRow_heap _ _ _ _ _ _ GY.out)
        refine hK.out _ _ (below_setRow HH.out hYw _) (fun hh => ?_)
        have HH' := Lib.hid hh
        clear hh hK K HH GX GY
        have HH := Lib.hid HH'.out
        clear HH'
        generalize hWt : World.setRow ws (wd.heap.size) (bva q) = wt at *
        clear hWt
        try simp only [List.getElem_toArray, List.getElem_cons_succ, List.getElem_cons_zero, Act.put]
        refine wpAnyH_done (by kernel_rfl) ?_ _
        try simp only [List.getElem_toArray, List.getElem_cons_succ, List.getElem_cons_zero, Act.put]
        obtain ⟨X, hX⟩ : ∃ X, wq11.heap.size = X := ⟨_, rfl⟩
        obtain ⟨Y, hY⟩ : ∃ Y, wd.heap.size = Y := ⟨_, rfl⟩
        have kx := KX.out
        have ky := KY.out
        have kb := HH.out
        clear KX KY HH
        simp only [hX, hY] at *
        clear hX hY
        exact hG X Y wt ⟨hXY, hXw, hYw, kx, ky, kb⟩
  case rest =>
    rintro X Y w4 ⟨hXY, hX, hY, dX, dY, db⟩
    have d0 := B0.out.below db
    have d1 := B1.out.below db
    have d2 := B2.out.below db
    have dM := h2c.out db
    have dbb := BB.out.trans (db.mono BB.out.size)
    have e0 := B0.out.lt
    have e3 := db.size
    have c1 := ndt_a d0
    have D0 := Lib.hid d0
    have D1 := Lib.hid d1
    have D2 := Lib.hid d2
    have DM := Lib.hid dM
    have DX := Lib.hid (show Blk w4 X (bva p) 23 from dX)
    have DY := Lib.hid (show Blk w4 Y (bva q) 23 from dY)
    have DB := Lib.hid dbb
    have hM1 := (manyI_ok (d := x.d + 1) (by have := HX.out.1; omega) (by have := HD.out; omega)).2
    have hLs : (ndL ci x).s.length = 32 := ci.lenL _
    have hRs : (ndR ci x).s.length = 32 := ci.lenR _
    obtain ⟨ndl, hndl⟩ : ∃ y, y = ndL ci x := ⟨_, rfl⟩
    obtain ⟨ndr, hndr⟩ : ∃ y, y = ndR ci x := ⟨_, rfl⟩
    have hBL : ∀ W, (Instr.build 53 #[(0, .int .i64 (x.d + 1)), (1, .int .u64 x.a), (2, .agg (bva p))]).run Tryd.prog W = .ok (.agg (ndC ndl)) W := fun W => by rw [hndl, ndL, ← HP.out]; exact build_held ⟨x.d + 1, x.a, p⟩ P3.out W
    obtain ⟨M, hM⟩ : ∃ M, M = manyI (x.d + 1) := ⟨_, rfl⟩
    obtain ⟨ra, hra⟩ : ∃ ra, ra = IntKind.u64.wrap (x.a + M) := ⟨_, rfl⟩
    have hBR : ∀ W, (Instr.build 53 #[(0, .int .i64 (x.d + 1)), (1, .int .u64 ra), (2, .agg (bva q))]).run Tryd.prog W = .ok (.agg (ndC ndr)) W := fun W => by rw [hndr, ndR, ← HQ.out, hra, hM]; exact build_held ⟨x.d + 1, _, q⟩ Q3.out W
    have hraA : ndr.a = ra := by rw [hndr, hra, hM]; rfl
    have hLV : ∀ W, Calls Tryd.prog 26 #[.int .i64 (x.d + 1)] W (fun e w' => e = .returned (.int .u64 M) ∧ W = w') := fun W => by rw [hM]; exact leaves_any (x.d + 1) (by have := HX.out.1; omega) (by have := HD.out; omega) W
    have HBL := Lib.hid hBL
    have HBR := Lib.hid hBR
    have HRA := Lib.hid hraA
    have HLV := Lib.hid hLV
    have NL := Lib.hid (show ndl.s.length = 32 by rw [hndl]; exact hLs)
    have NR := Lib.hid (show ndr.s.length = 32 by rw [hndr]; exact hRs)
    have hW : IntKind.u64.wrap (x.a + M) = ra := hra.symm
    rw [← hndl, ← hndr, hraA] at HN HA
    have HIL : Hid ((Tryd.prog.info? 53).map (·.size) = some (ndC ndl).size) := by rw [ndC_size NL.out]; exact info_held
    have HIR : Hid ((Tryd.prog.info? 53).map (·.size) = some (ndC ndr).size) := by rw [ndC_size NR.out]; exact info_held
    clear hBL hBR hraA hLV hLs hRs hndl hndr hM hM1 hra d0 d1 d2 dM dX dY dbb db B0 B1 B2 BB h1c h2c c0c
    go_wp2_with (first
      | (refine wpList_load_row rfl 23 (.tmp 7) rfl X rfl 23 (bva p) (0, 0) _ DX.out Tryd.underlying23 rfl HKP.out ?_)
      | (refine wpList_build (v := .agg (ndC ndl)) rfl 53 #[(0, .tmp 24), (1, .tmp 26), (2, .tmp 27)] rfl ?hbb ?_
         case hbb => (simp only [List.map_toArray, List.map_cons, List.map_nil]
                      show (Instr.build 53 #[(0, .int .i64 (x.d + 1)), (1, .int .u64 x.a), (2, .agg (bva p))]).run Tryd.prog _ = _
                      exact HBL.out _))
      | (refine wpList_store_row rfl 53 (.tmp 9) (.tmp 28) rfl w4.heap.size (ndC ndl) rfl rfl 53 cz (heap_alloc_new _ _) HIL.out (by rw [ndC_size NL.out, ZH.out]) (ndC_one _) ?_
         generalize hw5 : World.setRow _ _ _ = w5
         have e5 : Below w4.heap.size w4 w5 := by rw [← hw5]; exact below_new (Below.refl _ _) (Nat.le_refl _)
         have n5 : Blk w5 w4.heap.size (ndC ndl) 53 := by rw [← hw5]; exact blk_new _
         clear hw5))
    have D5 := Lib.hid (D0.out.below e5)
    have Y5 := Lib.hid (DY.out.below e5)
    have E5 := Lib.hid e5
    have N5 := Lib.hid n5
    clear e5 n5 c1
    refine wp_region_held_drew (S := fun w' => Below w5.heap.size w5 w') (by kernel_rfl) (Below.refl _ _).drew (fun hh => ?_)
    have HH := Lib.hid hh
    clear hh
    refine wpAnyH_take (i := 0) (v := ?vc0) rfl (by kernel_rfl) (by kernel_rfl) (by kernel_rfl) (fun _ _ _ h => h) (Or.inl ⟨by rfl, fun w' hw' => ?yc0⟩) HH.out ?_
    case yc0 => (go_simp; try with_reducible rfl)
    refine wpAnyH_take (i := 1) (v := ?vc1) rfl (by kernel_rfl) (by kernel_rfl) (by kernel_rfl) (fun _ _ _ h => h) (Or.inl ⟨by rfl, fun w' hw' => ?yc1⟩) HH.out ?_
    case yc1 => (go_simp; try with_reducible rfl)
    try simp only [List.getElem_toArray, List.getElem_cons_succ, List.getElem_cons_zero, Act.put, List.setIfInBounds_toArray, List.set_cons_zero, List.set_cons_succ]
    refine wpAnyH_take (i := 2) (v := ?vc2) rfl (by kernel_rfl) (by kernel_rfl) (by kernel_rfl) (fun _ _ _ h => h) (Or.inl ⟨by rfl, fun w' hw' => ?yc2⟩) HH.out ?_
    case yc2 => (have cc := ndt_a (D5.out.below hw'); go_simp; try with_reducible rfl)
    refine wpAnyH_take (i := 3) (v := ?vc3) rfl (by kernel_rfl) (by kernel_rfl) (by kernel_rfl) (fun _ _ _ h => h) (Or.inl ⟨by rfl, fun w' hw' => ?yc3⟩) HH.out ?_
    case yc3 => (go_simp; try with_reducible rfl)
    try simp only [List.getElem_toArray, List.getElem_cons_succ, List.getElem_cons_zero, Act.put, List.setIfInBounds_toArray, List.set_cons_zero, List.set_cons_succ]
    refine wpAnyH_call (i := 4) (v := .int .u64 M) rfl (by kernel_rfl) (by kernel_rfl) (by kernel_rfl) (fun _ _ _ h => h) (by rfl) 26 #[.int .i64 (x.d + 1)] (fun w' => ?yc4) (fun w' => HLV.out w') HH.out ?_
    case yc4 => (go_simp; try with_reducible rfl)
    try simp only [List.getElem_toArray, List.getElem_cons_succ, List.getElem_cons_zero, Act.put, List.setIfInBounds_toArray, List.set_cons_zero, List.set_cons_succ]
    refine wpAnyH_take (i := 5) (v := ?vc5) rfl (by kernel_rfl) (by kernel_rfl) (by kernel_rfl) (fun _ _ _ h => h) (Or.inl ⟨by rfl, fun w' hw' => ?yc5⟩) HH.out ?_
    case yc5 => (go_simp; try with_reducible rfl)
    try simp only [List.getElem_toArray, List.getElem_cons_succ, List.getElem_cons_zero, Act.put, List.setIfInBounds_toArray, List.set_cons_zero, List.set_cons_succ]
    refine wpAnyH_take (i := 6) (v := .agg (bva q)) rfl (by kernel_rfl) (by kernel_rfl) (by kernel_rfl) (fun _ _ _ h => h) (Or.inl ⟨by rfl, fun w' hw' => ?yc6⟩) HH.out ?_
    case yc6 => exact exec_load 23 (.tmp 8) rfl rfl (Y5.out.below hw') Tryd.underlying23 rfl HKQ.out
    try simp only [List.getElem_toArray, List.getElem_cons_succ, List.getElem_cons_zero, Act.put, List.setIfInBounds_toArray, List.set_cons_zero, List.set_cons_succ]
    refine wpAnyH_take (i := 7) (v := .agg (ndC ndr)) rfl (by kernel_rfl) (by kernel_rfl) (by kernel_rfl) (fun _ _ _ h => h) (Or.inl ⟨by rfl, fun w' _ => ?yc7⟩) HH.out ?_
    case yc7 =>
      refine exec_build 53 #[(0, .tmp 29), (1, .tmp 34), (2, .tmp 35)] rfl ?_
      simp only [List.map_toArray, List.map_cons, List.map_nil]
      show (Instr.build 53 #[(0, .int .i64 (x.d + 1)), (1, .int .u64 ra), (2, .agg (bva q))]).run Tryd.prog _ = _
      exact HBR.out _
    try simp only [List.getElem_toArray, List.getElem_cons_succ, List.getElem_cons_zero, Act.put, List.setIfInBounds_toArray, List.set_cons_zero, List.set_cons_succ]
    have hh2 := HH.out
    clear HH
    have hse : w5.drew.heap.size = w5.heap.size := rfl
    generalize w5.drew = wd5 at *
    have HH := Lib.hid hh2
    have HSE := Lib.hid hse
    clear hh2 hse
    refine wpAnyH_ready (rs := [8]) (by kernel_rfl) (by simp) (AllReadyH.cons rfl (fun K hK => ?_) AllReadyH.nil)
    go_simp
    refine hK.out _ _ (HH.out.alloc HH.out.size _) (fun hh => ?_)
    have HH' := Lib.hid hh
    clear hh hK K HH 
    have HH := Lib.hid HH'.out
    clear HH'
    try simp only [List.getElem_toArray, List.getElem_cons_succ, List.getElem_cons_zero, Act.put, List.setIfInBounds_toArray, List.set_cons_zero, List.set_cons_succ]
    refine wpAnyH_ready (rs := [9]) (by kernel_rfl) (by simp) (AllReadyH.cons rfl (fun K hK => ?_) AllReadyH.nil)
    rw [if_pos (by rfl)]
    refine wp_store_row 53 (.tmp 10) (.tmp 36) rfl wd5.heap.size (ndC ndr) rfl rfl 53 cz (heap_alloc_new wd5 _) HIR.out (by rw [ndC_size NR.out, ZH.out]) (ndC_one _) ?_
    have KN := Lib.hid (show Blk (World.setRow (World.alloc wd5 (.cells cz 53)) wd5.heap.size (ndC ndr)) wd5.heap.size (ndC ndr) 53 from setRow_heap _ _ _ _ _ _ (heap_alloc_new wd5 _))
    refine hK.out _ _ (below_setRow HH.out (Nat.le_of_eq HSE.out.symm) _) (fun hh => ?_)
    have HH' := Lib.hid hh
    clear hh hK K HH 
    have HH := Lib.hid HH'.out
    clear HH'
    generalize hW6 : World.setRow _ _ _ = w6 at *
    clear hW6
    try simp only [List.getElem_toArray, List.getElem_cons_succ, List.getElem_cons_zero, Act.put]
    refine wpAnyH_done (by kernel_rfl) ?_ _
    have b6 := HH.out
    have N6 := Lib.hid (N5.out.below b6)
    have V1 := Lib.hid ((D1.out.below E5.out).below b6)
    have V2 := Lib.hid ((D2.out.below E5.out).below b6)
    have B6 := Lib.hid (DB.out.trans ((E5.out.trans (b6.mono E5.out.size)).mono DB.out.size))
    have cM : w6.cell? ⟨b2, 0, none⟩ = some (.int .u64 m) := (b6.cell (by show b2 < _; have := block_lt_of_cell DM.out; have := E5.out.size; exact Nat.lt_of_lt_of_le (by assumption) (by assumption))).trans ((E5.out.cell (block_lt_of_cell DM.out)).trans DM.out)
    have hn1 : w4.heap.size < wd5.heap.size := by rw [HSE.out]; exact N5.out.lt
    have hn2 := N6.out.lt
    have hn3 : w.heap.size + 1 + 1 < w4.heap.size := D2.out.lt
    have c10 := ndt_a KN.out
    rw [HRA.out] at c10
    have VN := Lib.hid KN.out
    clear KN HH b6 D0 D1 D2 DM DX DY DB D5 Y5 E5 N5 HBL HBR HLV
    by_cases hlt : m < ra
    · have hdc : decide (m < ra) = true := by simp; omega
      have hnear : near = ndl := by have h := HN.out; rwa [if_pos hlt] at h
      have haside : aside = ndr := by have h := HA.out; rwa [if_pos hlt] at h
      have HNE := Lib.hid hnear
      have HAE := Lib.hid haside
      clear hnear haside HN HA hlt
      go_wp2_with fail
      clear c10 cM
      refine wp_region_held_drew (S := fun w' => Blk w' w4.heap.size (ndC ndl) 53 ∧ Blk w' wd5.heap.size (ndC ndr) 53) (by kernel_rfl) ⟨N6.out, VN.out⟩ (fun hh => ?_)
      have HH := Lib.hid hh
      clear hh
      refine wpAnyH_take (i := 0) (v := .agg (ndC ndl)) rfl (by kernel_rfl) (by kernel_rfl) (by kernel_rfl) (fun _ _ _ h => h) (Or.inl ⟨by rfl, fun w' hw' => ?ye0⟩) HH.out ?_
      case ye0 => exact exec_load 53 (.tmp 9) rfl rfl hw'.1 Tryd.underlying53 rfl HIL.out
      refine wpAnyH_take (i := 1) (v := .agg (ndC ndr)) rfl (by kernel_rfl) (by kernel_rfl) (by kernel_rfl) (fun _ _ _ h => h) (Or.inl ⟨by rfl, fun w' hw' => ?ye1⟩) HH.out ?_
      case ye1 => exact exec_load 53 (.tmp 10) rfl rfl hw'.2 Tryd.underlying53 rfl HIR.out
      try simp only [List.getElem_toArray, List.getElem_cons_succ, List.getElem_cons_zero, Act.put, List.setIfInBounds_toArray, List.set_cons_zero, List.set_cons_succ]
      refine wpAnyH_ready (rs := [2]) (by kernel_rfl) (by simp) (AllReadyH.cons rfl (fun K hK => ?_) AllReadyH.nil)
      rw [if_pos (by rfl)]
      refine wp_store_row 53 (.tmp 4) (.tmp 41) rfl (w.heap.size + 1) (ndC ndl) rfl rfl 53 cz V1.out HIL.out (by rw [ndC_size NL.out, ZH.out]) (ndC_one _) ?_
      have g1 := show Blk (World.setRow w6.drew (w.heap.size + 1) (ndC ndl)) (w.heap.size + 1) (ndC ndl) 53 from setRow_heap _ _ _ _ _ _ V1.out
      have g2 := show Blk (World.setRow w6.drew (w.heap.size + 1) (ndC ndl)) (w.heap.size + 1 + 1) cz 53 from blk_row V2.out (by omega)
      have gb := show Below w.heap.size w (World.setRow w6.drew (w.heap.size + 1) (ndC ndl)) from below_setRow B6.out.drew (by omega) _
      refine hK.out _ _ ⟨blk_row HH.out.1 (by omega), blk_row HH.out.2 (by omega)⟩ (fun hh => ?_)
      have HH' := Lib.hid hh
      clear hh hK K HH 
      have HH := Lib.hid HH'.out
      clear HH'
      generalize hW7 : World.setRow _ _ _ = w7 at *
      have G1 := Lib.hid g1
      have G2 := Lib.hid g2
      have GB := Lib.hid gb
      clear hW7 g1 g2 gb V1 V2 B6
      try simp only [List.getElem_toArray, List.getElem_cons_succ, List.getElem_cons_zero, Act.put]
      refine wpAnyH_ready (rs := [3]) (by kernel_rfl) (by simp) (AllReadyH.cons rfl (fun K hK => ?_) AllReadyH.nil)
      rw [if_pos (by rfl)]
      refine wp_store_row 53 (.tmp 5) (.tmp 42) rfl (w.heap.size + 1 + 1) (ndC ndr) rfl rfl 53 cz G2.out HIR.out (by rw [ndC_size NR.out, ZH.out]) (ndC_one _) ?_
      have g1 := show Blk (World.setRow w7 (w.heap.size + 1 + 1) (ndC ndr)) (w.heap.size + 1) (ndC ndl) 53 from blk_row G1.out (by omega)
      have g2 := show Blk (World.setRow w7 (w.heap.size + 1 + 1) (ndC ndr)) (w.heap.size + 1 + 1) (ndC ndr) 53 from setRow_heap _ _ _ _ _ _ G2.out
      have gb := show Below w.heap.size w (World.setRow w7 (w.heap.size + 1 + 1) (ndC ndr)) from below_setRow GB.out (by omega) _
      refine hK.out _ _ ⟨blk_row HH.out.1 (by omega), blk_row HH.out.2 (by omega)⟩ (fun hh => ?_)
      have HH' := Lib.hid hh
      clear hh hK K HH 
      have HH := Lib.hid HH'.out
      clear HH'
      generalize hW8 : World.setRow _ _ _ = w8 at *
      have U1 := Lib.hid g1
      have U2 := Lib.hid g2
      have UB := Lib.hid gb
      clear hW8 g1 g2 gb G1 G2 GB HH
      try simp only [List.getElem_toArray, List.getElem_cons_succ, List.getElem_cons_zero, Act.put]
      refine wpAnyH_done (by kernel_rfl) ?_ _
      go_wp2
      exact bodyPost_ret (v := .tuple #[.agg (ndC ndl), .agg (ndC ndr)]) (results_cells2 Tryd.results35 _ _ (w.heap.size + 1) (w.heap.size + 1 + 1) 53 53 (ndC ndl) (ndC ndr) _ rfl rfl U1.out U2.out Tryd.underlying53 rfl HIL.out HIR.out) rfl ⟨by rw [HNE.out, HAE.out], UB.out⟩
    · have hdc : decide (m < ra) = false := by simp; omega
      have hnear : near = ndr := by have h := HN.out; rwa [if_neg hlt] at h
      have haside : aside = ndl := by have h := HA.out; rwa [if_neg hlt] at h
      have HNE := Lib.hid hnear
      have HAE := Lib.hid haside
      clear hnear haside HN HA hlt
      go_wp2_with fail
      clear c10 cM
      refine wp_region_held_drew (S := fun w' => Blk w' w4.heap.size (ndC ndl) 53 ∧ Blk w' wd5.heap.size (ndC ndr) 53) (by kernel_rfl) ⟨N6.out, VN.out⟩ (fun hh => ?_)
      have HH := Lib.hid hh
      clear hh
      refine wpAnyH_take (i := 0) (v := .agg (ndC ndr)) rfl (by kernel_rfl) (by kernel_rfl) (by kernel_rfl) (fun _ _ _ h => h) (Or.inl ⟨by rfl, fun w' hw' => ?yf0⟩) HH.out ?_
      case yf0 => exact exec_load 53 (.tmp 10) rfl rfl hw'.2 Tryd.underlying53 rfl HIR.out
      refine wpAnyH_take (i := 1) (v := .agg (ndC ndl)) rfl (by kernel_rfl) (by kernel_rfl) (by kernel_rfl) (fun _ _ _ h => h) (Or.inl ⟨by rfl, fun w' hw' => ?yf1⟩) HH.out ?_
      case yf1 => exact exec_load 53 (.tmp 9) rfl rfl hw'.1 Tryd.underlying53 rfl HIL.out
      try simp only [List.getElem_toArray, List.getElem_cons_succ, List.getElem_cons_zero, Act.put, List.setIfInBounds_toArray, List.set_cons_zero, List.set_cons_succ]
      refine wpAnyH_ready (rs := [2]) (by kernel_rfl) (by simp) (AllReadyH.cons rfl (fun K hK => ?_) AllReadyH.nil)
      rw [if_pos (by rfl)]
      refine wp_store_row 53 (.tmp 4) (.tmp 43) rfl (w.heap.size + 1) (ndC ndr) rfl rfl 53 cz V1.out HIR.out (by rw [ndC_size NR.out, ZH.out]) (ndC_one _) ?_
      have g1 := show Blk (World.setRow w6.drew (w.heap.size + 1) (ndC ndr)) (w.heap.size + 1) (ndC ndr) 53 from setRow_heap _ _ _ _ _ _ V1.out
      have g2 := show Blk (World.setRow w6.drew (w.heap.size + 1) (ndC ndr)) (w.heap.size + 1 + 1) cz 53 from blk_row V2.out (by omega)
      have gb := show Below w.heap.size w (World.setRow w6.drew (w.heap.size + 1) (ndC ndr)) from below_setRow B6.out.drew (by omega) _
      refine hK.out _ _ ⟨blk_row HH.out.1 (by omega), blk_row HH.out.2 (by omega)⟩ (fun hh => ?_)
      have HH' := Lib.hid hh
      clear hh hK K HH 
      have HH := Lib.hid HH'.out
      clear HH'
      generalize hW7 : World.setRow _ _ _ = w7 at *
      have G1 := Lib.hid g1
      have G2 := Lib.hid g2
      have GB := Lib.hid gb
      clear hW7 g1 g2 gb V1 V2 B6
      try simp only [List.getElem_toArray, List.getElem_cons_succ, List.getElem_cons_zero, Act.put]
      refine wpAnyH_ready (rs := [3]) (by kernel_rfl) (by simp) (AllReadyH.cons rfl (fun K hK => ?_) AllReadyH.nil)
      rw [if_pos (by rfl)]
      refine wp_store_row 53 (.tmp 5) (.tmp 44) rfl (w.heap.size + 1 + 1) (ndC ndl) rfl rfl 53 cz G2.out HIL.out (by rw [ndC_size NL.out, ZH.out]) (ndC_one _) ?_
      have g1 := show Blk (World.setRow w7 (w.heap.size + 1 + 1) (ndC ndl)) (w.heap.size + 1) (ndC ndr) 53 from blk_row G1.out (by omega)
      have g2 := show Blk (World.setRow w7 (w.heap.size + 1 + 1) (ndC ndl)) (w.heap.size + 1 + 1) (ndC ndl) 53 from setRow_heap _ _ _ _ _ _ G2.out
      have gb := show Below w.heap.size w (World.setRow w7 (w.heap.size + 1 + 1) (ndC ndl)) from below_setRow GB.out (by omega) _
      refine hK.out _ _ ⟨blk_row HH.out.1 (by omega), blk_row HH.out.2 (by omega)⟩ (fun hh => ?_)
      have HH' := Lib.hid hh
      clear hh hK K HH 
      have HH := Lib.hid HH'.out
      clear HH'
      generalize hW8 : World.setRow _ _ _ = w8 at *
      have U1 := Lib.hid g1
      have U2 := Lib.hid g2
      have UB := Lib.hid gb
      clear hW8 g1 g2 gb G1 G2 GB HH
      try simp only [List.getElem_toArray, List.getElem_cons_succ, List.getElem_cons_zero, Act.put]
      refine wpAnyH_done (by kernel_rfl) ?_ _
      go_wp2
      exact bodyPost_ret (v := .tuple #[.agg (ndC ndr), .agg (ndC ndl)]) (results_cells2 Tryd.results35 _ _ (w.heap.size + 1) (w.heap.size + 1 + 1) 53 53 (ndC ndr) (ndC ndl) _ rfl rfl U1.out U2.out Tryd.underlying53 rfl HIR.out HIL.out) rfl ⟨by rw [HNE.out, HAE.out], UB.out⟩
end Go.Proofs.YtippbjpodnnhiaaDoor.Kg
