/-
  SuperWrites: a super is written to its place on both devices, and flushed, as the document says; one that may not be isn't.
-/
import Derived.Test.YtnplhagfmfggcaaSw1
import Derived.Test.YtnplhagfmfggcaaRows
import Derived.ProofKit
import Derived.OpenShut
import Derived.ShutString
import Derived.ChangeOld
namespace Go.Proofs.Ytnplhagfmfggcaa
open Go.RowKit Kd Mi Sx Su Go.ChangeShapes Go.WideShapes Go.ChangeAt
attribute [local go_sem ↓] Go.wp_at_zero Go.wp_at_succ
set_option maxRecDepth 100000 in
set_option maxHeartbeats 6400000 in
theorem superWrites_any (w : World) (t : Sp) (ht : t.ok) : Calls Try.prog 8 #[spA t] w (RetB (.bool true) w) := by
  have HT := Lib.hid ht
  obtain ⟨w1, hw1⟩ : ∃ W, W = w.alloc (.cells (spC t) 100) := ⟨_, rfl⟩
  have X1 := Lib.hid (show Blk w1 w.heap.size (spC t) 100 by rw [hw1]; exact heap_alloc_new _ _)
  have B1 := Lib.hid (show Below w.heap.size w w1 by rw [hw1]; exact (Below.refl _ _).alloc (Nat.le_refl _) _)
  have hzl : ∀ W, (zeroValue 117).run Try.prog W = .ok (.agg zeroLit) W := fun _ => by kernel_rfl
  have hmk := make_four
  unfold spC at hw1 X1
  unfold spA
  clear ht
  go_enter Try.func8, Try.ntmps8
  go_wp2_with fail
  rw [← hw1]
  clear hw1
  refine (awake_any w1).mono ?_
  rintro e w2 ⟨rfl, bw⟩
  have X2 := Lib.hid (X1.out.below bw)
  have B2 := Lib.hid (B1.out.trans (bw.mono B1.out.size))
  clear bw X1 B1
  go_wp2_with fail
  refine (pair_any w2).mono ?_
  rintro e w3 ⟨pw, g1, g2, bx, g, s3, F3, rfl, h⟩
  have H3 := Lib.hid h
  have X3 := Lib.hid (X2.out.below h.live.bel)
  clear h
  have c0 := X3.out.cell 0
  have c1 := X3.out.cell 1
  have c2 := X3.out.cell 2
  go_wp2_with fail
  -- REST
  have HW := Lib.hid (show Calls Try.prog 51 #[.pointer (some ⟨g, 0, none⟩), litS.v, spA t] w3 (Mu.RetM (.int .i64 (if okP t then 0 else 3)) pw g1 g2 (gdS litS bx) g w2 (Sc.startM (lwL t) (lwL t) 4) 0 F3 w3) by
    by_cases hok : okP t = true
    · rw [lwL, if_pos hok, if_pos hok]; exact su_write H3.out t HT.out hok (by omega)
    · have hk : okP t = false := by simpa using hok
      rw [lwL, if_neg hok, if_neg hok]; exact su_write_no H3.out t HT.out hk (by omega))
  obtain ⟨E, hE⟩ : ∃ E : Int, E = if okP t then 0 else 3 := ⟨_, rfl⟩
  have HE := Lib.hid hE
  rw [← hE] at HW
  clear hE
  refine HW.out.mono ?_
  rintro e w4 ⟨rfl, s4, F4, h, _⟩
  have H4 := Lib.hid h
  clear h HW H3
  have HL := Lib.hid (lwL_len t)
  have HL3 := Lib.hid (lwL_three t)
  obtain ⟨L, hL⟩ : ∃ L, L = lwL t := ⟨_, rfl⟩
  rw [← hL] at H4 HL HL3
  have HLE := Lib.hid hL
  clear hL c0 c1 c2
  go_wp2_with fail
  refine (dump_st0 H4.out).mono ?_
  rintro e w5 ⟨A1, d1, rfl, o1, bw, _⟩
  have O1 := Lib.hid o1
  have H5 := Lib.hid (H4.out.below bw)
  clear o1 bw H4
  go_wp2_with fail
  refine (dump_st1 H5.out).mono ?_
  rintro e w6 ⟨A2, d2, rfl, o2, bw, _⟩
  have R2 := Lib.hid o2
  have R1 := Lib.hid ((O1.out.below bw).more bw.size)
  have H6 := Lib.hid (H5.out.below bw)
  clear o2 bw H5 O1
  have B6 := Lib.hid (B2.out.trans (H6.out.live.bel.mono B2.out.size))
  obtain ⟨w7, hw7⟩ : ∃ W, W = w6.alloc (.cells (svQ zeros4) 38) := ⟨_, rfl⟩
  obtain ⟨b10, hb10⟩ : ∃ b, b = w6.heap.size := ⟨_, rfl⟩
  have bw : Below w6.heap.size w6 w7 := by rw [hw7]; exact (Below.refl _ _).alloc (Nat.le_refl _) _
  have W7 := Lib.hid (show Blk w7 b10 (svQ zeros4) 38 by rw [hw7, hb10]; exact heap_alloc_new _ _)
  have NB := Lib.hid (show w.heap.size ≠ b10 by rw [hb10]; have := X3.out.lt; have h2 := H6.out.live.bel.size; have h3 := B2.out.size; have h4 := X2.out.lt; omega)
  have BW7 := Lib.hid (show Below b10 w6 w7 by rw [hb10]; exact bw)
  have X7 := Lib.hid ((X2.out.below H6.out.live.bel).below bw)
  have HB10 := Lib.hid hb10
  have c0 := X7.out.cell 0
  have c1 := X7.out.cell 1
  have c2 := X7.out.cell 2
  have e0 := hmk w6
  rw [← hw7, ← hb10] at e0
  clear hmk bw hw7 hb10
  go_wp2_with fail
  refine (may_any t w7).mono ?_
  rintro e w8 ⟨rfl, bw⟩
  have X8 := Lib.hid (X7.out.below bw)
  have W8 := Lib.hid (W7.out.below bw)
  have BB8 := Lib.hid (BW7.out.trans (bw.mono (show b10 ≤ w7.heap.size by have := BW7.out.size; have := HB10.out; omega)))
  clear bw X7 W7 BW7 c0 c1 c2 e0
  by_cases hok : okP t = true
  · have HLW := Lib.hid (show L = zeros4.set (placeP t) (secP litSumL t) by rw [HLE.out, lwL, if_pos hok])
    have hE0 : E = 0 := by rw [HE.out, if_pos hok]
    subst hE0
    have HSC := Lib.hid (fun W => vsec_any t HT.out hok W)
    obtain ⟨y, hy⟩ : ∃ y, y = secP litSumL t := ⟨_, rfl⟩
    have HYE := Lib.hid hy
    have HY3 := Lib.hid (show y.length = 128 by rw [hy]; exact len_sec t)
    have HIY := Lib.hid (show (Try.prog.info? 38).map (·.size) = some (bva y).size by rw [bva_size, HY3.out]; exact info_sec)
    have HZW := Lib.hid (show ∀ y ∈ zeros4, y.length = 128 from fun y hy => by rw [(List.mem_replicate.1 hy).2]; exact zeroS_length)
    rw [← hy] at HSC
    have p0 : (0 : Int) ≤ (placeP t : Int) := by omega
    have p1 : (placeP t : Int) < 4 := by have := place_lt t; omega
    have p2 : (t.v : Int) % 2 = (placeP t : Int) := rfl
    rw [hok]
    clear hok hy
    go_wp2_with fail
    refine wp_region_held_drew (S := fun w' => Blk w' w.heap.size #[.int .u64 (t.v : Int), .int .i64 t.n, .int .u64 (t.t : Int)] 100) (by kernel_rfl) (show Blk (World.drew _) _ _ _ from X8.out) (fun hh => ?_)
    have HH := Lib.hid hh
    clear hh
    have W8 := Lib.hid (show Blk (World.drew _) _ _ _ from W8.out)
    have BB8 := Lib.hid BB8.out.drew
    try simp only [List.getElem_toArray, List.getElem_cons_succ, List.getElem_cons_zero, Act.put, List.setIfInBounds_toArray, List.set_cons_zero, List.set_cons_succ]
    refine wpAnyH_take (i := 0) (v := ?v1) rfl (by kernel_rfl) (by kernel_rfl) (by kernel_rfl) (fun _ _ _ h => h) (Or.inl ⟨by rfl, fun w' hw' => ?y1⟩) HH.out ?_
    case y1 => (go_simp; try with_reducible rfl)
    try simp only [List.getElem_toArray, List.getElem_cons_zero, Act.put, List.setIfInBounds_toArray, List.set_cons_zero, List.set_cons_succ]
    refine wpAnyH_take (i := 1) (v := ?v2) rfl (by kernel_rfl) (by kernel_rfl) (by kernel_rfl) (fun _ _ _ h => h) (Or.inl ⟨by rfl, fun w' hw' => ?y2⟩) HH.out ?_
    case y2 => (go_simp; try with_reducible rfl)
    try simp only [List.getElem_toArray, List.getElem_cons_succ, List.getElem_cons_zero, Act.put, List.setIfInBounds_toArray, List.set_cons_zero, List.set_cons_succ]
    refine wpAnyH_take (i := 2) (v := .int .u64 (t.v : Int)) rfl (by kernel_rfl) (by kernel_rfl) (by kernel_rfl) (fun _ _ _ h => h) (Or.inl ⟨by rfl, fun w' hw' => ?y3⟩) HH.out ?_
    case y3 => (have c0 := hw'.cell 0; go_simp; try with_reducible rfl)
    try simp only [List.getElem_toArray, List.getElem_cons_succ, List.getElem_cons_zero, Act.put, List.setIfInBounds_toArray, List.set_cons_zero, List.set_cons_succ]
    refine wpAnyH_take (i := 3) (v := .int .u64 (placeP t : Int)) rfl (by kernel_rfl) (by kernel_rfl) (by kernel_rfl) (fun _ _ _ h => h) (Or.inl ⟨by rfl, fun w' hw' => ?y4⟩) HH.out ?_
    case y4 => (have p3 := tmod_place t; go_simp; try with_reducible rfl)
    try simp only [List.getElem_toArray, List.getElem_cons_succ, List.getElem_cons_zero, Act.put, List.setIfInBounds_toArray, List.set_cons_zero, List.set_cons_succ]
    refine wpAnyH_take (i := 4) (v := ?v5) rfl (by kernel_rfl) (by kernel_rfl) (by kernel_rfl) (fun _ _ _ h => h) (Or.inl ⟨by rfl, fun w' hw' => ?y5⟩) HH.out ?_
    case y5 => (go_simp; try with_reducible rfl)
    try simp only [List.getElem_toArray, List.getElem_cons_succ, List.getElem_cons_zero, Act.put, List.setIfInBounds_toArray, List.set_cons_zero, List.set_cons_succ]
    refine wpAnyH_take (i := 5) (v := .int .u64 (t.v : Int)) rfl (by kernel_rfl) (by kernel_rfl) (by kernel_rfl) (fun _ _ _ h => h) (Or.inl ⟨by rfl, fun w' hw' => ?y6⟩) HH.out ?_
    case y6 => (have c0 := hw'.cell 0; go_simp; try with_reducible rfl)
    try simp only [List.getElem_toArray, List.getElem_cons_succ, List.getElem_cons_zero, Act.put, List.setIfInBounds_toArray, List.set_cons_zero, List.set_cons_succ]
    refine wpAnyH_take (i := 6) (v := ?v7) rfl (by kernel_rfl) (by kernel_rfl) (by kernel_rfl) (fun _ _ _ h => h) (Or.inl ⟨by rfl, fun w' hw' => ?y7⟩) HH.out ?_
    case y7 => (go_simp; try with_reducible rfl)
    try simp only [List.getElem_toArray, List.getElem_cons_succ, List.getElem_cons_zero, Act.put, List.setIfInBounds_toArray, List.set_cons_zero, List.set_cons_succ]
    refine wpAnyH_take (i := 7) (v := .int .i64 t.n) rfl (by kernel_rfl) (by kernel_rfl) (by kernel_rfl) (fun _ _ _ h => h) (Or.inl ⟨by rfl, fun w' hw' => ?y8⟩) HH.out ?_
    case y8 => (have c0 := hw'.cell 1; go_simp; try with_reducible rfl)
    try simp only [List.getElem_toArray, List.getElem_cons_succ, List.getElem_cons_zero, Act.put, List.setIfInBounds_toArray, List.set_cons_zero, List.set_cons_succ]
    refine wpAnyH_take (i := 8) (v := ?v9) rfl (by kernel_rfl) (by kernel_rfl) (by kernel_rfl) (fun _ _ _ h => h) (Or.inl ⟨by rfl, fun w' hw' => ?y9⟩) HH.out ?_
    case y9 => (go_simp; try with_reducible rfl)
    try simp only [List.getElem_toArray, List.getElem_cons_succ, List.getElem_cons_zero, Act.put, List.setIfInBounds_toArray, List.set_cons_zero, List.set_cons_succ]
    refine wpAnyH_take (i := 9) (v := .int .u64 (t.t : Int)) rfl (by kernel_rfl) (by kernel_rfl) (by kernel_rfl) (fun _ _ _ h => h) (Or.inl ⟨by rfl, fun w' hw' => ?y10⟩) HH.out ?_
    case y10 => (have c0 := hw'.cell 2; go_simp; try with_reducible rfl)
    try simp only [List.getElem_toArray, List.getElem_cons_succ, List.getElem_cons_zero, Act.put, List.setIfInBounds_toArray, List.set_cons_zero, List.set_cons_succ]
    refine wpAnyH_ready (rs := [10]) (by kernel_rfl) (by simp) (AllReadyH.cons rfl (fun K hK => ?_) AllReadyH.nil)
    go_simp
    refine (HSC.out _).mono ?_
    rintro e w9 ⟨rfl, bw⟩
    go_simp
    refine hK.out _ _ (HH.out.below bw) (fun hh => ?_)
    have W9 := Lib.hid (W8.out.below bw)
    have BB9 := Lib.hid (BB8.out.trans (bw.mono (show b10 ≤ _ from by have h1 := BB8.out.size; have h2 := HB10.out; omega)))
    have HH' := Lib.hid hh
    clear hh hK K HH bw W8 BB8
    have HH := Lib.hid HH'.out
    clear HH'
    try simp only [List.getElem_toArray, List.getElem_cons_succ, List.getElem_cons_zero, Act.put, List.setIfInBounds_toArray, List.set_cons_zero, List.set_cons_succ]
    refine wpAnyH_take (i := 11) (v := ?v11) rfl (by kernel_rfl) (by kernel_rfl) (by kernel_rfl) (fun _ _ _ h => h) (Or.inl ⟨by rfl, fun w' hw' => ?y11⟩) HH.out ?_
    case y11 => (go_simp; try with_reducible rfl)
    try simp only [List.getElem_toArray, List.getElem_cons_succ, List.getElem_cons_zero, Act.put, List.setIfInBounds_toArray, List.set_cons_zero, List.set_cons_succ]
    refine wpAnyH_ready (rs := [12]) (by kernel_rfl) (by simp) (AllReadyH.cons rfl (fun K hK => ?_) AllReadyH.nil)
    rw [if_pos (by rfl)]
    have HST := Lib.hid (want_set (k := placeP t) W9.out HZW.out HY3.out (by show placeP t < 4; have := place_lt t; omega))
    refine wp_store_mid 38 (.tmp 56) (.tmp 55) rfl b10 (placeP t * 128) (bva y) (by rfl) rfl HST.out.1 HIY.out (bva_one _) ?_
    obtain ⟨w10, hw10⟩ : ∃ W, W = w9.setCells b10 (placeP t * 128) (bva y).toList := ⟨_, rfl⟩
    rw [← hw10]
    have W10 := Lib.hid (show Blk w10 b10 (svQ L) 38 by rw [hw10, HLW.out, ← HYE.out]; exact HST.out.2)
    have BU := Lib.hid (show But (fun q => q = b10) w9 w10 by rw [hw10]; exact (But.refl _).grown (grown_setCells _ _ _ _) (fun j hj => .inl (Option.some.inj hj).symm))
    have BB10 := Lib.hid (BB9.out.trans (BU.out.below (fun k hk e => by omega) (show b10 ≤ _ from by have h1 := BB9.out.size; have h2 := HB10.out; omega)))
    refine hK.out _ _ (HH.out.but BU.out NB.out) (fun hh => ?_)
    have X10 := Lib.hid hh
    clear hh hK K HH W9 BB9 HST BU hw10
    try simp only [List.getElem_toArray, List.getElem_cons_succ, List.getElem_cons_zero, Act.put]
    refine wpAnyH_done (by kernel_rfl) ?_ _
    have c0 := X10.out.cell 0
    have c1 := X10.out.cell 1
    have c2 := X10.out.cell 2
    have H10 := Lib.hid (H6.out.below (HB10.out ▸ BB10.out))
    have R1b := Lib.hid ((R1.out.more (Nat.le_of_eq HB10.out.symm)).below BB10.out)
    have R2b := Lib.hid ((R2.out.more (Nat.le_of_eq HB10.out.symm)).below BB10.out)
    obtain ⟨aW, haW⟩ : ∃ a : Addr, a = ⟨b10, 0, none⟩ := ⟨_, rfl⟩
    have RW := Lib.hid (show Rd w10.heap.size w10 (some aW) (svs L) by rw [haW]; exact rd_blk W10.out)
    rw [← haW]
    clear haW W10 BB10 R1 R2 H6
    go_wp2_with fail
    go_loopw [11] (fun i wr => ∃ k : Nat, k ≤ 4 ∧ i = .int .i64 (k : Int) ∧ Hid (Rd b10 wr A1 (svs L)) ∧ Hid (Rd b10 wr A2 (svs L)) ∧ Hid (Rd w10.heap.size wr (some aW) (svs L)) ∧ Hid (Blk wr w.heap.size #[.int .u64 (t.v : Int), .int .i64 t.n, .int .u64 (t.t : Int)] 100) ∧ Hid (Mu.LM pw g1 g2 (gdS litS bx) g w2 wr s4 F4 (Sc.startM L L 4) 0)) (fun i _ => 4 - (intOf i).toNat)
    case atStart => exact ⟨0, Nat.zero_le _, rfl, R1b, R2b, RW, X10, H10⟩
    case round =>
      obtain ⟨k, hk, rfl, S1, S2, SW, X, H⟩ := hrel
      have HK := Lib.hid hk
      by_cases hlt : k < 4
      · have HLT := Lib.hid hlt
        have j0 : (0 : Int) ≤ (k : Int) := by omega
        have j1 : (k : Int) < 4 := by omega
        have wp1 : IntKind.i64.wrap ((k : Int) + 1) = ((k + 1 : Nat) : Int) := IntWalk.i64_in _ (by omega)
        obtain ⟨a1, hA1, q1⟩ := rd_any S1.out HL3.out (k := k) (by rw [HL.out]; exact hlt)
        obtain ⟨a2, hA2, q2⟩ := rd_any S2.out HL3.out (k := k) (by rw [HL.out]; exact hlt)
        obtain ⟨a3, hA3, q3⟩ := rd_any SW.out HL3.out (k := k) (by rw [HL.out]; exact hlt)
        injection hA3 with hA3
        subst hA1 hA2 hA3
        obtain ⟨y, hy⟩ : ∃ y, y = L.getD k zeroS := ⟨_, rfl⟩
        rw [← hy] at q1 q2 q3
        have HY := Lib.hid (show y.length = 128 by rw [hy]; exact getD_three HL3.out k)
        have HIV := Lib.hid (show (Try.prog.info? 38).map (·.size) = some (bv y).length by rw [bv_length, HY.out]; exact info_sec)
        have heq : ∀ W, (Op.equalIn 10000 38 (.agg (bva y)) (.agg (bva y))).run Try.prog W = .ok true W := fun W => by rw [eq_sec y y HY.out HY.out, decide_eq_true rfl]
        have HEQ := Lib.hid heq
        clear hk hlt hy heq
        go_wp2_with fail
        refine wp_region_held_drew (S := fun w' => (∀ j v, (bv y)[j]? = some v → w'.cell? ((a1.add (k * 128)).add j) = some v) ∧ (∀ j v, (bv y)[j]? = some v → w'.cell? ((aW.add (k * 128)).add j) = some v) ∧ (∀ j v, (bv y)[j]? = some v → w'.cell? ((a2.add (k * 128)).add j) = some v)) (by kernel_rfl) ⟨q1, q3, q2⟩ (fun hh => ?_)
        have HH := Lib.hid hh
        clear hh q1 q2 q3
        try simp only [List.getElem_toArray, List.getElem_cons_succ, List.getElem_cons_zero, Act.put, List.setIfInBounds_toArray, List.set_cons_zero, List.set_cons_succ]
        refine wpAnyH_take (i := 0) (v := ?v12) rfl (by kernel_rfl) (by kernel_rfl) (by kernel_rfl) (fun _ _ _ h => h) (Or.inl ⟨by rfl, fun w' hw' => ?y12⟩) HH.out ?_
        case y12 => (go_simp; try with_reducible rfl)
        try simp only [List.getElem_toArray, List.getElem_cons_zero, Act.put, List.setIfInBounds_toArray, List.set_cons_zero, List.set_cons_succ]
        refine wpAnyH_take (i := 1) (v := ?v13) rfl (by kernel_rfl) (by kernel_rfl) (by kernel_rfl) (fun _ _ _ h => h) (Or.inl ⟨by rfl, fun w' hw' => ?y13⟩) HH.out ?_
        case y13 => (go_simp; try with_reducible rfl)
        try simp only [List.getElem_toArray, List.getElem_cons_succ, List.getElem_cons_zero, Act.put, List.setIfInBounds_toArray, List.set_cons_zero, List.set_cons_succ]
        refine wpAnyH_take (i := 2) (v := ?v14) rfl (by kernel_rfl) (by kernel_rfl) (by kernel_rfl) (fun _ _ _ h => h) (Or.inl ⟨by rfl, fun w' hw' => ?y14⟩) HH.out ?_
        case y14 => (go_simp; try with_reducible rfl)
        try simp only [List.getElem_toArray, List.getElem_cons_succ, List.getElem_cons_zero, Act.put, List.setIfInBounds_toArray, List.set_cons_zero, List.set_cons_succ]
        refine wpAnyH_take (i := 3) (v := .agg (bva y)) rfl (by kernel_rfl) (by kernel_rfl) (by kernel_rfl) (fun _ _ _ h => h) (Or.inl ⟨by rfl, fun w' hw' => ?y15⟩) HH.out ?_
        case y15 => exact exec_load_at 38 (.tmp 67) rfl (a1.add (k * 128)) rfl (hw'.1) Try.underlying38 rfl HIV.out
        try simp only [List.getElem_toArray, List.getElem_cons_succ, List.getElem_cons_zero, Act.put, List.setIfInBounds_toArray, List.set_cons_zero, List.set_cons_succ]
        refine wpAnyH_take (i := 4) (v := ?v16) rfl (by kernel_rfl) (by kernel_rfl) (by kernel_rfl) (fun _ _ _ h => h) (Or.inl ⟨by rfl, fun w' hw' => ?y16⟩) HH.out ?_
        case y16 => (go_simp; try with_reducible rfl)
        try simp only [List.getElem_toArray, List.getElem_cons_succ, List.getElem_cons_zero, Act.put, List.setIfInBounds_toArray, List.set_cons_zero, List.set_cons_succ]
        refine wpAnyH_take (i := 5) (v := ?v17) rfl (by kernel_rfl) (by kernel_rfl) (by kernel_rfl) (fun _ _ _ h => h) (Or.inl ⟨by rfl, fun w' hw' => ?y17⟩) HH.out ?_
        case y17 => (go_simp; try with_reducible rfl)
        try simp only [List.getElem_toArray, List.getElem_cons_succ, List.getElem_cons_zero, Act.put, List.setIfInBounds_toArray, List.set_cons_zero, List.set_cons_succ]
        refine wpAnyH_take (i := 6) (v := ?v18) rfl (by kernel_rfl) (by kernel_rfl) (by kernel_rfl) (fun _ _ _ h => h) (Or.inl ⟨by rfl, fun w' hw' => ?y18⟩) HH.out ?_
        case y18 => (go_simp; try with_reducible rfl)
        try simp only [List.getElem_toArray, List.getElem_cons_succ, List.getElem_cons_zero, Act.put, List.setIfInBounds_toArray, List.set_cons_zero, List.set_cons_succ]
        refine wpAnyH_take (i := 7) (v := .agg (bva y)) rfl (by kernel_rfl) (by kernel_rfl) (by kernel_rfl) (fun _ _ _ h => h) (Or.inl ⟨by rfl, fun w' hw' => ?y19⟩) HH.out ?_
        case y19 => exact exec_load_at 38 (.tmp 71) rfl (aW.add (k * 128)) rfl (hw'.2.1) Try.underlying38 rfl HIV.out
        try simp only [List.getElem_toArray, List.getElem_cons_succ, List.getElem_cons_zero, Act.put, List.setIfInBounds_toArray, List.set_cons_zero, List.set_cons_succ]
        refine wpAnyH_take (i := 8) (v := ?v20) rfl (by kernel_rfl) (by kernel_rfl) (by kernel_rfl) (fun _ _ _ h => h) (Or.inl ⟨by rfl, fun w' hw' => ?y20⟩) HH.out ?_
        case y20 => (have heq := HEQ.out; go_simp; try with_reducible rfl)
        try simp only [List.getElem_toArray, List.getElem_cons_succ, List.getElem_cons_zero, Act.put, List.setIfInBounds_toArray, List.set_cons_zero, List.set_cons_succ]
        refine wpAnyH_take (i := 9) (v := ?v21) rfl (by kernel_rfl) (by kernel_rfl) (by kernel_rfl) (fun _ _ _ h => h) (Or.inl ⟨by rfl, fun w' hw' => ?y21⟩) HH.out ?_
        case y21 => (go_simp; try with_reducible rfl)
        try simp only [List.getElem_toArray, List.getElem_cons_succ, List.getElem_cons_zero, Act.put, List.setIfInBounds_toArray, List.set_cons_zero, List.set_cons_succ]
        refine wpAnyH_take (i := 10) (v := ?v22) rfl (by kernel_rfl) (by kernel_rfl) (by kernel_rfl) (fun _ _ _ h => h) (Or.inl ⟨by rfl, fun w' hw' => ?y22⟩) HH.out ?_
        case y22 => (go_simp; try with_reducible rfl)
        try simp only [List.getElem_toArray, List.getElem_cons_succ, List.getElem_cons_zero, Act.put, List.setIfInBounds_toArray, List.set_cons_zero, List.set_cons_succ]
        refine wpAnyH_take (i := 11) (v := ?v23) rfl (by kernel_rfl) (by kernel_rfl) (by kernel_rfl) (fun _ _ _ h => h) (Or.inl ⟨by rfl, fun w' hw' => ?y23⟩) HH.out ?_
        case y23 => (go_simp; try with_reducible rfl)
        try simp only [List.getElem_toArray, List.getElem_cons_succ, List.getElem_cons_zero, Act.put, List.setIfInBounds_toArray, List.set_cons_zero, List.set_cons_succ]
        refine wpAnyH_take (i := 12) (v := ?v24) rfl (by kernel_rfl) (by kernel_rfl) (by kernel_rfl) (fun _ _ _ h => h) (Or.inl ⟨by rfl, fun w' hw' => ?y24⟩) HH.out ?_
        case y24 => (go_simp; try with_reducible rfl)
        try simp only [List.getElem_toArray, List.getElem_cons_succ, List.getElem_cons_zero, Act.put, List.setIfInBounds_toArray, List.set_cons_zero, List.set_cons_succ]
        refine wpAnyH_take (i := 13) (v := .agg (bva y)) rfl (by kernel_rfl) (by kernel_rfl) (by kernel_rfl) (fun _ _ _ h => h) (Or.inl ⟨by rfl, fun w' hw' => ?y25⟩) HH.out ?_
        case y25 => exact exec_load_at 38 (.tmp 77) rfl (a2.add (k * 128)) rfl (hw'.2.2) Try.underlying38 rfl HIV.out
        try simp only [List.getElem_toArray, List.getElem_cons_succ, List.getElem_cons_zero, Act.put, List.setIfInBounds_toArray, List.set_cons_zero, List.set_cons_succ]
        refine wpAnyH_take (i := 14) (v := ?v26) rfl (by kernel_rfl) (by kernel_rfl) (by kernel_rfl) (fun _ _ _ h => h) (Or.inl ⟨by rfl, fun w' hw' => ?y26⟩) HH.out ?_
        case y26 => (go_simp; try with_reducible rfl)
        try simp only [List.getElem_toArray, List.getElem_cons_succ, List.getElem_cons_zero, Act.put, List.setIfInBounds_toArray, List.set_cons_zero, List.set_cons_succ]
        refine wpAnyH_take (i := 15) (v := ?v27) rfl (by kernel_rfl) (by kernel_rfl) (by kernel_rfl) (fun _ _ _ h => h) (Or.inl ⟨by rfl, fun w' hw' => ?y27⟩) HH.out ?_
        case y27 => (go_simp; try with_reducible rfl)
        try simp only [List.getElem_toArray, List.getElem_cons_succ, List.getElem_cons_zero, Act.put, List.setIfInBounds_toArray, List.set_cons_zero, List.set_cons_succ]
        refine wpAnyH_take (i := 16) (v := ?v28) rfl (by kernel_rfl) (by kernel_rfl) (by kernel_rfl) (fun _ _ _ h => h) (Or.inl ⟨by rfl, fun w' hw' => ?y28⟩) HH.out ?_
        case y28 => (go_simp; try with_reducible rfl)
        try simp only [List.getElem_toArray, List.getElem_cons_succ, List.getElem_cons_zero, Act.put, List.setIfInBounds_toArray, List.set_cons_zero, List.set_cons_succ]
        refine wpAnyH_take (i := 17) (v := .agg (bva y)) rfl (by kernel_rfl) (by kernel_rfl) (by kernel_rfl) (fun _ _ _ h => h) (Or.inl ⟨by rfl, fun w' hw' => ?y29⟩) HH.out ?_
        case y29 => exact exec_load_at 38 (.tmp 81) rfl (aW.add (k * 128)) rfl (hw'.2.1) Try.underlying38 rfl HIV.out
        try simp only [List.getElem_toArray, List.getElem_cons_succ, List.getElem_cons_zero, Act.put, List.setIfInBounds_toArray, List.set_cons_zero, List.set_cons_succ]
        refine wpAnyH_take (i := 18) (v := ?v30) rfl (by kernel_rfl) (by kernel_rfl) (by kernel_rfl) (fun _ _ _ h => h) (Or.inl ⟨by rfl, fun w' hw' => ?y30⟩) HH.out ?_
        case y30 => (have heq := HEQ.out; go_simp; try with_reducible rfl)
        try simp only [List.getElem_toArray, List.getElem_cons_succ, List.getElem_cons_zero, Act.put, List.setIfInBounds_toArray, List.set_cons_zero, List.set_cons_succ]
        refine wpAnyH_take (i := 19) (v := ?v31) rfl (by kernel_rfl) (by kernel_rfl) (by kernel_rfl) (fun _ _ _ h => h) (Or.inl ⟨by rfl, fun w' hw' => ?y31⟩) HH.out ?_
        case y31 => (go_simp; try with_reducible rfl)
        try simp only [List.getElem_toArray, List.getElem_cons_succ, List.getElem_cons_zero, Act.put, List.setIfInBounds_toArray, List.set_cons_zero, List.set_cons_succ]
        refine wpAnyH_done (by kernel_rfl) ?_ _
        clear HH
        go_wp2_with fail
        go_round
        case rel => exact ⟨k + 1, HLT.out, rfl, Lib.hid S1.out, Lib.hid S2.out, Lib.hid SW.out, Lib.hid X.out, Lib.hid H.out.drewL⟩
        case measure => have := HLT.out; simp [intOf]; omega
      · have hd : ¬ (k : Int) < 4 := by omega
        have c0 := X.out.cell 0
        have c1 := X.out.cell 1
        have c2 := X.out.cell 2
        go_wp2_with fail
        refine (su_wait0 H.out).mono ?_
        rintro e wa ⟨rfl, bw⟩
        have Ha := Lib.hid (H.out.below bw)
        have Xa := Lib.hid (X.out.below bw)
        clear bw H X c0 c1 c2 S1 S2 SW
        have c0 := Xa.out.cell 0
        have c1 := Xa.out.cell 1
        have c2 := Xa.out.cell 2
        go_wp2_with fail
        refine (su_wait1 Ha.out).mono ?_
        rintro e wb ⟨rfl, bw⟩
        have Hb := Lib.hid (Ha.out.below bw)
        have Xb := Lib.hid (Xa.out.below bw)
        clear bw Ha Xa c0 c1 c2
        have c0 := Xb.out.cell 0
        have c1 := Xb.out.cell 1
        have c2 := Xb.out.cell 2
        go_wp2_with fail
        refine (uwrite_nilM (.iface 117 (.agg zeroLit)) t wb).mono ?_
        rintro e wc ⟨rfl, bw⟩
        have Hc := Lib.hid (Hb.out.below bw)
        have Xc := Lib.hid (Xb.out.below bw)
        clear bw Hb Xb c0 c1 c2
        have c0 := Xc.out.cell 0
        have c1 := Xc.out.cell 1
        have c2 := Xc.out.cell 2
        go_wp2_with fail
        refine (uwrite_nilC g t wc).mono ?_
        rintro e wd ⟨rfl, bw⟩
        have Hd := Lib.hid (Hc.out.below bw)
        clear bw Hc Xc c0 c1 c2
        go_wp2_with fail
        go_ret
        exact ⟨rfl, B2.out.trans (Hd.out.live.bel.mono B2.out.size)⟩
  · have hk : okP t = false := by simpa using hok
    have HLW := Lib.hid (show L = zeros4 by rw [HLE.out, lwL, if_neg hok])
    have hE0 : E = 3 := by rw [HE.out, if_neg hok]
    subst hE0
    have X10 := X8
    have BB10 := BB8
    have W10 := Lib.hid (show Blk w8 b10 (svQ L) 38 by rw [HLW.out]; exact W8.out)
    obtain ⟨w10, hw10⟩ : ∃ W, W = w8 := ⟨_, rfl⟩
    rw [← hw10] at X10 BB10 W10
    rw [hk, ← hw10]
    clear hk hok X8 BB8 W8 hw10
    have c0 := X10.out.cell 0
    have c1 := X10.out.cell 1
    have c2 := X10.out.cell 2
    have H10 := Lib.hid (H6.out.below (HB10.out ▸ BB10.out))
    have R1b := Lib.hid ((R1.out.more (Nat.le_of_eq HB10.out.symm)).below BB10.out)
    have R2b := Lib.hid ((R2.out.more (Nat.le_of_eq HB10.out.symm)).below BB10.out)
    obtain ⟨aW, haW⟩ : ∃ a : Addr, a = ⟨b10, 0, none⟩ := ⟨_, rfl⟩
    have RW := Lib.hid (show Rd w10.heap.size w10 (some aW) (svs L) by rw [haW]; exact rd_blk W10.out)
    rw [← haW]
    clear haW W10 BB10 R1 R2 H6
    go_wp2_with fail
    go_loopw [11] (fun i wr => ∃ k : Nat, k ≤ 4 ∧ i = .int .i64 (k : Int) ∧ Hid (Rd b10 wr A1 (svs L)) ∧ Hid (Rd b10 wr A2 (svs L)) ∧ Hid (Rd w10.heap.size wr (some aW) (svs L)) ∧ Hid (Blk wr w.heap.size #[.int .u64 (t.v : Int), .int .i64 t.n, .int .u64 (t.t : Int)] 100) ∧ Hid (Mu.LM pw g1 g2 (gdS litS bx) g w2 wr s4 F4 (Sc.startM L L 4) 0)) (fun i _ => 4 - (intOf i).toNat)
    case atStart => exact ⟨0, Nat.zero_le _, rfl, R1b, R2b, RW, X10, H10⟩
    case round =>
      obtain ⟨k, hk, rfl, S1, S2, SW, X, H⟩ := hrel
      have HK := Lib.hid hk
      by_cases hlt : k < 4
      · have HLT := Lib.hid hlt
        have j0 : (0 : Int) ≤ (k : Int) := by omega
        have j1 : (k : Int) < 4 := by omega
        have wp1 : IntKind.i64.wrap ((k : Int) + 1) = ((k + 1 : Nat) : Int) := IntWalk.i64_in _ (by omega)
        obtain ⟨a1, hA1, q1⟩ := rd_any S1.out HL3.out (k := k) (by rw [HL.out]; exact hlt)
        obtain ⟨a2, hA2, q2⟩ := rd_any S2.out HL3.out (k := k) (by rw [HL.out]; exact hlt)
        obtain ⟨a3, hA3, q3⟩ := rd_any SW.out HL3.out (k := k) (by rw [HL.out]; exact hlt)
        injection hA3 with hA3
        subst hA1 hA2 hA3
        obtain ⟨y, hy⟩ : ∃ y, y = L.getD k zeroS := ⟨_, rfl⟩
        rw [← hy] at q1 q2 q3
        have HY := Lib.hid (show y.length = 128 by rw [hy]; exact getD_three HL3.out k)
        have HIV := Lib.hid (show (Try.prog.info? 38).map (·.size) = some (bv y).length by rw [bv_length, HY.out]; exact info_sec)
        have heq : ∀ W, (Op.equalIn 10000 38 (.agg (bva y)) (.agg (bva y))).run Try.prog W = .ok true W := fun W => by rw [eq_sec y y HY.out HY.out, decide_eq_true rfl]
        have HEQ := Lib.hid heq
        clear hk hlt hy heq
        go_wp2_with fail
        refine wp_region_held_drew (S := fun w' => (∀ j v, (bv y)[j]? = some v → w'.cell? ((a1.add (k * 128)).add j) = some v) ∧ (∀ j v, (bv y)[j]? = some v → w'.cell? ((aW.add (k * 128)).add j) = some v) ∧ (∀ j v, (bv y)[j]? = some v → w'.cell? ((a2.add (k * 128)).add j) = some v)) (by kernel_rfl) ⟨q1, q3, q2⟩ (fun hh => ?_)
        have HH := Lib.hid hh
        clear hh q1 q2 q3
        try simp only [List.getElem_toArray, List.getElem_cons_succ, List.getElem_cons_zero, Act.put, List.setIfInBounds_toArray, List.set_cons_zero, List.set_cons_succ]
        refine wpAnyH_take (i := 0) (v := ?v32) rfl (by kernel_rfl) (by kernel_rfl) (by kernel_rfl) (fun _ _ _ h => h) (Or.inl ⟨by rfl, fun w' hw' => ?y32⟩) HH.out ?_
        case y32 => (go_simp; try with_reducible rfl)
        try simp only [List.getElem_toArray, List.getElem_cons_zero, Act.put, List.setIfInBounds_toArray, List.set_cons_zero, List.set_cons_succ]
        refine wpAnyH_take (i := 1) (v := ?v33) rfl (by kernel_rfl) (by kernel_rfl) (by kernel_rfl) (fun _ _ _ h => h) (Or.inl ⟨by rfl, fun w' hw' => ?y33⟩) HH.out ?_
        case y33 => (go_simp; try with_reducible rfl)
        try simp only [List.getElem_toArray, List.getElem_cons_succ, List.getElem_cons_zero, Act.put, List.setIfInBounds_toArray, List.set_cons_zero, List.set_cons_succ]
        refine wpAnyH_take (i := 2) (v := ?v34) rfl (by kernel_rfl) (by kernel_rfl) (by kernel_rfl) (fun _ _ _ h => h) (Or.inl ⟨by rfl, fun w' hw' => ?y34⟩) HH.out ?_
        case y34 => (go_simp; try with_reducible rfl)
        try simp only [List.getElem_toArray, List.getElem_cons_succ, List.getElem_cons_zero, Act.put, List.setIfInBounds_toArray, List.set_cons_zero, List.set_cons_succ]
        refine wpAnyH_take (i := 3) (v := .agg (bva y)) rfl (by kernel_rfl) (by kernel_rfl) (by kernel_rfl) (fun _ _ _ h => h) (Or.inl ⟨by rfl, fun w' hw' => ?y35⟩) HH.out ?_
        case y35 => exact exec_load_at 38 (.tmp 67) rfl (a1.add (k * 128)) rfl (hw'.1) Try.underlying38 rfl HIV.out
        try simp only [List.getElem_toArray, List.getElem_cons_succ, List.getElem_cons_zero, Act.put, List.setIfInBounds_toArray, List.set_cons_zero, List.set_cons_succ]
        refine wpAnyH_take (i := 4) (v := ?v36) rfl (by kernel_rfl) (by kernel_rfl) (by kernel_rfl) (fun _ _ _ h => h) (Or.inl ⟨by rfl, fun w' hw' => ?y36⟩) HH.out ?_
        case y36 => (go_simp; try with_reducible rfl)
        try simp only [List.getElem_toArray, List.getElem_cons_succ, List.getElem_cons_zero, Act.put, List.setIfInBounds_toArray, List.set_cons_zero, List.set_cons_succ]
        refine wpAnyH_take (i := 5) (v := ?v37) rfl (by kernel_rfl) (by kernel_rfl) (by kernel_rfl) (fun _ _ _ h => h) (Or.inl ⟨by rfl, fun w' hw' => ?y37⟩) HH.out ?_
        case y37 => (go_simp; try with_reducible rfl)
        try simp only [List.getElem_toArray, List.getElem_cons_succ, List.getElem_cons_zero, Act.put, List.setIfInBounds_toArray, List.set_cons_zero, List.set_cons_succ]
        refine wpAnyH_take (i := 6) (v := ?v38) rfl (by kernel_rfl) (by kernel_rfl) (by kernel_rfl) (fun _ _ _ h => h) (Or.inl ⟨by rfl, fun w' hw' => ?y38⟩) HH.out ?_
        case y38 => (go_simp; try with_reducible rfl)
        try simp only [List.getElem_toArray, List.getElem_cons_succ, List.getElem_cons_zero, Act.put, List.setIfInBounds_toArray, List.set_cons_zero, List.set_cons_succ]
        refine wpAnyH_take (i := 7) (v := .agg (bva y)) rfl (by kernel_rfl) (by kernel_rfl) (by kernel_rfl) (fun _ _ _ h => h) (Or.inl ⟨by rfl, fun w' hw' => ?y39⟩) HH.out ?_
        case y39 => exact exec_load_at 38 (.tmp 71) rfl (aW.add (k * 128)) rfl (hw'.2.1) Try.underlying38 rfl HIV.out
        try simp only [List.getElem_toArray, List.getElem_cons_succ, List.getElem_cons_zero, Act.put, List.setIfInBounds_toArray, List.set_cons_zero, List.set_cons_succ]
        refine wpAnyH_take (i := 8) (v := ?v40) rfl (by kernel_rfl) (by kernel_rfl) (by kernel_rfl) (fun _ _ _ h => h) (Or.inl ⟨by rfl, fun w' hw' => ?y40⟩) HH.out ?_
        case y40 => (have heq := HEQ.out; go_simp; try with_reducible rfl)
        try simp only [List.getElem_toArray, List.getElem_cons_succ, List.getElem_cons_zero, Act.put, List.setIfInBounds_toArray, List.set_cons_zero, List.set_cons_succ]
        refine wpAnyH_take (i := 9) (v := ?v41) rfl (by kernel_rfl) (by kernel_rfl) (by kernel_rfl) (fun _ _ _ h => h) (Or.inl ⟨by rfl, fun w' hw' => ?y41⟩) HH.out ?_
        case y41 => (go_simp; try with_reducible rfl)
        try simp only [List.getElem_toArray, List.getElem_cons_succ, List.getElem_cons_zero, Act.put, List.setIfInBounds_toArray, List.set_cons_zero, List.set_cons_succ]
        refine wpAnyH_take (i := 10) (v := ?v42) rfl (by kernel_rfl) (by kernel_rfl) (by kernel_rfl) (fun _ _ _ h => h) (Or.inl ⟨by rfl, fun w' hw' => ?y42⟩) HH.out ?_
        case y42 => (go_simp; try with_reducible rfl)
        try simp only [List.getElem_toArray, List.getElem_cons_succ, List.getElem_cons_zero, Act.put, List.setIfInBounds_toArray, List.set_cons_zero, List.set_cons_succ]
        refine wpAnyH_take (i := 11) (v := ?v43) rfl (by kernel_rfl) (by kernel_rfl) (by kernel_rfl) (fun _ _ _ h => h) (Or.inl ⟨by rfl, fun w' hw' => ?y43⟩) HH.out ?_
        case y43 => (go_simp; try with_reducible rfl)
        try simp only [List.getElem_toArray, List.getElem_cons_succ, List.getElem_cons_zero, Act.put, List.setIfInBounds_toArray, List.set_cons_zero, List.set_cons_succ]
        refine wpAnyH_take (i := 12) (v := ?v44) rfl (by kernel_rfl) (by kernel_rfl) (by kernel_rfl) (fun _ _ _ h => h) (Or.inl ⟨by rfl, fun w' hw' => ?y44⟩) HH.out ?_
        case y44 => (go_simp; try with_reducible rfl)
        try simp only [List.getElem_toArray, List.getElem_cons_succ, List.getElem_cons_zero, Act.put, List.setIfInBounds_toArray, List.set_cons_zero, List.set_cons_succ]
        refine wpAnyH_take (i := 13) (v := .agg (bva y)) rfl (by kernel_rfl) (by kernel_rfl) (by kernel_rfl) (fun _ _ _ h => h) (Or.inl ⟨by rfl, fun w' hw' => ?y45⟩) HH.out ?_
        case y45 => exact exec_load_at 38 (.tmp 77) rfl (a2.add (k * 128)) rfl (hw'.2.2) Try.underlying38 rfl HIV.out
        try simp only [List.getElem_toArray, List.getElem_cons_succ, List.getElem_cons_zero, Act.put, List.setIfInBounds_toArray, List.set_cons_zero, List.set_cons_succ]
        refine wpAnyH_take (i := 14) (v := ?v46) rfl (by kernel_rfl) (by kernel_rfl) (by kernel_rfl) (fun _ _ _ h => h) (Or.inl ⟨by rfl, fun w' hw' => ?y46⟩) HH.out ?_
        case y46 => (go_simp; try with_reducible rfl)
        try simp only [List.getElem_toArray, List.getElem_cons_succ, List.getElem_cons_zero, Act.put, List.setIfInBounds_toArray, List.set_cons_zero, List.set_cons_succ]
        refine wpAnyH_take (i := 15) (v := ?v47) rfl (by kernel_rfl) (by kernel_rfl) (by kernel_rfl) (fun _ _ _ h => h) (Or.inl ⟨by rfl, fun w' hw' => ?y47⟩) HH.out ?_
        case y47 => (go_simp; try with_reducible rfl)
        try simp only [List.getElem_toArray, List.getElem_cons_succ, List.getElem_cons_zero, Act.put, List.setIfInBounds_toArray, List.set_cons_zero, List.set_cons_succ]
        refine wpAnyH_take (i := 16) (v := ?v48) rfl (by kernel_rfl) (by kernel_rfl) (by kernel_rfl) (fun _ _ _ h => h) (Or.inl ⟨by rfl, fun w' hw' => ?y48⟩) HH.out ?_
        case y48 => (go_simp; try with_reducible rfl)
        try simp only [List.getElem_toArray, List.getElem_cons_succ, List.getElem_cons_zero, Act.put, List.setIfInBounds_toArray, List.set_cons_zero, List.set_cons_succ]
        refine wpAnyH_take (i := 17) (v := .agg (bva y)) rfl (by kernel_rfl) (by kernel_rfl) (by kernel_rfl) (fun _ _ _ h => h) (Or.inl ⟨by rfl, fun w' hw' => ?y49⟩) HH.out ?_
        case y49 => exact exec_load_at 38 (.tmp 81) rfl (aW.add (k * 128)) rfl (hw'.2.1) Try.underlying38 rfl HIV.out
        try simp only [List.getElem_toArray, List.getElem_cons_succ, List.getElem_cons_zero, Act.put, List.setIfInBounds_toArray, List.set_cons_zero, List.set_cons_succ]
        refine wpAnyH_take (i := 18) (v := ?v50) rfl (by kernel_rfl) (by kernel_rfl) (by kernel_rfl) (fun _ _ _ h => h) (Or.inl ⟨by rfl, fun w' hw' => ?y50⟩) HH.out ?_
        case y50 => (have heq := HEQ.out; go_simp; try with_reducible rfl)
        try simp only [List.getElem_toArray, List.getElem_cons_succ, List.getElem_cons_zero, Act.put, List.setIfInBounds_toArray, List.set_cons_zero, List.set_cons_succ]
        refine wpAnyH_take (i := 19) (v := ?v51) rfl (by kernel_rfl) (by kernel_rfl) (by kernel_rfl) (fun _ _ _ h => h) (Or.inl ⟨by rfl, fun w' hw' => ?y51⟩) HH.out ?_
        case y51 => (go_simp; try with_reducible rfl)
        try simp only [List.getElem_toArray, List.getElem_cons_succ, List.getElem_cons_zero, Act.put, List.setIfInBounds_toArray, List.set_cons_zero, List.set_cons_succ]
        refine wpAnyH_done (by kernel_rfl) ?_ _
        clear HH
        go_wp2_with fail
        go_round
        case rel => exact ⟨k + 1, HLT.out, rfl, Lib.hid S1.out, Lib.hid S2.out, Lib.hid SW.out, Lib.hid X.out, Lib.hid H.out.drewL⟩
        case measure => have := HLT.out; simp [intOf]; omega
      · have hd : ¬ (k : Int) < 4 := by omega
        have c0 := X.out.cell 0
        have c1 := X.out.cell 1
        have c2 := X.out.cell 2
        go_wp2_with fail
        refine (su_wait0 H.out).mono ?_
        rintro e wa ⟨rfl, bw⟩
        have Ha := Lib.hid (H.out.below bw)
        have Xa := Lib.hid (X.out.below bw)
        clear bw H X c0 c1 c2 S1 S2 SW
        have c0 := Xa.out.cell 0
        have c1 := Xa.out.cell 1
        have c2 := Xa.out.cell 2
        go_wp2_with fail
        refine (su_wait1 Ha.out).mono ?_
        rintro e wb ⟨rfl, bw⟩
        have Hb := Lib.hid (Ha.out.below bw)
        have Xb := Lib.hid (Xa.out.below bw)
        clear bw Ha Xa c0 c1 c2
        have c0 := Xb.out.cell 0
        have c1 := Xb.out.cell 1
        have c2 := Xb.out.cell 2
        go_wp2_with fail
        refine (uwrite_nilM (.iface 117 (.agg zeroLit)) t wb).mono ?_
        rintro e wc ⟨rfl, bw⟩
        have Hc := Lib.hid (Hb.out.below bw)
        have Xc := Lib.hid (Xb.out.below bw)
        clear bw Hb Xb c0 c1 c2
        have c0 := Xc.out.cell 0
        have c1 := Xc.out.cell 1
        have c2 := Xc.out.cell 2
        go_wp2_with fail
        refine (uwrite_nilC g t wc).mono ?_
        rintro e wd ⟨rfl, bw⟩
        have Hd := Lib.hid (Hc.out.below bw)
        clear bw Hc Xc c0 c1 c2
        go_wp2_with fail
        go_ret
        exact ⟨rfl, B2.out.trans (Hd.out.live.bel.mono B2.out.size)⟩
theorem superWrites_own : ownKnob Try.prog.godebug = none := by kernel_rfl
theorem superWrites_laid : laidOutB Try.prog = true := by kernel_rfl

set_option maxRecDepth 100000 in
theorem superWrites_lifted (os : Os) (started : os.Started) (H : Type) (enc : TypeId × Value → H) :
    ReturnsInHanded {} Try.checked os 8 .any (Rows.superWritesSpec.pre6 enc Try.prog Try.f8 Rows.superWritesRow.domain false) (Rows.superWritesSpec.post enc Try.prog Try.f8 false true false false) := by
  refine returnsInHanded_of_change (C := Try.checked) superWrites_own started (by kernel_rfl) Try.func8
    (ChangeSpec.witness6 (enc := enc) (C := Try.checked) false ⟨#[], #[.agg #[.int .u64 0, .int .i64 0, .int .u64 0]], []⟩ 8 (by kernel_rfl) (by kernel_rfl) (by kernel_rfl) (by kernel_rfl)) ?_
  intro W base args ds gs before hval0 hW _ _
  have hval : ∀ (j : Nat) t v, Try.f8.params[j]? = some t → args[j]? = some v → Value.okWide Try.prog W .any base t v := hval0
  have hW' := hW
  obtain ⟨p, q, hA0, hV, rfl, hfz, hnd⟩ := hW
  have hA : DataW.TrodAll enc Try.prog W 0 (fun _ => true) true Try.f8.params.toList args.toList ds p := hA0
  rw [Try.params8] at hA hval
  obtain ⟨v0, vs0, d0, ds0, p0, q0, hargs, rfl, rfl, h0, r0⟩ := trodAll_cons hA
  obtain ⟨rfl, rfl, rfl⟩ := trodAll_nil r0
  obtain rfl : args = #[v0] := by cases args; simp_all
  obtain ⟨rfl, rfl⟩ := trodVars_none hV
  have lt0 : ∀ x ∈ p0, x.block < W.heap.size := by obtain ⟨m, hm⟩ := h0; exact DataW.trod_lt m _ _ _ hm
  obtain ⟨x0, rfl, ox0⟩ := Su.open_super (hval 0 100 v0 rfl rfl) h0
  clear hA0 hval0
  refine (superWrites_any W x0 ox0).mono fun e W' ⟨he, bel⟩ => ?_
  subst he
  exact ⟨_, rfl, _, _, _, [], _, [], hW', trodAll_mk1 (shut_bool Try.underlying4 _), (trodAll_cons_mk (Below.trod superWrites_laid (by kernel_rfl) (of_decide_eq_true (by kernel_rfl)) h0 bel lt0) trodAll_mk0), rfl, bel.frame _, fun h => by cases h⟩

theorem superWrites_holds : Rows.SuperWritesSaid :=
  OpenClaim.holds_of_wide 8 Try.f8 rfl rfl rfl rfl rfl rfl rfl ⟨rfl, rfl, rfl, rfl, rfl⟩ rfl rfl rfl rfl rfl (by kernel_rfl) Try.func8 (by kernel_rfl)
    (of_decide_eq_true (by kernel_rfl)) (by unfold Func.isWrapper; rw [if_neg (of_decide_eq_false (by kernel_rfl))]; exact ⟨rfl, rfl⟩)
    (fun os started H enc _ => superWrites_lifted os started H enc)

#print axioms superWrites_holds

end Go.Proofs.Ytnplhagfmfggcaa
