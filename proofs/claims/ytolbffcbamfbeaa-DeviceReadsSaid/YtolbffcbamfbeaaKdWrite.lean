/-
  The contract of a device's Write.
-/
import Derived.Test.YtolbffcbamfbeaaKdBuild
import Derived.Test.YtolbffcbamfbeaaMild
namespace Go.Proofs.Ytolbffcbamfbeaa.Kd
open Go.RowKit Go.Maps
attribute [local go_sem ↓] Go.wp_at_zero Go.wp_at_succ
theorem wfI {z : Int} (h : -9223372036854775808 ≤ z ∧ z ≤ 9223372036854775807) : (Lit.int .i64 z).wf = true := by
  have h1 : IntKind.i64.min = -9223372036854775808 := by decide
  have h2 : IntKind.i64.max = 9223372036854775807 := by decide
  simp [Lit.wf, h1, h2]; omega
theorem intR_mk {z : Int} (h : -9223372036854775808 ≤ z ∧ z ≤ 9223372036854775807) : (intP Try.prog) (.int .i64 z) = some (.lit (.int .i64 z), []) := plainElem_int Try.underlying3 (wfI h)
theorem count_length (S : Sy) : S.count.ds.length = S.ds.length := by unfold Sy.count; split <;> simp
/-- A device to which a write has come. -/
def Dv.add (d : Dv) (n : Nat) (s : List UInt8) : Dv := { d with wt := d.wt ++ [(n, s)] }
theorem add_ok {d : Dv} (h : d.ok) {n : Nat} {s : List UInt8} (hn : n < d.st.length) (hs : s.length = 128) : (d.add n s).ok := by
  refine ⟨h.st, fun x hx => ?_, h.kept, h.bytes, h.len⟩
  rcases List.mem_append.1 hx with hx | hx
  · exact h.wt x hx
  · rw [List.mem_singleton] at hx; subst hx; exact ⟨hn, hs⟩
theorem write_no {S : Sy} {k : Nat} {n : Int} {s : List UInt8} (h : refuseN S.p (S.at k) n ≠ 0) : S.write k n s = (refuseN S.p (S.at k) n, S) := by unfold Sy.write; rw [if_pos h]
theorem write_yes {S : Sy} {k : Nat} {n : Nat} {s : List UInt8} (h : refuseN S.p (S.at k) (n : Int) = 0) : S.write k (n : Int) s = (if S.p.fails then 13 else 0, (S.put k ((S.at k).add n s)).count) := by unfold Sy.write; rw [if_neg (by rw [h]; simp)]; rfl
theorem refuse_zero {P : Pw} {d : Dv} {i : Int} (h : refuseN P d i = 0) : P.off = false ∧ d.gone = false ∧ 0 ≤ i ∧ i < (d.st.length : Int) := by
  unfold refuseN at h
  split at h
  · omega
  · rename_i h1
    split at h
    · omega
    · rename_i h2
      have h3 : P.off = false ∧ d.gone = false := by
        cases h4 : P.off <;> cases h5 : d.gone <;> simp_all
      exact ⟨h3.1, h3.2, by omega, by omega⟩
set_option maxRecDepth 100000 in
set_option maxHeartbeats 6400000 in
theorem write_any {w : World} {p : Nat} {gs : List Nat} {S : Sy} {F : Nat → Prop} (h : Sys w p gs S F) (k : Nat) (hk : k < S.ds.length) (i : Int) (s : List UInt8) (hs : s.length = 128) (hm : (S.at k).wt.length < 1000000) :
    Calls Try.prog 23 #[.pointer (some ⟨gs.getD k 0, 0, none⟩), .int .i64 i, .agg (bva s)] w (RetS (.int .i64 (S.write k i s).1) p gs (S.write k i s).2 F w) := by
  obtain ⟨bs, Fs, FA, fc, lf, h, hF, hlt⟩ := h
  have BW := Lib.hid (show Below w.heap.size w (w.alloc (.cells (bva s) 38)) from (Below.refl _ w).alloc (Nat.le_refl _) _)
  have HX := Lib.hid (show Blk (w.alloc (.cells (bva s) 38)) w.heap.size (bva s) 38 from heap_alloc_new _ _)
  have H0 := Lib.hid h
  have H := Lib.hid (h.below BW.out)
  obtain ⟨A, n, c, W, m, e, M, D, hd, hDF⟩ := h.dev k hk
  have HD := Lib.hid (hd.below BW.out)
  have HDF := Lib.hid hDF
  obtain ⟨d, hdd⟩ : ∃ d, d = S.at k := ⟨_, rfl⟩
  obtain ⟨g, hgg⟩ : ∃ g, g = gs.getD k 0 := ⟨_, rfl⟩
  rw [← hdd] at HD hm
  rw [← hgg] at HD HDF
  rw [← hgg]
  have HDD := Lib.hid hdd
  have HGG := Lib.hid hgg
  have HFF := Lib.hid hF
  have HLT := Lib.hid hlt
  have HS3 := Lib.hid hs
  have HM := Lib.hid hm
  have HKD := Lib.hid hk
  have HIS : Hid ((Try.prog.info? 38).map (·.size) = some (bva s).size) := by show _ = _; rw [bva_size, hs]; exact info_sec
  have hpw := H.out.pow.blk
  have hdb := HD.out.blk
  have HPW := Lib.hid hpw
  have HDB := Lib.hid hdb
  have hrf : refuseN S.p d i = reachN S.p.off d.gone n i := reach_refuse HD.out.stn i
  clear h hd hDF hdd hgg hF hlt hpw hdb hs hm hk
  by_cases hr : reachN S.p.off d.gone n i = 0
  · have h0 := refuse_zero (hrf.trans hr)
    obtain ⟨j, rfl⟩ := Int.eq_ofNat_of_zero_le h0.2.2.1
    have HW := Lib.hid (write_yes (S := S) (k := k) (n := j) (s := s) (by rw [← HDD.out, hrf, hr]))
    have hjn : j < n := by have := HD.out.stn; omega
    have HR := Lib.hid hr
    have HON := Lib.hid h0.1
    have HGN := Lib.hid h0.2.1
    have HJN := Lib.hid hjn
    have hmb : m < 1000000 := by rw [← HD.out.wtn]; exact HM.out
    have m0 : (0 : Int) ≤ (m : Int) := by omega
    have m1 : (m : Int) ≤ 1000000 := by omega
    have j0 : (0 : Int) ≤ (j : Int) := by omega
    have j1 : (j : Int) ≤ 4096 := by have := HD.out.ok.len; omega
    have HMB := Lib.hid hmb
    have HBW := Lib.hid (show ∀ W, (Instr.build 82 #[(0, .int .i64 (j : Int)), (1, .agg (bva s))]).run Try.prog W = .ok (.agg (wva (j, s))) W from fun W => build_dwait (j, s) HS3.out W)
    have HBS := Lib.hid (show ∀ W : World, (Instr.buildSlice 71 1 #[(0, .agg (wva (j, s)))]).run Try.prog W = .ok (.slice (some ⟨W.heap.size, 0, none⟩) 1 1) (W.alloc (.cells (wva (j, s)) 82)) from fun W => run_oneN dwaitsElt W (.agg (wva (j, s))) (wva_size HS3.out) (by omega))
    have HKI := Lib.hid (keyOf_int_mk (P := Try.prog) (k := 3) Try.underlying3 (wfI (z := (j : Int)) (by omega)))
    have HMI := Lib.hid (intR_mk (z := (m : Int)) (by omega))
    clear hrf hr h0 hjn hmb
    go_enter Try.func23, Try.ntmps23
    go_wp2_with (refine (reaches_any S.p.off d.gone _ _ A n c (j : Int) HPW.out HDB.out).mono ?_; rintro e' w' ⟨rfl, rfl⟩; rw [HR.out])
    obtain ⟨W1, hW1⟩ : ∃ W1, W1 = w.alloc (.cells (bva s) 38) := ⟨_, rfl⟩
    rw [← hW1] at BW HX H HD HPW HDB ⊢
    have c3 := HDB.out.cell 3
    have c2 := HDB.out.cell 2
    clear hW1
    refine wp_region_still_tail 10 (by kernel_rfl) (by kernel_rfl) ?_
    simp only [List.take_succ_cons, List.take_zero, List.drop_succ_cons, List.drop_zero]
    iterate 10 still_step
    refine wpStill_nil ?_
    change wpList _ _ _ _ _ W1.drew
    have HM1 := Lib.hid (show W1.drew.ownsMap Try.prog 3 (intP Try.prog) M m D from HD.out.map)
    have hws : W1.drew.heap.size = W1.heap.size := rfl
    clear c2 c3
    go_wp2_with (at_mapUpdate; refine wpList_mapUpdate_own _ rfl _ _ _ 72 rfl 3 3 lawI Try.underlying72 (intP Try.prog) M m D rfl HM1.out (by have := HMB.out; unfold maxLen; omega) (.int .i64 (j : Int)) (.int .i64 (m : Int)) (.int .i64 (j : Int)) rfl rfl HKI.out (.lit (.int .i64 (m : Int))) [] HMI.out ?_; intro w6 hown6 hgrow6)
    have HO6 := Lib.hid hown6
    have HB6 := Lib.hid (show But (fun q => q = M) W1 w6 from (But.refl W1).drew.grown hgrow6 (fun q hq => by injection hq with hq; exact .inl hq.symm))
    have HG6 := Lib.hid (HDB.out.but HB6.out (fun e => HD.out.apart.1 e))
    have HT6 := Lib.hid (Own.but HD.out.wt HB6.out (fun q hq e => (HD.out.apart.2.2.1 q hq).2 e))
    have HX6 := Lib.hid (HX.out.but HB6.out (fun e => by have h1 := HLT.out M (HFF.out M (.inr (.inr (.inr ⟨k, HKD.out, HDF.out M (.inr (.inl rfl))⟩)))); omega))
    clear hown6 hgrow6 HM1 hws
    refine wp_region_any (by kernel_rfl) ?_
    change wpAny _ _ _ _ _ _ _ (World.drew w6)
    have HGd := Lib.hid (show Blk w6.drew g _ 74 from HG6.out)
    have HTd := Lib.hid (show w6.drew.ownsRow 0 82 129 (.slice W m e) m (wvs d.wt) from HT6.out)
    have HXd := Lib.hid (show Blk w6.drew w.heap.size (bva s) 38 from HX6.out)
    obtain ⟨w7, hw7⟩ : ∃ w7, w7 = w6.drew := ⟨_, rfl⟩
    rw [← hw7] at HGd HTd HXd ⊢
    have HB7 := Lib.hid (show But (fun q => q = M) W1 w7 by rw [hw7]; exact HB6.out.drew)
    have HO7 := Lib.hid (show w7.ownsMap Try.prog 3 (intP Try.prog) M (m + 1) _ by rw [hw7]; exact HO6.out)
    clear hw7 HB6 HG6 HT6 HX6 HO6
    refine wpAny_take (i := 0) (v := ?b0) rfl (by kernel_rfl) (by kernel_rfl) (by kernel_rfl) (fun _ _ _ h => h) (Or.inl ⟨by rfl, ?y0⟩) ?_
    case y0 => (intro w'; go_simp; try with_reducible rfl)
    try simp only [List.getElem_toArray, List.getElem_cons_zero, Act.put, List.setIfInBounds_toArray, List.set_cons_zero, List.set_cons_succ]
    refine wpAny_take (i := 1) (v := ?b1) rfl (by kernel_rfl) (by kernel_rfl) (by kernel_rfl) (fun _ _ _ h => h) (Or.inl ⟨by rfl, ?y1⟩) ?_
    case y1 => (intro w'; go_simp; try with_reducible rfl)
    try simp only [List.getElem_toArray, List.getElem_cons_succ, List.getElem_cons_zero, Act.put, List.setIfInBounds_toArray, List.set_cons_zero, List.set_cons_succ]
    refine wpAny_take (i := 2) (v := ?b2) rfl (by kernel_rfl) (by kernel_rfl) (by kernel_rfl) (fun _ _ _ h => h) (Or.inl ⟨by rfl, ?y2⟩) ?_
    case y2 => (intro w'; go_simp; try with_reducible rfl)
    try simp only [List.getElem_toArray, List.getElem_cons_succ, List.getElem_cons_zero, Act.put, List.setIfInBounds_toArray, List.set_cons_zero, List.set_cons_succ]
    refine wpAny_take (i := 3) (v := ?b3) rfl (by kernel_rfl) (by kernel_rfl) (by kernel_rfl) (fun _ _ _ h => h) (Or.inl ⟨by rfl, ?y3⟩) ?_
    case y3 => (intro w'; go_simp; try with_reducible rfl)
    try simp only [List.getElem_toArray, List.getElem_cons_succ, List.getElem_cons_zero, Act.put, List.setIfInBounds_toArray, List.set_cons_zero, List.set_cons_succ]
    refine wpAny_take (i := 5) (v := ?b5) rfl (by kernel_rfl) (by kernel_rfl) (by kernel_rfl) (fun _ _ _ h => h) (Or.inl ⟨by rfl, ?y5⟩) ?_
    case y5 => (intro w'; go_simp; try with_reducible rfl)
    try simp only [List.getElem_toArray, List.getElem_cons_succ, List.getElem_cons_zero, Act.put, List.setIfInBounds_toArray, List.set_cons_zero, List.set_cons_succ]
    refine wpAny_mild [9,12] (i := 4) (v := .slice W m e) rfl (by kernel_rfl) (by kernel_rfl) (by kernel_rfl) (fun _ _ _ h => h) (by rfl) ?z4 ?_
    case z4 => (intro w' hw'; have cc := (HGd.out.below hw').cell 2; go_simp; try with_reducible rfl)
    try simp only [List.getElem_toArray, List.getElem_cons_succ, List.getElem_cons_zero, Act.put, List.setIfInBounds_toArray, List.set_cons_zero, List.set_cons_succ]
    refine wpAny_mild [7,8,9,12] (i := 6) (v := .agg (bva s)) rfl (by kernel_rfl) (by kernel_rfl) (by kernel_rfl) (fun _ _ _ h => h) (by rfl) ?z6 ?_
    case z6 => (intro w' hw'; exact exec_load 38 (.tmp 5) rfl rfl (HXd.out.below hw') Try.underlying38 rfl HIS.out)
    try simp only [List.getElem_toArray, List.getElem_cons_succ, List.getElem_cons_zero, Act.put, List.setIfInBounds_toArray, List.set_cons_zero, List.set_cons_succ]
    refine wpAny_take (i := 7) (v := .agg (wva (j, s))) rfl (by kernel_rfl) (by kernel_rfl) (by kernel_rfl) (fun _ _ _ h => h) (Or.inl ⟨by rfl, fun W => exec_build 82 #[(0, .tmp 29), (1, .tmp 30)] rfl (by simp only [List.map_toArray, List.map_cons, List.map_nil]; exact HBW.out W)⟩) ?_
    try simp only [List.getElem_toArray, List.getElem_cons_succ, List.getElem_cons_zero, Act.put, List.setIfInBounds_toArray, List.set_cons_zero, List.set_cons_succ]
    refine wpAny_ready (rs := [8]) (by kernel_rfl) (by simp) (AllReady.cons rfl (fun K hK => ?_) AllReady.nil)
    rw [if_pos (by rfl)]
    refine wp_buildSliceN 71 1 #[(0, .tmp 31)] rfl (by simp only [List.map_toArray, List.map_cons, List.map_nil]; exact HBS.out w7) ?_
    refine hK _ _ ?_
    clear hK K
    try simp only [List.getElem_toArray, List.getElem_cons_succ, List.getElem_cons_zero, Act.put, List.setIfInBounds_toArray, List.set_cons_zero, List.set_cons_succ]
    refine wpAny_ready (rs := [9]) (by kernel_rfl) (by simp) (AllReady.cons rfl (fun K hK => ?_) AllReady.nil)
    rw [if_pos (by rfl)]
    have HT8 := Lib.hid (own_belowN HTd.out (show Below w7.heap.size w7 (w7.alloc (.cells (wva (j, s)) 82)) from (Below.refl _ _).alloc (Nat.le_refl _) _))
    have HN8 := Lib.hid (show Blk (w7.alloc (.cells (wva (j, s)) 82)) w7.heap.size (wva (j, s)) 82 from heap_alloc_new _ _)
    have HR8 := Lib.hid (show Rd (w7.alloc (.cells (wva (j, s)) 82)).heap.size (w7.alloc (.cells (wva (j, s)) 82)) (some ⟨w7.heap.size, 0, none⟩) (wv (j, s)) from fun q v hv => ⟨_, rfl, HN8.out.lt, by rw [Addr.add_mid, HN8.out.cell, Nat.zero_add, wva, List.getElem?_toArray]; exact hv⟩)
    refine wp_appN _ (.tmp 28) (.tmp 32) 71 rfl dwaitsElt rfl HT8.out rfl HR8.out (by rw [wv_length HS3.out]) (fun v hv => by
      rw [wv, List.mem_cons] at hv
      rcases hv with rfl | hv
      · rfl
      · exact bv_one _ v hv) (by have := HMB.out; omega) (Nat.zero_le _) ?_
    intro A9 c9 w9 ho9 hg9 hl9
    refine hK _ _ ?_
    clear hK K
    try simp only [List.getElem_toArray, List.getElem_cons_succ, List.getElem_cons_zero, Act.put, List.setIfInBounds_toArray, List.set_cons_zero, List.set_cons_succ]
    have HO9 := Lib.hid (show w9.ownsRow 0 82 129 (.slice A9 (m + 1) c9) (m + 1) (wvs (d.add j s).wt) by
      have e1 : wvs (d.add j s).wt = wvs d.wt ++ wv (j, s) := by show wvs (d.wt ++ [(j, s)]) = _; rw [wvs_append]; show _ ++ (wv (j, s) ++ []) = _; rw [List.append_nil]
      rw [e1]; exact ho9)
    have HB8 := Lib.hid (show But (fun q => (Value.slice W m e).ownBlock = some q) w7 w9 from ((But.refl w7).alloc _).grown hg9 (fun q hq => .inl hq))
    have HG9 := Lib.hid (HGd.out.but HB8.out (fun hq => (HD.out.apart.2.2.1 g hq).1 rfl))
    have HL9 := Lib.hid (show ∀ q, (Value.slice A9 (m + 1) c9).ownBlock = some q → (Value.slice W m e).ownBlock = some q ∨ w7.heap.size ≤ q from fun q hq => by
      rcases hl9 with h1 | h1
      · exact .inl (h1.symm.trans hq)
      · rw [hq] at h1; injection h1 with h1; subst h1; exact .inr (by simp))
    have HM9 := Lib.hid (imap_but HO7.out HB8.out (fun hq => (HD.out.apart.2.2.1 M hq).2 rfl))
    have HF9 := HG9.out.free 2
    have HC9 := HG9.out.cell 2
    clear ho9 hg9 hl9 HT8 HN8 HR8
    refine wpAny_take (i := 10) (v := ?b10) rfl (by kernel_rfl) (by kernel_rfl) (by kernel_rfl) (fun _ _ _ h => h) (Or.inl ⟨by rfl, ?y10⟩) ?_
    case y10 => (intro w'; go_simp; try with_reducible rfl)
    try simp only [List.getElem_toArray, List.getElem_cons_succ, List.getElem_cons_zero, Act.put, List.setIfInBounds_toArray, List.set_cons_zero, List.set_cons_succ]
    refine wpAny_take (i := 11) (v := ?b11) rfl (by kernel_rfl) (by kernel_rfl) (by kernel_rfl) (fun _ _ _ h => h) (Or.inl ⟨by rfl, ?y11⟩) ?_
    case y11 => (intro w'; go_simp; try with_reducible rfl)
    try simp only [List.getElem_toArray, List.getElem_cons_succ, List.getElem_cons_zero, Act.put, List.setIfInBounds_toArray, List.set_cons_zero, List.set_cons_succ]
    refine wpAny_ready (rs := [12]) (by kernel_rfl) (by simp) (AllReady.cons rfl (fun K hK => ?_) AllReady.nil)
    rw [if_pos (by rfl)]
    go_simp
    refine hK _ _ ?_
    clear hK K
    try simp only [List.getElem_toArray, List.getElem_cons_succ, List.getElem_cons_zero, Act.put, List.setIfInBounds_toArray, List.set_cons_zero, List.set_cons_succ]
    refine wpAny_done (by kernel_rfl) ?_ _
    generalize hwx : World.setCell _ _ _ = wx
    have hB9 : But (fun q => q = g) w9 wx := by rw [← hwx]; exact but_one _
    have hM7 := HB7.out
    have hBx : But (fun q => q = g ∨ q = M ∨ (Value.slice W m e).ownBlock = some q) W1 wx := ((HB7.out.mono (fun q hq => (.inr (.inl hq) : q = g ∨ q = M ∨ (Value.slice W m e).ownBlock = some q))).trans (HB8.out.mono (fun q hq => .inr (.inr hq)))).trans (hB9.mono (fun q hq => .inl hq))
    have hdx : DevR wx p g (d.add j s) A n c A9 (m + 1) c9 M (D.put (.int .i64 (j : Int)) (.lit (.int .i64 (m : Int)))) := by
      refine ⟨?_, ?_, ?_, ?_, ?_, HD.out.stn, ?_, add_ok HD.out.ok (by rw [HD.out.stn]; exact HJN.out) HS3.out, ?_⟩
      · rw [← hwx]; exact blk_setN8 HG9.out 2 _
      · exact Own.but HD.out.st hBx (fun q hq hq' => by
          rcases hq' with h1 | h1 | h1
          · exact (HD.out.apart.2.1 q hq).1 h1
          · exact (HD.out.apart.2.1 q hq).2 h1
          · exact HD.out.apart.2.2.2 q hq h1)
      · exact Own.but HO9.out hB9 (fun q hq hq' => by
          rcases HL9.out q hq with h1 | h1
          · exact (HD.out.apart.2.2.1 q h1).1 hq'
          · have h2 := HDB.out.lt; have h3 := hM7.size; omega)
      · exact imap_but HM9.out hB9 (fun e => HD.out.apart.1 e.symm)
      · have h1 := HD.out.last.put j s; rw [HD.out.wtn] at h1; exact h1
      · show (d.wt ++ [(j, s)]).length = m + 1; rw [List.length_append, HD.out.wtn]; rfl
      · intro hg; rw [show (d.add j s).gone = d.gone from rfl, HGN.out] at hg; cases hg
    have hbw : But (Fs k) w wx := but_step (But.of_below BW.out (fun q h1 h2 => absurd h1 (by omega))) hBx (fun q hq => .inl (HDF.out q (by
      rcases hq with h1 | h1 | h1
      · exact .inl h1
      · exact .inr (.inl h1)
      · exact .inr (.inr (.inr h1)))))
    have hda : DevAt wx p g (d.add j s) (grow (Fs k) w wx) := ⟨A, n, c, A9, m + 1, c9, M, _, hdx, by
      rintro q (h1 | h1 | h1 | h1)
      · exact .inl (HDF.out q (.inl h1))
      · exact .inl (HDF.out q (.inr (.inl h1)))
      · exact .inl (HDF.out q (.inr (.inr (.inl h1))))
      · rcases HL9.out q h1 with h2 | h2
        · exact .inl (HDF.out q (.inr (.inr (.inr h2))))
        · exact .inr ⟨by have h3 := hM7.size; have h4 := BW.out.size; omega, (hdx.wt.lt q h1).2⟩⟩
    have hup := H0.out.upd HKD.out hbw (d := d.add j s) (by rw [← HGG.out]; exact hda)
    have cp := hdx.blk.cell 0
    have HUP := Lib.hid hup
    have HBW2 := Lib.hid hbw
    clear hwx hB9 hM7 hBx hdx hbw hda hup HB7 HB8 HO9 HL9 HM9 HF9 HC9 HG9 HGd HTd HXd HO7
    go_wp2_with fail
    have hon : (S.put k (d.add j s)).p.off = false := HON.out
    refine (oper_any HUP.out hon).mono ?_
    rintro e2 w2 ⟨rfl, Gs, lf', hs2, hg2, hb2⟩
    have HS2 := Lib.hid hs2
    have HG2 := Lib.hid hg2
    have HB2 := Lib.hid hb2
    have HWV := Lib.hid (show S.write k (j : Int) s = (if S.p.fails then 13 else 0, (S.put k (d.add j s)).count) by rw [HW.out, HDD.out])
    obtain ⟨fb, hfb⟩ : ∃ fb, fb = S.p.fails := ⟨_, rfl⟩
    rw [show (S.put k (d.add j s)).p.fails = fb from hfb.symm]
    have HFB := Lib.hid hfb
    have HEND := Lib.hid (show ∃ F', Sys w2 p gs (S.write k (j : Int) s).2 F' ∧ (∀ q, F' q → F q ∨ w.heap.size ≤ q) ∧ But F w w2 by
      rw [HWV.out]
      refine ⟨grow F w w2, ⟨bs, Gs, FA, fc, lf', HS2.out, ?_, ?_⟩, ?_, ?_⟩
      · have hlen : (S.put k (d.add j s)).count.ds.length = S.ds.length := by rw [count_length, len_put]
        rintro q (h1 | h1 | ⟨i, hi, h1⟩ | ⟨i, hi, h1⟩)
        · exact .inl (HFF.out q (.inl h1))
        · exact .inl (HFF.out q (.inr (.inl h1)))
        · rw [hlen] at hi; exact .inl (HFF.out q (.inr (.inr (.inl ⟨i, hi, h1⟩))))
        · have hq := HS2.out.lt i q hi h1
          rw [hlen] at hi
          rcases HG2.out i q (by rw [len_put]; exact hi) h1 with h2 | h2
          · by_cases e : i = k
            · rw [if_pos e] at h2
              rcases h2 with h2 | h2
              · exact .inl (HFF.out q (.inr (.inr (.inr ⟨k, HKD.out, h2⟩))))
              · exact .inr ⟨h2.1, hq⟩
            · rw [if_neg e] at h2
              exact .inl (HFF.out q (.inr (.inr (.inr ⟨i, hi, h2⟩))))
          · exact .inr ⟨Nat.le_trans HBW2.out.size h2, hq⟩
      · rintro q (h1 | h1)
        · have := HLT.out q h1; have := HBW2.out.size; have := HB2.out.size; omega
        · exact h1.2
      · rintro q (h1 | h1)
        · exact .inl h1
        · exact .inr h1.1
      · refine but_step (HBW2.out.mono (fun q hq => HFF.out q (.inr (.inr (.inr ⟨k, HKD.out, hq⟩))))) HB2.out ?_
        rintro q (h1 | ⟨i, hi, h1⟩)
        · exact .inl (HFF.out q (.inl h1))
        · rw [len_put] at hi
          by_cases e : i = k
          · rw [if_pos e] at h1
            rcases h1 with h1 | h1
            · exact .inl (HFF.out q (.inr (.inr (.inr ⟨k, HKD.out, h1⟩))))
            · exact .inr h1.1
          · rw [if_neg e] at h1
            exact .inl (HFF.out q (.inr (.inr (.inr ⟨i, hi, h1⟩)))))
    have HV := Lib.hid (show (S.write k (j : Int) s).1 = if fb then 13 else 0 by rw [HWV.out, HFB.out])
    clear hs2 hg2 hb2 hfb hon cp
    cases fb
    · go_wp2_with fail
      go_ret
      exact ⟨by rw [HV.out]; rfl, HEND.out⟩
    · go_wp2_with fail
      go_ret
      exact ⟨by rw [HV.out]; rfl, HEND.out⟩
  · have HW := Lib.hid (write_no (S := S) (k := k) (n := i) (s := s) (by rw [← HDD.out, hrf]; exact hr))
    obtain ⟨x, hx⟩ : ∃ x, x = reachN S.p.off d.gone n i := ⟨_, rfl⟩
    have hx0 : (x == 0) = false := by rw [hx]; simpa using hr
    have HX0 := Lib.hid (show refuseN S.p (S.at k) i = x by rw [hx, ← HDD.out, hrf])
    have HXV := Lib.hid hx.symm
    clear hr hx hrf
    go_enter Try.func23, Try.ntmps23
    go_wp2_with (refine (reaches_any S.p.off d.gone _ _ A n c i HPW.out HDB.out).mono ?_; rintro e' w' ⟨rfl, rfl⟩; rw [HXV.out])
    go_ret
    refine ⟨by rw [HW.out, HX0.out]; rfl, F, ?_, fun q hq => .inl hq, But.of_below BW.out (fun q h1 h2 => absurd h1 (by omega))⟩
    rw [HW.out]
    exact ⟨bs, Fs, FA, fc, lf, H.out, HFF.out, fun q hq => Nat.lt_of_lt_of_le (HLT.out q hq) BW.out.size⟩
end Go.Proofs.Ytolbffcbamfbeaa.Kd
