/-
  Texts of this seat, one behind the other: KdWrite, KdFlush, KdReadC, KdTell, KdRot, KdDump, KdNew, KdPower, KdLive, KdAwake, KdFine, KdRSys, KdMore, KdGuard, Open, KdDeed, KdDo, KdRTell, KdRotP, KdRRot, KdLDo, KdTorn, KdRFallP.
-/
import Derived.Laws.BitsAllLaws
import Derived.Lib.Overlaps
import Derived.Deep.DeepCutAuto
import Derived.OrdersHeld
import Derived.Deep.RegionHeld
import Derived.Deep.Slices
import Derived.OpenShut
import Derived.Test.YtfofkjcdohmkpaaMp1
/-
  The contract of a device's Write.
-/
namespace Go.Proofs.Ytfofkjcdohmkpaa.Kd
open Go.RowKit Go.Maps
attribute [local go_sem ↓] Go.wp_at_zero Go.wp_at_succ
theorem wfI {z : Int} (h : -9223372036854775808 ≤ z ∧ z ≤ 9223372036854775807) : (Lit.int .i64 z).wf = true := by
  have h1 : IntKind.i64.min = -9223372036854775808 := by decide
  have h2 : IntKind.i64.max = 9223372036854775807 := by decide
  simp [Lit.wf, h1, h2]; omega
theorem intR_mk {z : Int} (h : -9223372036854775808 ≤ z ∧ z ≤ 9223372036854775807) : (intP Try.prog) (.int .i64 z) = some (.lit (.int .i64 z), []) := plainElem_int Try.underlying3 (wfI h)
theorem count_length (S : Sy) : S.count.ds.length = S.ds.length := by unfold Sy.count; split <;> simp
/-- A device to which a write has come. -/
def Dv.add (d : Dv) (n : Nat) (s : List UInt8) : Dv := { d with wt := d.wt ++ [(n, s)] }
theorem add_ok {d : Dv} (h : d.ok) {n : Nat} {s : List UInt8} (hn : n < d.st.length) (hs : s.length = 128) : (d.add n s).ok := by
  refine ⟨h.st, fun x hx => ?_, h.kept, h.bytes, h.len⟩
  rcases List.mem_append.1 hx with hx | hx
  · exact h.wt x hx
  · rw [List.mem_singleton] at hx; subst hx; exact ⟨hn, hs⟩
theorem write_no {S : Sy} {k : Nat} {n : Int} {s : List UInt8} (h : refuseN S.p (S.at k) n ≠ 0) : S.write k n s = (refuseN S.p (S.at k) n, S) := by unfold Sy.write; rw [if_pos h]
theorem write_yes {S : Sy} {k : Nat} {n : Nat} {s : List UInt8} (h : refuseN S.p (S.at k) (n : Int) = 0) : S.write k (n : Int) s = (if S.p.fails then 13 else 0, (S.put k ((S.at k).add n s)).count) := by unfold Sy.write; rw [if_neg (by rw [h]; simp)]; rfl
theorem refuse_zero {P : Pw} {d : Dv} {i : Int} (h : refuseN P d i = 0) : P.off = false ∧ d.gone = false ∧ 0 ≤ i ∧ i < (d.st.length : Int) := by
  unfold refuseN at h
  split at h
  · omega
  · rename_i h1
    split at h
    · omega
    · rename_i h2
      have h3 : P.off = false ∧ d.gone = false := by
        cases h4 : P.off <;> cases h5 : d.gone <;> simp_all
      exact ⟨h3.1, h3.2, by omega, by omega⟩
set_option maxRecDepth 100000 in
set_option maxHeartbeats 6400000 in
theorem write_any {w : World} {p : Nat} {gs : List Nat} {S : Sy} {F : Nat → Prop} (h : Sys w p gs S F) (k : Nat) (hk : k < S.ds.length) (i : Int) (s : List UInt8) (hs : s.length = 128) (hm : (S.at k).wt.length < 1000000) :
    Calls Try.prog 44 #[.pointer (some ⟨gs.getD k 0, 0, none⟩), .int .i64 i, .agg (bva s)] w (RetS (.int .i64 (S.write k i s).1) p gs (S.write k i s).2 F w) := by
  obtain ⟨bs, Fs, FA, fc, lf, h, hF, hlt⟩ := h
  have BW := Lib.hid (show Below w.heap.size w (w.alloc (.cells (bva s) 38)) from (Below.refl _ w).alloc (Nat.le_refl _) _)
  have HX := Lib.hid (show Blk (w.alloc (.cells (bva s) 38)) w.heap.size (bva s) 38 from heap_alloc_new _ _)
  have H0 := Lib.hid h
  have H := Lib.hid (h.below BW.out)
  obtain ⟨A, n, c, W, m, e, M, D, hd, hDF⟩ := h.dev k hk
  have HD := Lib.hid (hd.below BW.out)
  have HDF := Lib.hid hDF
  obtain ⟨d, hdd⟩ : ∃ d, d = S.at k := ⟨_, rfl⟩
  obtain ⟨g, hgg⟩ : ∃ g, g = gs.getD k 0 := ⟨_, rfl⟩
  rw [← hdd] at HD hm
  rw [← hgg] at HD HDF
  rw [← hgg]
  have HDD := Lib.hid hdd
  have HGG := Lib.hid hgg
  have HFF := Lib.hid hF
  have HLT := Lib.hid hlt
  have HS3 := Lib.hid hs
  have HM := Lib.hid hm
  have HKD := Lib.hid hk
  have HIS : Hid ((Try.prog.info? 38).map (·.size) = some (bva s).size) := by show _ = _; rw [bva_size, hs]; exact info_sec
  have hpw := H.out.pow.blk
  have hdb := HD.out.blk
  have HPW := Lib.hid hpw
  have HDB := Lib.hid hdb
  have hrf : refuseN S.p d i = reachN S.p.off d.gone n i := reach_refuse HD.out.stn i
  clear h hd hDF hdd hgg hF hlt hpw hdb hs hm hk
  by_cases hr : reachN S.p.off d.gone n i = 0
  · have h0 := refuse_zero (hrf.trans hr)
    obtain ⟨j, rfl⟩ := Int.eq_ofNat_of_zero_le h0.2.2.1
    have HW := Lib.hid (write_yes (S := S) (k := k) (n := j) (s := s) (by rw [← HDD.out, hrf, hr]))
    have hjn : j < n := by have := HD.out.stn; omega
    have HR := Lib.hid hr
    have HON := Lib.hid h0.1
    have HGN := Lib.hid h0.2.1
    have HJN := Lib.hid hjn
    have hmb : m < 1000000 := by rw [← HD.out.wtn]; exact HM.out
    have m0 : (0 : Int) ≤ (m : Int) := by omega
    have m1 : (m : Int) ≤ 1000000 := by omega
    have j0 : (0 : Int) ≤ (j : Int) := by omega
    have j1 : (j : Int) ≤ 4096 := by have := HD.out.ok.len; omega
    have HMB := Lib.hid hmb
    have HBW := Lib.hid (show ∀ W, (Instr.build 125 #[(0, .int .i64 (j : Int)), (1, .agg (bva s))]).run Try.prog W = .ok (.agg (wva (j, s))) W from fun W => build_dwait (j, s) HS3.out W)
    have HBS := Lib.hid (show ∀ W : World, (Instr.buildSlice 94 1 #[(0, .agg (wva (j, s)))]).run Try.prog W = .ok (.slice (some ⟨W.heap.size, 0, none⟩) 1 1) (W.alloc (.cells (wva (j, s)) 125)) from fun W => run_oneN dwaitsElt W (.agg (wva (j, s))) (wva_size HS3.out) (by omega))
    have HKI := Lib.hid (keyOf_int_mk (P := Try.prog) (k := 3) Try.underlying3 (wfI (z := (j : Int)) (by omega)))
    have HMI := Lib.hid (intR_mk (z := (m : Int)) (by omega))
    clear hrf hr h0 hjn hmb
    go_enter Try.func44, Try.ntmps44
    go_wp2_with (refine (reaches_any S.p.off d.gone _ _ A n c (j : Int) HPW.out HDB.out).mono ?_; rintro e' w' ⟨rfl, rfl⟩; rw [HR.out])
    obtain ⟨W1, hW1⟩ : ∃ W1, W1 = w.alloc (.cells (bva s) 38) := ⟨_, rfl⟩
    rw [← hW1] at BW HX H HD HPW HDB ⊢
    have c3 := HDB.out.cell 3
    have c2 := HDB.out.cell 2
    clear hW1
    refine wp_region_still_tail 10 (by kernel_rfl) (by kernel_rfl) ?_
    simp only [List.take_succ_cons, List.take_zero, List.drop_succ_cons, List.drop_zero]
    iterate 10 still_step
    refine wpStill_nil ?_
    change wpList _ _ _ _ _ W1.drew
    have HM1 := Lib.hid (show W1.drew.ownsMap Try.prog 3 (intP Try.prog) M m D from HD.out.map)
    have hws : W1.drew.heap.size = W1.heap.size := rfl
    clear c2 c3
    go_wp2_with (at_mapUpdate; refine wpList_mapUpdate_own _ rfl _ _ _ 95 rfl 3 3 lawI Try.underlying95 (intP Try.prog) M m D rfl HM1.out (by have := HMB.out; unfold maxLen; omega) (.int .i64 (j : Int)) (.int .i64 (m : Int)) (.int .i64 (j : Int)) rfl rfl HKI.out (.lit (.int .i64 (m : Int))) [] HMI.out ?_; intro w6 hown6 hgrow6)
    have HO6 := Lib.hid hown6
    have HB6 := Lib.hid (show But (fun q => q = M) W1 w6 from (But.refl W1).drew.grown hgrow6 (fun q hq => by injection hq with hq; exact .inl hq.symm))
    have HG6 := Lib.hid (HDB.out.but HB6.out (fun e => HD.out.apart.1 e))
    have HT6 := Lib.hid (Own.but HD.out.wt HB6.out (fun q hq e => (HD.out.apart.2.2.1 q hq).2 e))
    have HX6 := Lib.hid (HX.out.but HB6.out (fun e => by have h1 := HLT.out M (HFF.out M (.inr (.inr (.inr ⟨k, HKD.out, HDF.out M (.inr (.inl rfl))⟩)))); omega))
    clear hown6 hgrow6 HM1 hws
    refine wp_region_any (by kernel_rfl) ?_
    change wpAny _ _ _ _ _ _ _ (World.drew w6)
    have HGd := Lib.hid (show Blk w6.drew g _ 97 from HG6.out)
    have HTd := Lib.hid (show w6.drew.ownsRow 0 125 129 (.slice W m e) m (wvs d.wt) from HT6.out)
    have HXd := Lib.hid (show Blk w6.drew w.heap.size (bva s) 38 from HX6.out)
    obtain ⟨w7, hw7⟩ : ∃ w7, w7 = w6.drew := ⟨_, rfl⟩
    rw [← hw7] at HGd HTd HXd ⊢
    have HB7 := Lib.hid (show But (fun q => q = M) W1 w7 by rw [hw7]; exact HB6.out.drew)
    have HO7 := Lib.hid (show w7.ownsMap Try.prog 3 (intP Try.prog) M (m + 1) _ by rw [hw7]; exact HO6.out)
    clear hw7 HB6 HG6 HT6 HX6 HO6
    refine wpAny_take (i := 0) (v := ?b0) rfl (by kernel_rfl) (by kernel_rfl) (by kernel_rfl) (fun _ _ _ h => h) (Or.inl ⟨by rfl, ?y0⟩) ?_
    case y0 => (intro w'; go_simp; try with_reducible rfl)
    try simp only [List.getElem_toArray, List.getElem_cons_zero, Act.put, List.setIfInBounds_toArray, List.set_cons_zero, List.set_cons_succ]
    refine wpAny_take (i := 1) (v := ?b1) rfl (by kernel_rfl) (by kernel_rfl) (by kernel_rfl) (fun _ _ _ h => h) (Or.inl ⟨by rfl, ?y1⟩) ?_
    case y1 => (intro w'; go_simp; try with_reducible rfl)
    try simp only [List.getElem_toArray, List.getElem_cons_succ, List.getElem_cons_zero, Act.put, List.setIfInBounds_toArray, List.set_cons_zero, List.set_cons_succ]
    refine wpAny_take (i := 2) (v := ?b2) rfl (by kernel_rfl) (by kernel_rfl) (by kernel_rfl) (fun _ _ _ h => h) (Or.inl ⟨by rfl, ?y2⟩) ?_
    case y2 => (intro w'; go_simp; try with_reducible rfl)
    try simp only [List.getElem_toArray, List.getElem_cons_succ, List.getElem_cons_zero, Act.put, List.setIfInBounds_toArray, List.set_cons_zero, List.set_cons_succ]
    refine wpAny_take (i := 3) (v := ?b3) rfl (by kernel_rfl) (by kernel_rfl) (by kernel_rfl) (fun _ _ _ h => h) (Or.inl ⟨by rfl, ?y3⟩) ?_
    case y3 => (intro w'; go_simp; try with_reducible rfl)
    try simp only [List.getElem_toArray, List.getElem_cons_succ, List.getElem_cons_zero, Act.put, List.setIfInBounds_toArray, List.set_cons_zero, List.set_cons_succ]
    refine wpAny_take (i := 5) (v := ?b5) rfl (by kernel_rfl) (by kernel_rfl) (by kernel_rfl) (fun _ _ _ h => h) (Or.inl ⟨by rfl, ?y5⟩) ?_
    case y5 => (intro w'; go_simp; try with_reducible rfl)
    try simp only [List.getElem_toArray, List.getElem_cons_succ, List.getElem_cons_zero, Act.put, List.setIfInBounds_toArray, List.set_cons_zero, List.set_cons_succ]
    refine wpAny_mild [9,12] (i := 4) (v := .slice W m e) rfl (by kernel_rfl) (by kernel_rfl) (by kernel_rfl) (fun _ _ _ h => h) (by rfl) ?z4 ?_
    case z4 => (intro w' hw'; have cc := (HGd.out.below hw').cell 2; go_simp; try with_reducible rfl)
    try simp only [List.getElem_toArray, List.getElem_cons_succ, List.getElem_cons_zero, Act.put, List.setIfInBounds_toArray, List.set_cons_zero, List.set_cons_succ]
    refine wpAny_mild [7,8,9,12] (i := 6) (v := .agg (bva s)) rfl (by kernel_rfl) (by kernel_rfl) (by kernel_rfl) (fun _ _ _ h => h) (by rfl) ?z6 ?_
    case z6 => (intro w' hw'; exact exec_load 38 (.tmp 5) rfl rfl (HXd.out.below hw') Try.underlying38 rfl HIS.out)
    try simp only [List.getElem_toArray, List.getElem_cons_succ, List.getElem_cons_zero, Act.put, List.setIfInBounds_toArray, List.set_cons_zero, List.set_cons_succ]
    refine wpAny_take (i := 7) (v := .agg (wva (j, s))) rfl (by kernel_rfl) (by kernel_rfl) (by kernel_rfl) (fun _ _ _ h => h) (Or.inl ⟨by rfl, fun W => exec_build 125 #[(0, .tmp 29), (1, .tmp 30)] rfl (by simp only [List.map_toArray, List.map_cons, List.map_nil]; exact HBW.out W)⟩) ?_
    try simp only [List.getElem_toArray, List.getElem_cons_succ, List.getElem_cons_zero, Act.put, List.setIfInBounds_toArray, List.set_cons_zero, List.set_cons_succ]
    refine wpAny_ready (rs := [8]) (by kernel_rfl) (by simp) (AllReady.cons rfl (fun K hK => ?_) AllReady.nil)
    rw [if_pos (by rfl)]
    refine wp_buildSliceN 94 1 #[(0, .tmp 31)] rfl (by simp only [List.map_toArray, List.map_cons, List.map_nil]; exact HBS.out w7) ?_
    refine hK _ _ ?_
    clear hK K
    try simp only [List.getElem_toArray, List.getElem_cons_succ, List.getElem_cons_zero, Act.put, List.setIfInBounds_toArray, List.set_cons_zero, List.set_cons_succ]
    refine wpAny_ready (rs := [9]) (by kernel_rfl) (by simp) (AllReady.cons rfl (fun K hK => ?_) AllReady.nil)
    rw [if_pos (by rfl)]
    have HT8 := Lib.hid (own_belowN HTd.out (show Below w7.heap.size w7 (w7.alloc (.cells (wva (j, s)) 125)) from (Below.refl _ _).alloc (Nat.le_refl _) _))
    have HN8 := Lib.hid (show Blk (w7.alloc (.cells (wva (j, s)) 125)) w7.heap.size (wva (j, s)) 125 from heap_alloc_new _ _)
    have HR8 := Lib.hid (show Rd (w7.alloc (.cells (wva (j, s)) 125)).heap.size (w7.alloc (.cells (wva (j, s)) 125)) (some ⟨w7.heap.size, 0, none⟩) (wv (j, s)) from fun q v hv => ⟨_, rfl, HN8.out.lt, by rw [Addr.add_mid, HN8.out.cell, Nat.zero_add, wva, List.getElem?_toArray]; exact hv⟩)
    refine wp_appN _ (.tmp 28) (.tmp 32) 94 rfl dwaitsElt rfl HT8.out rfl HR8.out (by rw [wv_length HS3.out]) (fun v hv => by
      rw [wv, List.mem_cons] at hv
      rcases hv with rfl | hv
      · rfl
      · exact bv_one _ v hv) (by have := HMB.out; omega) (Nat.zero_le _) ?_
    intro A9 c9 w9 ho9 hg9 hl9
    refine hK _ _ ?_
    clear hK K
    try simp only [List.getElem_toArray, List.getElem_cons_succ, List.getElem_cons_zero, Act.put, List.setIfInBounds_toArray, List.set_cons_zero, List.set_cons_succ]
    have HO9 := Lib.hid (show w9.ownsRow 0 125 129 (.slice A9 (m + 1) c9) (m + 1) (wvs (d.add j s).wt) by
      have e1 : wvs (d.add j s).wt = wvs d.wt ++ wv (j, s) := by show wvs (d.wt ++ [(j, s)]) = _; rw [wvs_append]; show _ ++ (wv (j, s) ++ []) = _; rw [List.append_nil]
      rw [e1]; exact ho9)
    have HB8 := Lib.hid (show But (fun q => (Value.slice W m e).ownBlock = some q) w7 w9 from ((But.refl w7).alloc _).grown hg9 (fun q hq => .inl hq))
    have HG9 := Lib.hid (HGd.out.but HB8.out (fun hq => (HD.out.apart.2.2.1 g hq).1 rfl))
    have HL9 := Lib.hid (show ∀ q, (Value.slice A9 (m + 1) c9).ownBlock = some q → (Value.slice W m e).ownBlock = some q ∨ w7.heap.size ≤ q from fun q hq => by
      rcases hl9 with h1 | h1
      · exact .inl (h1.symm.trans hq)
      · rw [hq] at h1; injection h1 with h1; subst h1; exact .inr (by simp))
    have HM9 := Lib.hid (imap_but HO7.out HB8.out (fun hq => (HD.out.apart.2.2.1 M hq).2 rfl))
    have HF9 := HG9.out.free 2
    have HC9 := HG9.out.cell 2
    clear ho9 hg9 hl9 HT8 HN8 HR8
    refine wpAny_take (i := 10) (v := ?b10) rfl (by kernel_rfl) (by kernel_rfl) (by kernel_rfl) (fun _ _ _ h => h) (Or.inl ⟨by rfl, ?y10⟩) ?_
    case y10 => (intro w'; go_simp; try with_reducible rfl)
    try simp only [List.getElem_toArray, List.getElem_cons_succ, List.getElem_cons_zero, Act.put, List.setIfInBounds_toArray, List.set_cons_zero, List.set_cons_succ]
    refine wpAny_take (i := 11) (v := ?b11) rfl (by kernel_rfl) (by kernel_rfl) (by kernel_rfl) (fun _ _ _ h => h) (Or.inl ⟨by rfl, ?y11⟩) ?_
    case y11 => (intro w'; go_simp; try with_reducible rfl)
    try simp only [List.getElem_toArray, List.getElem_cons_succ, List.getElem_cons_zero, Act.put, List.setIfInBounds_toArray, List.set_cons_zero, List.set_cons_succ]
    refine wpAny_ready (rs := [12]) (by kernel_rfl) (by simp) (AllReady.cons rfl (fun K hK => ?_) AllReady.nil)
    rw [if_pos (by rfl)]
    go_simp
    refine hK _ _ ?_
    clear hK K
    try simp only [List.getElem_toArray, List.getElem_cons_succ, List.getElem_cons_zero, Act.put, List.setIfInBounds_toArray, List.set_cons_zero, List.set_cons_succ]
    refine wpAny_done (by kernel_rfl) ?_ _
    generalize hwx : World.setCell _ _ _ = wx
    have hB9 : But (fun q => q = g) w9 wx := by rw [← hwx]; exact but_one _
    have hM7 := HB7.out
    have hBx : But (fun q => q = g ∨ q = M ∨ (Value.slice W m e).ownBlock = some q) W1 wx := ((HB7.out.mono (fun q hq => (.inr (.inl hq) : q = g ∨ q = M ∨ (Value.slice W m e).ownBlock = some q))).trans (HB8.out.mono (fun q hq => .inr (.inr hq)))).trans (hB9.mono (fun q hq => .inl hq))
    have hdx : DevR wx p g (d.add j s) A n c A9 (m + 1) c9 M (D.put (.int .i64 (j : Int)) (.lit (.int .i64 (m : Int)))) := by
      refine ⟨?_, ?_, ?_, ?_, ?_, HD.out.stn, ?_, add_ok HD.out.ok (by rw [HD.out.stn]; exact HJN.out) HS3.out, ?_⟩
      · rw [← hwx]; exact blk_setN8 HG9.out 2 _
      · exact Own.but HD.out.st hBx (fun q hq hq' => by
          rcases hq' with h1 | h1 | h1
          · exact (HD.out.apart.2.1 q hq).1 h1
          · exact (HD.out.apart.2.1 q hq).2 h1
          · exact HD.out.apart.2.2.2 q hq h1)
      · exact Own.but HO9.out hB9 (fun q hq hq' => by
          rcases HL9.out q hq with h1 | h1
          · exact (HD.out.apart.2.2.1 q h1).1 hq'
          · have h2 := HDB.out.lt; have h3 := hM7.size; omega)
      · exact imap_but HM9.out hB9 (fun e => HD.out.apart.1 e.symm)
      · have h1 := HD.out.last.put j s; rw [HD.out.wtn] at h1; exact h1
      · show (d.wt ++ [(j, s)]).length = m + 1; rw [List.length_append, HD.out.wtn]; rfl
      · intro hg; rw [show (d.add j s).gone = d.gone from rfl, HGN.out] at hg; cases hg
    have hbw : But (Fs k) w wx := but_step (But.of_below BW.out (fun q h1 h2 => absurd h1 (by omega))) hBx (fun q hq => .inl (HDF.out q (by
      rcases hq with h1 | h1 | h1
      · exact .inl h1
      · exact .inr (.inl h1)
      · exact .inr (.inr (.inr h1)))))
    have hda : DevAt wx p g (d.add j s) (grow (Fs k) w wx) := ⟨A, n, c, A9, m + 1, c9, M, _, hdx, by
      rintro q (h1 | h1 | h1 | h1)
      · exact .inl (HDF.out q (.inl h1))
      · exact .inl (HDF.out q (.inr (.inl h1)))
      · exact .inl (HDF.out q (.inr (.inr (.inl h1))))
      · rcases HL9.out q h1 with h2 | h2
        · exact .inl (HDF.out q (.inr (.inr (.inr h2))))
        · exact .inr ⟨by have h3 := hM7.size; have h4 := BW.out.size; omega, (hdx.wt.lt q h1).2⟩⟩
    have hup := H0.out.upd HKD.out hbw (d := d.add j s) (by rw [← HGG.out]; exact hda)
    have cp := hdx.blk.cell 0
    have HUP := Lib.hid hup
    have HBW2 := Lib.hid hbw
    clear hwx hB9 hM7 hBx hdx hbw hda hup HB7 HB8 HO9 HL9 HM9 HF9 HC9 HG9 HGd HTd HXd HO7
    go_wp2_with fail
    have hon : (S.put k (d.add j s)).p.off = false := HON.out
    refine (oper_any HUP.out hon).mono ?_
    rintro e2 w2 ⟨rfl, Gs, lf', hs2, hg2, hb2⟩
    have HS2 := Lib.hid hs2
    have HG2 := Lib.hid hg2
    have HB2 := Lib.hid hb2
    have HWV := Lib.hid (show S.write k (j : Int) s = (if S.p.fails then 13 else 0, (S.put k (d.add j s)).count) by rw [HW.out, HDD.out])
    obtain ⟨fb, hfb⟩ : ∃ fb, fb = S.p.fails := ⟨_, rfl⟩
    rw [show (S.put k (d.add j s)).p.fails = fb from hfb.symm]
    have HFB := Lib.hid hfb
    have HEND := Lib.hid (show ∃ F', Sys w2 p gs (S.write k (j : Int) s).2 F' ∧ (∀ q, F' q → F q ∨ w.heap.size ≤ q) ∧ But F w w2 by
      rw [HWV.out]
      refine ⟨grow F w w2, ⟨bs, Gs, FA, fc, lf', HS2.out, ?_, ?_⟩, ?_, ?_⟩
      · have hlen : (S.put k (d.add j s)).count.ds.length = S.ds.length := by rw [count_length, len_put]
        rintro q (h1 | h1 | ⟨i, hi, h1⟩ | ⟨i, hi, h1⟩)
        · exact .inl (HFF.out q (.inl h1))
        · exact .inl (HFF.out q (.inr (.inl h1)))
        · rw [hlen] at hi; exact .inl (HFF.out q (.inr (.inr (.inl ⟨i, hi, h1⟩))))
        · have hq := HS2.out.lt i q hi h1
          rw [hlen] at hi
          rcases HG2.out i q (by rw [len_put]; exact hi) h1 with h2 | h2
          · by_cases e : i = k
            · rw [if_pos e] at h2
              rcases h2 with h2 | h2
              · exact .inl (HFF.out q (.inr (.inr (.inr ⟨k, HKD.out, h2⟩))))
              · exact .inr ⟨h2.1, hq⟩
            · rw [if_neg e] at h2
              exact .inl (HFF.out q (.inr (.inr (.inr ⟨i, hi, h2⟩))))
          · exact .inr ⟨Nat.le_trans HBW2.out.size h2, hq⟩
      · rintro q (h1 | h1)
        · have := HLT.out q h1; have := HBW2.out.size; have := HB2.out.size; omega
        · exact h1.2
      · rintro q (h1 | h1)
        · exact .inl h1
        · exact .inr h1.1
      · refine but_step (HBW2.out.mono (fun q hq => HFF.out q (.inr (.inr (.inr ⟨k, HKD.out, hq⟩))))) HB2.out ?_
        rintro q (h1 | ⟨i, hi, h1⟩)
        · exact .inl (HFF.out q (.inl h1))
        · rw [len_put] at hi
          by_cases e : i = k
          · rw [if_pos e] at h1
            rcases h1 with h1 | h1
            · exact .inl (HFF.out q (.inr (.inr (.inr ⟨k, HKD.out, h1⟩))))
            · exact .inr h1.1
          · rw [if_neg e] at h1
            exact .inl (HFF.out q (.inr (.inr (.inr ⟨i, hi, h1⟩)))))
    have HV := Lib.hid (show (S.write k (j : Int) s).1 = if fb then 13 else 0 by rw [HWV.out, HFB.out])
    clear hs2 hg2 hb2 hfb hon cp
    cases fb
    · go_wp2_with fail
      go_ret
      exact ⟨by rw [HV.out]; rfl, HEND.out⟩
    · go_wp2_with fail
      go_ret
      exact ⟨by rw [HV.out]; rfl, HEND.out⟩
  · have HW := Lib.hid (write_no (S := S) (k := k) (n := i) (s := s) (by rw [← HDD.out, hrf]; exact hr))
    obtain ⟨x, hx⟩ : ∃ x, x = reachN S.p.off d.gone n i := ⟨_, rfl⟩
    have hx0 : (x == 0) = false := by rw [hx]; simpa using hr
    have HX0 := Lib.hid (show refuseN S.p (S.at k) i = x by rw [hx, ← HDD.out, hrf])
    have HXV := Lib.hid hx.symm
    clear hr hx hrf
    go_enter Try.func44, Try.ntmps44
    go_wp2_with (refine (reaches_any S.p.off d.gone _ _ A n c i HPW.out HDB.out).mono ?_; rintro e' w' ⟨rfl, rfl⟩; rw [HXV.out])
    go_ret
    refine ⟨by rw [HW.out, HX0.out]; rfl, F, ?_, fun q hq => .inl hq, But.of_below BW.out (fun q h1 h2 => absurd h1 (by omega))⟩
    rw [HW.out]
    exact ⟨bs, Fs, FA, fc, lf, H.out, HFF.out, fun q hq => Nat.lt_of_lt_of_le (HLT.out q hq) BW.out.size⟩
end Go.Proofs.Ytfofkjcdohmkpaa.Kd
/-
  The contract of a device's Flush.
-/
namespace Go.Proofs.Ytfofkjcdohmkpaa.Kd
open Go.RowKit Go.Maps
attribute [local go_sem ↓] Go.wp_at_zero Go.wp_at_succ
section
variable {w w2 : World} {p : Nat} {gs bs : List Nat} {S S2 : Sy} {Fs Gs : Nat → Nat → Prop} {F : Nat → Prop} {FA : Option Addr} {fc : Nat} {lf' : Int} {N : Nat}
theorem SysR.fin (h2 : SysR w2 p gs bs S2 Gs FA fc lf') (hF : ∀ q, SysF p bs Fs FA fc N q → F q) (hl : ∀ q, F q → q < w.heap.size) (hlen : S2.ds.length = N) (hg : ∀ i q, i < N → Gs i q → Fs i q ∨ w.heap.size ≤ q) (hb : But F w w2) :
    ∃ F', Sys w2 p gs S2 F' ∧ (∀ q, F' q → F q ∨ w.heap.size ≤ q) ∧ But F w w2 := by
  refine ⟨grow F w w2, ⟨bs, Gs, FA, fc, lf', h2, ?_, ?_⟩, ?_, hb⟩
  · rintro q (h1 | h1 | ⟨i, hi, h1⟩ | ⟨i, hi, h1⟩)
    · exact .inl (hF q (.inl h1))
    · exact .inl (hF q (.inr (.inl h1)))
    · rw [hlen] at hi; exact .inl (hF q (.inr (.inr (.inl ⟨i, hi, h1⟩))))
    · have hq := h2.lt i q hi h1
      rw [hlen] at hi
      rcases hg i q hi h1 with h3 | h3
      · exact .inl (hF q (.inr (.inr (.inr ⟨i, hi, h3⟩))))
      · exact .inr ⟨h3, hq⟩
  · rintro q (h1 | h1)
    · exact Nat.lt_of_lt_of_le (hl q h1) hb.size
    · exact h1.2
  · rintro q (h1 | h1)
    · exact .inl h1
    · exact .inr h1.1
end
theorem settle_at {w : World} {p g : Nat} {d : Dv} {F : Nat → Prop} (h : DevAt w p g d F) (x b : Int) (hx : 0 ≤ x) (hb0 : 0 ≤ b) (hb1 : b ≤ 128) :
    Calls Try.prog 49 #[.pointer (some ⟨g, 0, none⟩), .int .i64 x, .int .i64 b] w (fun e' w' => e' = .returned (.tuple #[]) ∧ DevAt w' p g (d.settle x.toNat b) (grow F w w') ∧ But F w w') := by
  obtain ⟨A, n, c, W, m, e, M, D, h, hF⟩ := h
  refine (settle_any h x b hx hb0 hb1).mono ?_
  rintro e2 w2 ⟨rfl, M', h1, h2, h3⟩
  refine ⟨rfl, ⟨A, n, c, none, 0, 0, M', _, h1, ?_⟩, h3.mono ?_⟩
  · rintro q (rfl | rfl | hq | hq)
    · exact .inl (hF _ (.inl rfl))
    · exact .inr ⟨h2, h1.map.lt⟩
    · exact .inl (hF _ (.inr (.inr (.inl hq))))
    · cases hq
  · rintro q (rfl | hq)
    · exact hF _ (.inl rfl)
    · exact hF _ (.inr (.inr (.inl hq)))
theorem flush_down {S : Sy} {k : Nat} (h : (S.p.off || (S.at k).gone) = true) : S.flush k = (13, S) := by unfold Sy.flush; rw [if_pos h]
theorem flush_fails {S : Sy} {k : Nat} (h : ¬ (S.p.off || (S.at k).gone) = true) (hf : S.p.fails = true) : S.flush k = (13, S.count) := by unfold Sy.flush; rw [if_neg h, if_pos hf]
theorem flush_lies {S : Sy} {k : Nat} (h : ¬ (S.p.off || (S.at k).gone) = true) (hf : S.p.fails = false) (hl : (S.at k).lies = true) : S.flush k = (0, S.count) := by unfold Sy.flush; rw [if_neg h, if_neg (by rw [hf]; simp), if_pos hl]
theorem flush_yes {S : Sy} {k : Nat} (h : ¬ (S.p.off || (S.at k).gone) = true) (hf : S.p.fails = false) (hl : (S.at k).lies = false) : S.flush k = (0, S.count.put k ((S.at k).settle (S.at k).wt.length 0)) := by
  unfold Sy.flush; rw [if_neg h, if_neg (by rw [hf]; simp), if_neg (by rw [hl]; simp)]
  unfold Dv.settle; rw [settle_all (Nat.le_refl _)]
theorem count_at {S : Sy} {k : Nat} (hf : S.p.fails = false) : S.count.at k = S.at k := by unfold Sy.count; rw [hf, if_neg (by simp)]; rfl
set_option maxRecDepth 100000 in
set_option maxHeartbeats 6400000 in
theorem flush_any {w : World} {p : Nat} {gs : List Nat} {S : Sy} {F : Nat → Prop} (h : Sys w p gs S F) (k : Nat) (hk : k < S.ds.length) :
    Calls Try.prog 45 #[.pointer (some ⟨gs.getD k 0, 0, none⟩)] w (RetS (.int .i64 (S.flush k).1) p gs (S.flush k).2 F w) := by
  obtain ⟨bs, Fs, FA, fc, lf, h, hF, hlt⟩ := h
  have H0 := Lib.hid h
  obtain ⟨A, n, c, W, m, e, M, D, hd, hDF⟩ := h.dev k hk
  have HD := Lib.hid hd
  obtain ⟨d, hdd⟩ : ∃ d, d = S.at k := ⟨_, rfl⟩
  obtain ⟨g, hgg⟩ : ∃ g, g = gs.getD k 0 := ⟨_, rfl⟩
  rw [← hdd] at HD
  rw [← hgg] at HD
  rw [← hgg]
  have HDD := Lib.hid hdd
  have HGG := Lib.hid hgg
  have HFF := Lib.hid hF
  have HLT := Lib.hid hlt
  have HKD := Lib.hid hk
  have HPW := Lib.hid H0.out.pow.blk
  have HDB := Lib.hid HD.out.blk
  clear h hd hDF hdd hgg hF hlt hk
  by_cases hr : (S.p.off || d.gone) = true
  · have HW := Lib.hid (flush_down (S := S) (k := k) (by rw [← HDD.out]; exact hr))
    have HR := Lib.hid (show downN S.p.off d.gone = 13 by unfold downN; rw [if_pos hr])
    clear hr
    go_enter Try.func45, Try.ntmps45
    go_wp2_with (refine (runs_any S.p.off d.gone _ _ HPW.out HDB.out).mono ?_; rintro e' w' ⟨rfl, rfl⟩; rw [HR.out])
    go_ret
    refine ⟨by rw [HW.out]; rfl, F, ?_, fun q hq => .inl hq, But.refl _⟩
    rw [HW.out]
    exact ⟨bs, Fs, FA, fc, lf, H0.out, HFF.out, HLT.out⟩
  · have hon : S.p.off = false := by cases h1 : S.p.off <;> simp_all
    have HR := Lib.hid (show downN S.p.off d.gone = 0 by unfold downN; rw [if_neg hr])
    have HRR := Lib.hid (show ¬ (S.p.off || (S.at k).gone) = true by rw [← HDD.out]; exact hr)
    have HON := Lib.hid hon
    have cp := HDB.out.cell 0
    clear hr hon
    go_enter Try.func45, Try.ntmps45
    go_wp2_with (refine (runs_any S.p.off d.gone _ _ HPW.out HDB.out).mono ?_; rintro e' w' ⟨rfl, rfl⟩; rw [HR.out])
    refine (oper_any H0.out HON.out).mono ?_
    rintro e2 w2 ⟨rfl, Gs, lf', hs2, hg2, hb2⟩
    have HS2 := Lib.hid hs2
    have HG2 := Lib.hid hg2
    have HB2 := Lib.hid (show But F w w2 from hb2.mono (fun q hq => by
      rcases hq with h1 | ⟨i, hi, h1⟩
      · exact HFF.out q (.inl h1)
      · exact HFF.out q (.inr (.inr (.inr ⟨i, hi, h1⟩)))))
    obtain ⟨fb, hfb⟩ : ∃ fb, fb = S.p.fails := ⟨_, rfl⟩
    rw [← hfb]
    have HFB := Lib.hid hfb
    clear hs2 hg2 hb2 hfb cp
    cases fb
    · have hdv := HS2.out.dev k (by rw [count_length]; exact HKD.out)
      rw [← HGG.out, count_at HFB.out.symm, ← HDD.out] at hdv
      have HDV := Lib.hid hdv
      obtain ⟨A2, n2, c2, W2, m2, e2, M2, D2, hd2, _⟩ := hdv
      obtain ⟨lb, hlb⟩ : ∃ lb, lb = d.lies := ⟨_, rfl⟩
      have cl : w2.cell? ⟨g, 6, none⟩ = some (.bool lb) := by rw [hlb]; exact hd2.blk.cell 6
      have HLB := Lib.hid hlb
      cases lb
      · have cw : w2.cell? ⟨g, 2, none⟩ = some (.slice W2 m2 e2) := hd2.blk.cell 2
        have HWN := Lib.hid hd2.wtn
        have HW := Lib.hid (flush_yes HRR.out HFB.out.symm (by rw [← HDD.out]; exact HLB.out.symm))
        clear hd2 hlb
        go_wp2_with fail
        refine (settle_at HDV.out (m2 : Int) 0 (by omega) (by omega) (by omega)).mono ?_
        rintro e3 w3 ⟨rfl, hd3, hb3⟩
        have hup := HS2.out.upd (k := k) (by rw [count_length]; exact HKD.out) hb3 (d := d.settle (m2 : Int).toNat 0) (by rw [← HGG.out]; exact hd3)
        have HUP := Lib.hid hup
        have HB3 := Lib.hid hb3
        clear hd3 hb3 hup cl cw
        go_wp2_with fail
        go_ret
        refine ⟨by rw [HW.out]; rfl, ?_⟩
        rw [HW.out, ← HDD.out, HWN.out]
        have hgk : ∀ q, Gs k q → F q ∨ w.heap.size ≤ q := fun q hq => by
          rcases HG2.out k q HKD.out hq with h1 | h1
          · exact .inl (HFF.out q (.inr (.inr (.inr ⟨k, HKD.out, h1⟩))))
          · exact .inr h1
        refine HUP.out.fin HFF.out HLT.out (by rw [len_put, count_length]) (fun i q hi hq => ?_) (but_step HB2.out HB3.out hgk)
        by_cases e : i = k
        · rw [if_pos e] at hq
          subst e
          rcases hq with hq | hq
          · exact HG2.out i q hi hq
          · exact .inr (Nat.le_trans HB2.out.size hq.1)
        · rw [if_neg e] at hq; exact HG2.out i q hi hq
      · have HW := Lib.hid (flush_lies HRR.out HFB.out.symm (by rw [← HDD.out]; exact HLB.out.symm))
        clear hd2 hlb
        go_wp2_with fail
        go_ret
        refine ⟨by rw [HW.out]; rfl, ?_⟩
        rw [HW.out]
        exact HS2.out.fin HFF.out HLT.out (count_length S) HG2.out HB2.out
    · have HW := Lib.hid (flush_fails HRR.out HFB.out.symm)
      go_wp2_with fail
      go_ret
      refine ⟨by rw [HW.out]; rfl, ?_⟩
      rw [HW.out]
      exact HS2.out.fin HFF.out HLT.out (count_length S) HG2.out HB2.out
end Go.Proofs.Ytfofkjcdohmkpaa.Kd
/-
  The contract of a device's Read.
-/
namespace Go.Proofs.Ytfofkjcdohmkpaa.Kd
open Go.RowKit Go.Maps
attribute [local go_sem ↓] Go.wp_at_zero Go.wp_at_succ
/-- What Read tells of a sector. -/
def readS (P : Pw) (d : Dv) (i : Int) : List UInt8 := if refuseN P d i = 0 then d.now i.toNat else zeroS
theorem readV_eq (P : Pw) (d : Dv) (i : Int) : readV P d i = .tuple #[.agg (bva (readS P d i)), .int .i64 (refuseN P d i)] := rfl
theorem readS_length {P : Pw} {d : Dv} (h : d.ok) (i : Int) : (readS P d i).length = 128 := by
  unfold readS; split
  · exact now_ok _ _ _ h.st (fun v hv => (h.wt v hv).2)
  · exact zeroS_length
set_option maxRecDepth 100000 in
set_option maxHeartbeats 6400000 in
theorem dread_any {w : World} {p : Nat} {gs : List Nat} {S : Sy} {F : Nat → Prop} (h : Sys w p gs S F) (k : Nat) (hk : k < S.ds.length) (i : Int) :
    Calls Try.prog 50 #[.pointer (some ⟨gs.getD k 0, 0, none⟩), .int .i64 i] w (RetB (readV S.p (S.at k) i) w) := by
  obtain ⟨bs, Fs, FA, fc, lf, h, _, _⟩ := h
  obtain ⟨A, n, c, W, m, e, M, D, hd, _⟩ := h.dev k hk
  obtain ⟨d, hdd⟩ : ∃ d, d = S.at k := ⟨_, rfl⟩
  obtain ⟨g, hgg⟩ : ∃ g, g = gs.getD k 0 := ⟨_, rfl⟩
  obtain ⟨P, hP⟩ : ∃ P, P = S.p := ⟨_, rfl⟩
  rw [← hdd, ← hgg] at hd
  rw [← hgg, ← hdd, ← hP]
  have hpb := h.pow.blk
  rw [← hP] at hpb
  obtain ⟨z, hz0⟩ : ∃ z : List UInt8, z = zeroS := ⟨_, rfl⟩
  have hz : ∀ W, (zeroValue 38).run Try.prog W = .ok (.agg (bva z)) W := fun _ => by rw [hz0]; kernel_rfl
  have HBZ := Lib.hid (show ∀ W, (Instr.build 38 #[]).run Try.prog W = .ok (.agg (bva z)) W from fun _ => by rw [hz0]; kernel_rfl)
  have hze : ∀ W, (zeroValue 3).run Try.prog W = .ok (.int .i64 0) W := fun _ => by kernel_rfl
  have HZE := Lib.hid hze
  have Z3 : Hid (z.length = 128) := by show _ = _; rw [hz0]; exact zeroS_length
  have HIZ : Hid ((Try.prog.info? 38).map (·.size) = some (bva z).size) := by show _ = _; rw [bva_size, Z3.out]; exact info_sec
  have Z0 := Lib.hid hz0
  have B0 := Lib.hid (show Below w.heap.size w (w.alloc (.cells (bva z) 38)) from (Below.refl _ w).alloc (Nat.le_refl _) _)
  have R0 := Lib.hid (show Blk (w.alloc (.cells (bva z) 38)) w.heap.size (bva z) 38 from heap_alloc_new _ _)
  have HD := Lib.hid (hd.below B0.out)
  have HDB := Lib.hid HD.out.blk
  have HPW := Lib.hid (hpb.below B0.out)
  have hrf : refuseN P d i = reachN P.off d.gone n i := reach_refuse hd.stn i
  clear h hd hdd hgg hP hpb hz0 hze
  by_cases hr : reachN P.off d.gone n i = 0
  · have h0 := refuse_zero (hrf.trans hr)
    obtain ⟨j, rfl⟩ := Int.eq_ofNat_of_zero_le h0.2.2.1
    have hjn : j < n := by have := HD.out.stn; omega
    have hjl : j < d.st.length := by have := HD.out.stn; omega
    have HR := Lib.hid hr
    have HRF := Lib.hid (show refuseN P d (j : Int) = 0 from hrf.trans hr)
    obtain ⟨y, hy⟩ : ∃ y, y = d.now j := ⟨_, rfl⟩
    have HYV := Lib.hid (show readV P d (j : Int) = .tuple #[.agg (bva y), .int .i64 0] by rw [readV_yes HRF.out, hy]; rfl)
    have Y3 : Hid (y.length = 128) := by show _ = _; rw [hy]; exact now_ok _ _ _ HD.out.ok.st (fun v hv => (HD.out.ok.wt v hv).2)
    have HIY : Hid ((Try.prog.info? 38).map (·.size) = some (bva y).size) := by show _ = _; rw [bva_size, Y3.out]; exact info_sec
    have HIYL : Hid ((Try.prog.info? 38).map (·.size) = some (bv y).length) := by show _ = _; rw [bv_length, Y3.out]; exact info_sec
    have j0 : (0 : Int) ≤ (j : Int) := by omega
    have j1 : (j : Int) < (n : Int) := by omega
    have jb : (j : Int) ≤ 4096 := by have := HD.out.ok.len; omega
    have HKI := Lib.hid (keyOf_int_mk (P := Try.prog) (k := 3) Try.underlying3 (wfI (z := (j : Int)) (by omega)))
    cases hl : lastL d.wt j with
    | none =>
      have HHS := Lib.hid (show Maps.has D (.int .i64 (j : Int)) = false by rw [HD.out.last.has j, hl]; rfl)
      obtain ⟨ad, hA, _, hce⟩ := rd_sec (Rd.ownN HD.out.st) HD.out.ok.st hjl
      have hys : y = d.st[j] := by rw [hy, Dv.now, last_none hl, List.getD_eq_getElem?_getD, List.getElem?_eq_getElem hjl]; rfl
      rw [← hys] at hce
      subst hA
      have CE := Lib.hid hce
      have c3 := HDB.out.cell 3
      have c1 := HDB.out.cell 1
      clear hl h0 hjn hjl hr hrf hy hys hce
      go_enter Try.func50, Try.ntmps50
      go_wp2_with (first
        | (refine (reaches_any P.off d.gone _ _ _ n c (j : Int) HPW.out HDB.out).mono ?_; rintro e' w' ⟨rfl, rfl⟩; rw [HR.out])
        | (at_lookup; refine wpList_lookup_own_ok_int _ rfl _ _ 95 rfl 3 3 .i64 lawI Try.underlying95 Try.underlying3 (HZE.out _) M m D rfl HD.out.map (.int .i64 (j : Int)) (.int .i64 (j : Int)) rfl HKI.out ?_; intro cv hat hwc; rw [HHS.out])
        | (refine wpList_load_at rfl 38 (.tmp 39) rfl (ad.add (j * 128)) rfl CE.out Try.underlying38 rfl HIYL.out ?_
           change wpList _ _ _ _ (Act.put _ _ (.agg (bva y))) _)
        | (refine wpList_store_row rfl 38 (.tmp 4) (.tmp 40) rfl w.heap.size (bva y) rfl rfl 38 (bva z) R0.out HIY.out (by rw [bva_size, bva_size, Y3.out, Z3.out]) (bva_one _) ?_))
      exact bodyPost_ret (v := .tuple #[.agg (bva y), .int .i64 0]) (results_ct8 Try.results50 _ _ w.heap.size 38 (bva y) _ rfl (setRow_heap _ _ _ _ _ _ R0.out) Try.underlying38 rfl HIY.out) rfl ⟨by rw [HYV.out], below_setRow B0.out (Nat.le_refl _) _⟩
    | some q =>
      have HHS := Lib.hid (show Maps.has D (.int .i64 (j : Int)) = true by rw [HD.out.last.has j, hl]; rfl)
      have HAT := Lib.hid (HD.out.last.at_ j q hl)
      obtain ⟨hq, hnq⟩ := last_some (st := d.st) hl
      obtain ⟨ad, hA, _, hx1, hce⟩ := rd_wait (Rd.ownN HD.out.wt) (fun v hv => (HD.out.ok.wt v hv).2) hq
      have hys : y = d.wt[q].2 := by rw [hy, Dv.now, hnq]
      rw [← hys] at hce
      subst hA
      have hcs : ∀ jj v, (bv y)[jj]? = some v → (w.alloc (.cells (bva z) 38)).cell? ((⟨(ad.add (q * 129)).block, (ad.add (q * 129)).off + 1, none⟩ : Addr).add jj) = some v := hce
      have CE := Lib.hid hcs
      have c3 := HDB.out.cell 3
      have c2 := HDB.out.cell 2
      have q0 : (0 : Int) ≤ (q : Int) := by omega
      have q1 : (q : Int) < (m : Int) := by have := HD.out.wtn; omega
      clear hl h0 hjn hjl hr hrf hy hys hce hcs hx1 hq hnq
      go_enter Try.func50, Try.ntmps50
      go_wp2_with (first
        | (refine (reaches_any P.off d.gone _ _ A n c (j : Int) HPW.out HDB.out).mono ?_; rintro e' w' ⟨rfl, rfl⟩; rw [HR.out])
        | (at_lookup; refine wpList_lookup_own_ok_int _ rfl _ _ 95 rfl 3 3 .i64 lawI Try.underlying95 Try.underlying3 (HZE.out _) M m D rfl HD.out.map (.int .i64 (j : Int)) (.int .i64 (j : Int)) rfl HKI.out ?_; intro cv hat hwc; rw [HHS.out]; have hcv : cv = (q : Int) := (by rw [HAT.out] at hat; injection hat with hat; injection hat with _ hat; exact hat.symm); subst hcv; clear hat hwc)
        | (refine wpList_load_at rfl 38 (.tmp 32) rfl (⟨(ad.add (q * 129)).block, (ad.add (q * 129)).off + 1, none⟩ : Addr) rfl CE.out Try.underlying38 rfl HIYL.out ?_
           change wpList _ _ _ _ (Act.put _ _ (.agg (bva y))) _)
        | (refine wpList_store_row rfl 38 (.tmp 4) (.tmp 33) rfl w.heap.size (bva y) rfl rfl 38 (bva z) R0.out HIY.out (by rw [bva_size, bva_size, Y3.out, Z3.out]) (bva_one _) ?_))
      exact bodyPost_ret (v := .tuple #[.agg (bva y), .int .i64 0]) (results_ct8 Try.results50 _ _ w.heap.size 38 (bva y) _ rfl (setRow_heap _ _ _ _ _ _ R0.out) Try.underlying38 rfl HIY.out) rfl ⟨by rw [HYV.out], below_setRow B0.out (Nat.le_refl _) _⟩
  · obtain ⟨x, hx⟩ : ∃ x, x = reachN P.off d.gone n i := ⟨_, rfl⟩
    have hx0 : (x == 0) = false := by rw [hx]; simpa using hr
    have HYV := Lib.hid (show readV P d i = .tuple #[.agg (bva z), .int .i64 x] by rw [readV_no (x := x) (hrf.trans hx.symm) (by rw [hx]; exact hr), Z0.out])
    have HXV := Lib.hid hx.symm
    clear hr hx hrf
    go_enter Try.func50, Try.ntmps50
    go_wp2_with (first
      | (refine (reaches_any P.off d.gone _ _ A n c i HPW.out HDB.out).mono ?_; rintro e' w' ⟨rfl, rfl⟩; rw [HXV.out])
      | (refine wpList_build rfl 38 #[] rfl (v := .agg (bva z)) ?hbld ?_; case hbld => exact HBZ.out _)
      | (refine wpList_store_row rfl 38 (.tmp 4) (.tmp 14) rfl w.heap.size (bva z) rfl rfl 38 (bva z) R0.out HIZ.out (by rfl) (bva_one _) ?_))
    exact bodyPost_ret (v := .tuple #[.agg (bva z), .int .i64 x]) (results_ct8 Try.results50 _ _ w.heap.size 38 (bva z) _ rfl (setRow_heap _ _ _ _ _ _ R0.out) Try.underlying38 rfl HIZ.out) rfl ⟨by rw [HYV.out], below_setRow B0.out (Nat.le_refl _) _⟩
end Go.Proofs.Ytfofkjcdohmkpaa.Kd
/-
  What is told to devices and to power, over all of a power's devices: Tear, Lie, Out, Fail, Restart; what they tell: On, Len, Waiting.
-/
namespace Go.Proofs.Ytfofkjcdohmkpaa.Kd
open Go.RowKit Go.Maps
attribute [local go_sem ↓] Go.wp_at_zero Go.wp_at_succ
def Dv.tear (d : Dv) (x y : Int) : Dv := { d with kept := keptN x, bytes := bytesN y }
def Dv.lie (d : Dv) (on : Bool) : Dv := { d with lies := on }
def Dv.out (d : Dv) (on : Bool) : Dv := { d with gone := on, wt := if on then [] else d.wt }
def Sy.fail (S : Sy) (x : Int) : Sy := ⟨⟨S.p.off, failN x⟩, S.ds⟩
def Sy.restart (S : Sy) : Sy := ⟨⟨false, -1⟩, S.ds⟩
section
variable {w w' : World} {p g : Nat} {gs : List Nat} {S : Sy} {F : Nat → Prop} {d d' : Dv} {A W : Option Addr} {n c m e M : Nat} {D : DataW Unit}
theorem DevR.tell (h : DevR w p g d A n c W m e M D) (hb : But (fun q => q = g) w w') (hst : d'.st = d.st) (hwt : d'.wt = d.wt) (hk : 0 ≤ d'.kept) (hby : 0 ≤ d'.bytes ∧ d'.bytes ≤ 128) (hid : d'.gone = true → d'.wt = [])
    (hblk : Blk w' g #[.pointer (some ⟨p, 0, none⟩), .slice A n c, .slice W m e, .map (some M), .int .i64 d'.kept, .int .i64 d'.bytes, .bool d'.lies, .bool d'.gone] 97) : DevR w' p g d' A n c W m e M D :=
  ⟨hblk, by rw [hst]; exact Own.but h.st hb (fun q hq => (h.apart.2.1 q hq).1), by rw [hwt]; exact Own.but h.wt hb (fun q hq => (h.apart.2.2.1 q hq).1), imap_but h.map hb (fun e => h.apart.1 e.symm), by rw [hwt]; exact h.last, by rw [hst]; exact h.stn, by rw [hwt]; exact h.wtn,
    ⟨by rw [hst]; exact h.ok.st, by rw [hst, hwt]; exact h.ok.wt, hk, hby, by rw [hst]; exact h.ok.len⟩, hid⟩
/-- One device's blocks stay its own. -/
theorem DevR.grown (h : DevR w' p g d A n c W m e M D) {W0 : Option Addr} {m0 e0 : Nat} (hF : ∀ q, DevF g A n c W0 m0 e0 M q → F q) (hW : ∀ q, (Value.slice W m e).ownBlock = some q → F q) : DevAt w' p g d (grow F w w') :=
  ⟨A, n, c, W, m, e, M, D, h, by
    rintro q (h1 | h1 | h1 | h1)
    · exact .inl (hF q (.inl h1))
    · exact .inl (hF q (.inr (.inl h1)))
    · exact .inl (hF q (.inr (.inr (.inl h1))))
    · exact .inl (hW q h1)⟩
theorem keptN_ok (x : Int) : 0 ≤ keptN x := by unfold keptN; omega
theorem bytesN_ok (x : Int) : 0 ≤ bytesN x ∧ bytesN x ≤ 128 := by unfold bytesN; omega
theorem tear_sys (h : Sys w p gs S F) (k : Nat) (hk : k < S.ds.length) (x y : Int) :
    Calls Try.prog 41 #[.pointer (some ⟨gs.getD k 0, 0, none⟩), .int .i64 x, .int .i64 y] w (RetS (.tuple #[]) p gs (S.put k ((S.at k).tear x y)) F w) := by
  obtain ⟨bs, Fs, FA, fc, lf, h, hF, hl⟩ := h
  obtain ⟨A, n, c, W, m, e, M, D, hd, hDF⟩ := h.dev k hk
  refine (tear_any (S.at k).kept (S.at k).bytes x y hd.blk).mono ?_
  rintro e2 w2 ⟨rfl, hb, hbt⟩
  have hd2 : DevR w2 p (gs.getD k 0) ((S.at k).tear x y) A n c W m e M D := hd.tell hbt rfl rfl (keptN_ok x) (bytesN_ok y) hd.idle hb
  exact ⟨rfl, h.ret hF hl hk (hbt.mono (fun q e => hDF q (.inl e))) (hd2.grown hDF (fun q hq => hDF q (.inr (.inr (.inr hq)))))⟩
theorem lie_sys (h : Sys w p gs S F) (k : Nat) (hk : k < S.ds.length) (on : Bool) :
    Calls Try.prog 51 #[.pointer (some ⟨gs.getD k 0, 0, none⟩), .bool on] w (RetS (.tuple #[]) p gs (S.put k ((S.at k).lie on)) F w) := by
  obtain ⟨bs, Fs, FA, fc, lf, h, hF, hl⟩ := h
  obtain ⟨A, n, c, W, m, e, M, D, hd, hDF⟩ := h.dev k hk
  refine (lie_any on hd.blk).mono ?_
  rintro e2 w2 ⟨rfl, hb, hbt⟩
  have hd2 : DevR w2 p (gs.getD k 0) ((S.at k).lie on) A n c W m e M D := hd.tell hbt rfl rfl hd.ok.kept hd.ok.bytes hd.idle hb
  exact ⟨rfl, h.ret hF hl hk (hbt.mono (fun q e => hDF q (.inl e))) (hd2.grown hDF (fun q hq => hDF q (.inr (.inr (.inr hq)))))⟩
theorem out_in {PV SV WV MV KV BV LV GV : Value} (hp : Blk w g #[PV, SV, WV, MV, KV, BV, LV, GV] 97) :
    Calls Try.prog 24 #[.pointer (some ⟨g, 0, none⟩), .bool false] w (fun e' w' => e' = .returned (.tuple #[]) ∧ But (fun k => k = g) w w' ∧ Blk w' g #[PV, SV, WV, MV, KV, BV, LV, .bool false] 97) := by
  have HP := Lib.hid hp
  have c7 : w.cell? ⟨g, 7, none⟩ = some GV := hp.cell 7
  have f7 := hp.free 7
  clear hp
  go_enter Try.func24, Try.ntmps24
  go_wp2_with fail
  exact bodyPost_end (results_none Try.results24 _ _ _) rfl ⟨rfl, but_one _, blk_setN8 HP.out 7 _⟩
theorem out_out {PV SV WV MV KV BV LV GV : Value} (hp : Blk w g #[PV, SV, WV, MV, KV, BV, LV, GV] 97) :
    Calls Try.prog 24 #[.pointer (some ⟨g, 0, none⟩), .bool true] w (fun e' w' => e' = .returned (.tuple #[]) ∧ But (fun k => k = g) w w' ∧
      Blk w' g #[PV, SV, .slice none 0 0, .map (some w.heap.size), KV, BV, LV, .bool true] 97 ∧ w'.ownsMap Try.prog 3 (intP Try.prog) w.heap.size 0 (.map [])) := by
  have HP := Lib.hid hp
  have c7 : w.cell? ⟨g, 7, none⟩ = some GV := hp.cell 7
  have f7 := hp.free 7
  have H2 := Lib.hid (show Blk (w.setCell ⟨g, 7, none⟩ (.bool true)) g #[PV, SV, WV, MV, KV, BV, LV, .bool true] 97 from blk_setN8 HP.out 7 _)
  have HZ := Lib.hid (show (w.setCell ⟨g, 7, none⟩ (.bool true)).heap.size = w.heap.size by simp)
  clear hp
  go_enter Try.func24, Try.ntmps24
  go_wp2_with fail
  refine (empty_any _ _ _ _ _ _ _ _ H2.out).mono ?_
  rintro e2 w2 ⟨rfl, hb2, hm2, ht2⟩
  rw [HZ.out] at hb2 hm2
  have E1 := Lib.hid hb2
  have E2 := Lib.hid hm2
  have E3 := Lib.hid ht2
  clear hb2 hm2 ht2 c7 f7
  go_wp2_with fail
  exact bodyPost_end (results_none Try.results24 _ _ _) rfl ⟨rfl, (but_one _).trans E3.out, E1.out, E2.out⟩
theorem out_nil (on : Bool) : Calls Try.prog 24 #[.pointer none, .bool on] w (Ret0 (.tuple #[]) w) := by
  go_enter Try.func24, Try.ntmps24
  go_wp2_with fail
  exact bodyPost_end (results_none Try.results24 _ _ _) rfl ⟨rfl, rfl⟩
theorem out_sys (h : Sys w p gs S F) (k : Nat) (hk : k < S.ds.length) (on : Bool) :
    Calls Try.prog 24 #[.pointer (some ⟨gs.getD k 0, 0, none⟩), .bool on] w (RetS (.tuple #[]) p gs (S.put k ((S.at k).out on)) F w) := by
  obtain ⟨bs, Fs, FA, fc, lf, h, hF, hl⟩ := h
  obtain ⟨A, n, c, W, m, e, M, D, hd, hDF⟩ := h.dev k hk
  cases on
  · refine (out_in hd.blk).mono ?_
    rintro e2 w2 ⟨rfl, hbt, hb⟩
    have hd2 : DevR w2 p (gs.getD k 0) ((S.at k).out false) A n c W m e M D := hd.tell hbt rfl rfl hd.ok.kept hd.ok.bytes (fun e => by cases e) hb
    exact ⟨rfl, h.ret hF hl hk (hbt.mono (fun q e => hDF q (.inl e))) (hd2.grown hDF (fun q hq => hDF q (.inr (.inr (.inr hq)))))⟩
  · refine (out_out hd.blk).mono ?_
    rintro e2 w2 ⟨rfl, hbt, hb, hm⟩
    have hd2 : DevR w2 p (gs.getD k 0) ((S.at k).out true) A n c none 0 0 w.heap.size (.map []) :=
      ⟨hb, Own.but hd.st hbt (fun q hq => (hd.apart.2.1 q hq).1), ⟨rfl, .inl ⟨rfl, rfl⟩⟩, hm, last_empty, hd.stn, rfl, ⟨hd.ok.st, fun x hx => absurd hx List.not_mem_nil, hd.ok.kept, hd.ok.bytes, hd.ok.len⟩, fun _ => rfl⟩
    refine ⟨rfl, h.ret hF hl hk (hbt.mono (fun q e => hDF q (.inl e))) ⟨A, n, c, none, 0, 0, w.heap.size, _, hd2, ?_⟩⟩
    rintro q (h1 | h1 | h1 | h1)
    · exact .inl (hDF q (.inl h1))
    · subst h1; exact .inr ⟨Nat.le_refl _, hm.lt⟩
    · exact .inl (hDF q (.inr (.inr (.inl h1))))
    · cases h1
theorem power_sys {bs : List Nat} {Fs : Nat → Nat → Prop} {FA : Option Addr} {fc : Nat} {lf lf' : Int} {P : Pw} (h : SysR w p gs bs S Fs FA fc lf) (hF : ∀ q, SysF p bs Fs FA fc S.ds.length q → F q) (hl : ∀ q, F q → q < w.heap.size) (hb : But (fun k => k = p) w w') (hp : Blk w' p #[.bool (!P.off), .int .i64 lf', .slice FA bs.length fc] 93) (h1 : P.off = false → lf' = P.left) (h2 : -1 ≤ lf' ∧ lf' ≤ 9223372036854775807) (h3 : -1 ≤ P.left) :
    ∃ F', Sys w' p gs ⟨P, S.ds⟩ F' ∧ (∀ q, F' q → F q ∨ w.heap.size ≤ q) ∧ But F w w' :=
  (h.power hb hp h1 h2 h3 h.row_ne).fin (N := S.ds.length) (Fs := Fs) hF hl rfl (fun _ _ _ hq => .inl hq) (hb.mono (fun q e => hF q (.inl e)))
theorem fail_sys (h : Sys w p gs S F) (x : Int) (hx : x ≤ 9223372036854775807) :
    Calls Try.prog 42 #[.pointer (some ⟨p, 0, none⟩), .int .i64 x] w (RetS (.tuple #[]) p gs (S.fail x) F w) := by
  obtain ⟨bs, Fs, FA, fc, lf, h, hF, hl⟩ := h
  refine (fail_any x _ _ _ h.pow.blk).mono ?_
  rintro e2 w2 ⟨rfl, hb, hbt⟩
  exact ⟨rfl, power_sys (P := ⟨S.p.off, failN x⟩) h hF hl hbt hb (fun _ => rfl) (by unfold failN; omega) (by show -1 ≤ failN x; unfold failN; omega)⟩
theorem restart_sys (h : Sys w p gs S F) : Calls Try.prog 52 #[.pointer (some ⟨p, 0, none⟩)] w (RetS (.tuple #[]) p gs S.restart F w) := by
  obtain ⟨bs, Fs, FA, fc, lf, h, hF, hl⟩ := h
  refine (restart_any _ _ _ h.pow.blk).mono ?_
  rintro e2 w2 ⟨rfl, hb, hbt⟩
  exact ⟨rfl, power_sys (P := ⟨false, -1⟩) h hF hl hbt hb (fun _ => rfl) (by omega) (by show -1 ≤ (-1 : Int); omega)⟩
theorem on_sys (h : Sys w p gs S F) : Calls Try.prog 18 #[.pointer (some ⟨p, 0, none⟩)] w (Ret0 (.bool (!S.p.off)) w) := by
  obtain ⟨bs, Fs, FA, fc, lf, h, hF, hl⟩ := h
  exact on_any _ _ _ h.pow.blk
theorem len_sys (h : Sys w p gs S F) (k : Nat) (hk : k < S.ds.length) : Calls Try.prog 19 #[.pointer (some ⟨gs.getD k 0, 0, none⟩)] w (Ret0 (.int .i64 ((S.at k).st.length : Int)) w) := by
  obtain ⟨bs, Fs, FA, fc, lf, h, hF, hl⟩ := h
  obtain ⟨A, n, c, W, m, e, M, D, hd, hDF⟩ := h.dev k hk
  rw [hd.stn]
  exact len_any A n c hd.blk
theorem waiting_sys (h : Sys w p gs S F) (k : Nat) (hk : k < S.ds.length) : Calls Try.prog 20 #[.pointer (some ⟨gs.getD k 0, 0, none⟩)] w (Ret0 (.int .i64 ((S.at k).wt.length : Int)) w) := by
  obtain ⟨bs, Fs, FA, fc, lf, h, hF, hl⟩ := h
  obtain ⟨A, n, c, W, m, e, M, D, hd, hDF⟩ := h.dev k hk
  rw [hd.wtn]
  exact waiting_any W m e hd.blk
theorem Sys.ok (h : Sys w p gs S F) {k : Nat} (hk : k < S.ds.length) : (S.at k).ok := by
  obtain ⟨bs, Fs, FA, fc, lf, h, hF, hl⟩ := h
  obtain ⟨A, n, c, W, m, e, M, D, hd, hDF⟩ := h.dev k hk
  exact hd.ok
theorem Sys.idle (h : Sys w p gs S F) {k : Nat} (hk : k < S.ds.length) : (S.at k).gone = true → (S.at k).wt = [] := by
  obtain ⟨bs, Fs, FA, fc, lf, h, hF, hl⟩ := h
  obtain ⟨A, n, c, W, m, e, M, D, hd, hDF⟩ := h.dev k hk
  exact hd.idle
end
end Go.Proofs.Ytfofkjcdohmkpaa.Kd
/-
  The contract of a device's Rot.
-/
namespace Go.Proofs.Ytfofkjcdohmkpaa.Kd
open Go.RowKit Go.Maps
attribute [local go_sem ↓] Go.wp_at_zero Go.wp_at_succ
theorem bits_xor8 (x y : UInt8) : bits .xor .u8 (x.toNat : Int) (y.toNat : Int) = ((x ^^^ y).toNat : Int) := by
  rw [u8_xor_nat _ _ (UInt8.toNat_lt _) (UInt8.toNat_lt _), UInt8.toNat_xor]
/-- A byte of a sector is put together with a mask. -/
def rotS (s : List UInt8) (a : Nat) (x : UInt8) : List UInt8 := s.set a (s.getD a 0 ^^^ x)
def rotL (st : List (List UInt8)) (n a : Nat) (x : UInt8) : List (List UInt8) := st.set n (rotS (st.getD n zeroS) a x)
def Dv.rot (d : Dv) (n a : Nat) (x : UInt8) : Dv := { d with st := rotL d.st n a x }
theorem rotS_length {s : List UInt8} {a : Nat} {x : UInt8} : (rotS s a x).length = s.length := by rw [rotS, List.length_set]
theorem rotL_length {st : List (List UInt8)} {n a : Nat} {x : UInt8} : (rotL st n a x).length = st.length := by rw [rotL, List.length_set]
theorem rot_ok {d : Dv} (h : d.ok) (n a : Nat) (x : UInt8) : (d.rot n a x).ok := by
  refine ⟨set_ok h.st (by rw [rotS_length]; exact getD_ok h.st n) n, fun w hw => ?_, h.kept, h.bytes, ?_⟩
  · have := h.wt w hw
    refine ⟨?_, this.2⟩
    show w.1 < (rotL d.st n a x).length
    rw [rotL_length]; exact this.1
  · show (rotL d.st n a x).length ≤ 4096
    rw [rotL_length]; exact h.len
theorem svs_rot : ∀ {st : List (List UInt8)} {k a : Nat} {x : UInt8}, (∀ x ∈ st, x.length = 128) → k < st.length → a < 128 → svs (rotL st k a x) = splice (svs st) (k * 128 + a) [.int .u8 (((st.getD k zeroS).getD a 0 ^^^ x).toNat : Int)]
  | [], k, _, _, _, hk, _ => by simp at hk
  | s :: l, 0, a, x, h, _, ha => by
    have hs := h s (by simp)
    have e : bv (rotS s a x) = splice (bv s) a [.int .u8 ((s.getD a 0 ^^^ x).toNat : Int)] := by
      rw [rotS]
      unfold bv splice
      rw [List.map_set, List.set_eq_take_append_cons_drop, if_pos (by rw [List.length_map]; omega)]
      rfl
    show svs ((s :: l).set 0 (rotS s a x)) = _
    rw [List.set_cons_zero, svs, svs, e, Nat.zero_mul, Nat.zero_add, splice_left _ _ _ _ (by rw [bv_length]; simp; omega)]
    rfl
  | s :: l, k + 1, a, x, h, hk, ha => by
    have hs := h s (by simp)
    show svs ((s :: l).set (k + 1) (rotS ((s :: l).getD (k + 1) zeroS) a x)) = _
    rw [List.set_cons_succ, svs, svs, List.getD_cons_succ, show (k + 1) * 128 + a = (bv s).length + (k * 128 + a) by rw [bv_length]; omega, splice_right]
    have h1 := svs_rot (st := l) (k := k) (a := a) (x := x) (fun y hy => h y (by simp [hy])) (by simpa using hk) ha
    rw [show l.set k (rotS (l.getD k zeroS) a x) = rotL l k a x from rfl, h1]
set_option maxRecDepth 100000 in
set_option maxHeartbeats 6400000 in
theorem rot_yes {w : World} {p g : Nat} {d : Dv} {A : Option Addr} {n c : Nat} {W : Option Addr} {m e M : Nat} {D : DataW Unit} (h : DevR w p g d A n c W m e M D) (i a : Nat) (hi : i < n) (ha : a < 128) (x : UInt8) :
    Calls Try.prog 35 #[.pointer (some ⟨g, 0, none⟩), .int .i64 (i : Int), .int .i64 (a : Int), .int .u8 (x.toNat : Int)] w (fun e' w' => e' = .returned (.bool true) ∧ DevR w' p g (d.rot i a x) A n c W m e M D ∧ But (fun q => (Value.slice A n c).ownBlock = some q) w w') := by
  have H := Lib.hid h
  have HDB := Lib.hid h.blk
  have hil : i < d.st.length := by rw [h.stn]; exact hi
  obtain ⟨G, hA⟩ : ∃ G, A = some ⟨G, 0, none⟩ := by
    rcases own_addr8 h.st with ⟨_, h2, _⟩ | h1
    · omega
    · exact h1
  subst hA
  obtain ⟨ad, hA, _, hce⟩ := rd_sec (Rd.ownN h.st) h.ok.st hil
  injection hA with hA
  subst hA
  obtain ⟨y, hy⟩ : ∃ y, y = (d.st.getD i zeroS).getD a 0 := ⟨_, rfl⟩
  have hy3 : (d.st[i]).length = 128 := h.ok.st _ (List.getElem_mem hil)
  have hyc : w.cell? ⟨G, i * 128 + a, none⟩ = some (.int .u8 (y.toNat : Int)) := by
    have h1 := hce a (.int .u8 (y.toNat : Int)) (by
      have e1 : y = d.st[i][a]'(by omega) := by
        have e2 : d.st.getD i zeroS = d.st[i] := by rw [List.getD_eq_getElem?_getD, List.getElem?_eq_getElem hil]; rfl
        rw [hy, e2, List.getD_eq_getElem?_getD, List.getElem?_eq_getElem (by omega)]; rfl
      rw [bv_get (by omega), ← e1])
    rw [add_twice8, Addr.add_mid, Nat.zero_add] at h1
    exact h1
  have HOM := Lib.hid (own_setMid (o := i * 128 + a) (vs := [.int .u8 ((y ^^^ x).toNat : Int)]) h.st (by simp; omega))
  have HX := Lib.hid (bits_xor8 y x)
  have hf : w.frozen? ⟨G, i * 128 + a, none⟩ = false := by
    obtain ⟨Z, hZ, _⟩ := own_cur h.st
    exact hZ.free _
  have i0 : (0 : Int) ≤ (i : Int) := by omega
  have i1 : (i : Int) < (n : Int) := by omega
  have a0 : (0 : Int) ≤ (a : Int) := by omega
  have a1 : (a : Int) < 128 := by omega
  have da : decide ((a : Int) < 0) = false := decide_eq_false (by omega)
  have db : decide ((a : Int) ≥ 128) = false := decide_eq_false (by omega)
  have HH := Lib.hid (show (decide (0 ≤ (i : Int)) && decide ((i : Int) < (n : Int))) = true by rw [decide_eq_true i0, decide_eq_true i1]; rfl)
  have c1 := HDB.out.cell 1
  have HS := Lib.hid (svs_rot (x := x) h.ok.st hil ha)
  have HY := Lib.hid hy
  clear h hil hce hy hy3
  go_enter Try.func35, Try.ntmps35
  go_wp2_with (refine (has_any _ n c (i : Int) HDB.out).mono ?_; rintro e' w' ⟨rfl, rfl⟩; rw [HH.out])
  go_still_tail 13, (by kernel_rfl)
  go_wp2_with fail
  go_ret
  refine ⟨rfl, ?_⟩
  rw [HX.out]
  generalize hwx : World.drew _ = wx
  have hbt : But (fun q => (Value.slice (some ⟨G, 0, none⟩) n c).ownBlock = some q) w wx := by rw [← hwx]; exact (But.setCell (S := fun q => (Value.slice (some ⟨G, 0, none⟩) n c).ownBlock = some q) (But.refl w) (.inl rfl) _).drew
  refine ⟨⟨H.out.blk.but hbt (fun hq => (H.out.apart.2.1 g hq).1 rfl), ?_, Own.but H.out.wt hbt (fun q hq hq' => H.out.apart.2.2.2 q hq' hq), imap_but H.out.map hbt (fun hq => (H.out.apart.2.1 M hq).2 rfl), H.out.last, ?_, H.out.wtn, rot_ok H.out.ok i a x, H.out.idle⟩, hbt⟩
  · show wx.ownsRow 0 38 128 _ n (svs (rotL d.st i a x))
    rw [HS.out, ← HY.out, ← hwx]
    exact HOM.out.1
  · show (rotL d.st i a x).length = n
    rw [rotL_length]; exact H.out.stn
/-- There is such a byte. -/
def hasByte (n : Nat) (i a : Int) : Bool := decide (0 ≤ i) && decide (i < (n : Int)) && decide (0 ≤ a) && decide (a < 128)
set_option maxRecDepth 100000 in
set_option maxHeartbeats 1600000 in
theorem rot_no {w : World} {g : Nat} {PV WV MV KV BV LV GV : Value} (A : Option Addr) (n c : Nat) (i a : Int) (x : UInt8) (hp : Blk w g #[PV, .slice A n c, WV, MV, KV, BV, LV, GV] 97) (h : hasByte n i a = false) :
    Calls Try.prog 35 #[.pointer (some ⟨g, 0, none⟩), .int .i64 i, .int .i64 a, .int .u8 (x.toNat : Int)] w (Ret0 (.bool false) w) := by
  have HP := Lib.hid hp
  clear hp
  by_cases hi : 0 ≤ i ∧ i < (n : Int)
  · have HH := Lib.hid (show (decide (0 ≤ i) && decide (i < (n : Int))) = true by rw [decide_eq_true hi.1, decide_eq_true hi.2]; rfl)
    by_cases ha : a < 0
    · have da : decide (a < 0) = true := decide_eq_true ha
      clear hi ha h
      go_enter Try.func35, Try.ntmps35
      go_wp2_with (refine (has_any A n c i HP.out).mono ?_; rintro e' w' ⟨rfl, rfl⟩; rw [HH.out])
      go_ret
      exact ⟨rfl, rfl⟩
    · have hb : ¬ a < 128 := fun h1 => by
        unfold hasByte at h
        rw [decide_eq_true hi.1, decide_eq_true hi.2, decide_eq_true (show 0 ≤ a by omega), decide_eq_true h1] at h
        cases h
      have da : decide (a < 0) = false := decide_eq_false ha
      have db : decide (a ≥ 128) = true := decide_eq_true (by omega)
      clear hi ha h hb
      go_enter Try.func35, Try.ntmps35
      go_wp2_with (refine (has_any A n c i HP.out).mono ?_; rintro e' w' ⟨rfl, rfl⟩; rw [HH.out])
      go_ret
      exact ⟨rfl, rfl⟩
  · have HH := Lib.hid (show (decide (0 ≤ i) && decide (i < (n : Int))) = false by
      rw [Bool.and_eq_false_iff, decide_eq_false_iff_not, decide_eq_false_iff_not]; omega)
    clear hi h
    go_enter Try.func35, Try.ntmps35
    go_wp2_with (refine (has_any A n c i HP.out).mono ?_; rintro e' w' ⟨rfl, rfl⟩; rw [HH.out])
    go_ret
    exact ⟨rfl, rfl⟩
theorem rot_nil {w : World} (i a : Int) (x : UInt8) : Calls Try.prog 35 #[.pointer none, .int .i64 i, .int .i64 a, .int .u8 (x.toNat : Int)] w (Ret0 (.bool false) w) := by
  go_enter Try.func35, Try.ntmps35
  go_wp2_with (refine (has_nil i).mono ?_; rintro e' w' ⟨rfl, rfl⟩)
  go_ret
  exact ⟨rfl, rfl⟩
/-- Behind Rot. -/
def Sy.rot (S : Sy) (k : Nat) (i a : Int) (x : UInt8) : Sy := if hasByte (S.at k).st.length i a then S.put k ((S.at k).rot i.toNat a.toNat x) else S
theorem rot_sys {w : World} {p : Nat} {gs : List Nat} {S : Sy} {F : Nat → Prop} (h : Sys w p gs S F) (k : Nat) (hk : k < S.ds.length) (i a : Int) (x : UInt8) :
    Calls Try.prog 35 #[.pointer (some ⟨gs.getD k 0, 0, none⟩), .int .i64 i, .int .i64 a, .int .u8 (x.toNat : Int)] w (RetS (.bool (hasByte (S.at k).st.length i a)) p gs (S.rot k i a x) F w) := by
  have h' := h
  obtain ⟨bs, Fs, FA, fc, lf, h, hF, hl⟩ := h
  obtain ⟨A, n, c, W, m, e, M, D, hd, hDF⟩ := h.dev k hk
  unfold Sy.rot
  rw [hd.stn]
  cases hb : hasByte n i a
  · refine (rot_no A n c i a x hd.blk hb).mono ?_
    rintro e2 w2 ⟨rfl, rfl⟩
    exact ⟨rfl, F, h', fun q hq => .inl hq, But.refl _⟩
  · have hb' := hb
    unfold hasByte at hb'
    simp only [Bool.and_eq_true, decide_eq_true_eq] at hb'
    obtain ⟨i, rfl⟩ := Int.eq_ofNat_of_zero_le (show 0 ≤ i by omega)
    obtain ⟨a, rfl⟩ := Int.eq_ofNat_of_zero_le (show 0 ≤ a by omega)
    refine (rot_yes hd i a (by omega) (by omega) x).mono ?_
    rintro e2 w2 ⟨rfl, hd2, hbt⟩
    exact ⟨rfl, h.ret hF hl hk (hbt.mono (fun q e => hDF q (.inr (.inr (.inl e))))) (hd2.grown hDF (fun q hq => hDF q (.inr (.inr (.inr hq)))))⟩
end Go.Proofs.Ytfofkjcdohmkpaa.Kd
/-
  The contracts of slices.Clone over sectors, and of a device's Dump.
-/
namespace Go.Proofs.Ytfofkjcdohmkpaa.Kd
open Go.RowKit Go.Maps
attribute [local go_sem ↓] Go.wp_at_zero Go.wp_at_succ
theorem info_secW : (Try.prog.info? 38).map (fun i => (i.zero, i.size, i.bytes)) = some (some (.agg (bva zeroS)), 128, 128) := by kernel_rfl
theorem secsElt : EltN Try.prog 43 38 (.agg (bva zeroS)) 128 128 := ⟨Try.underlying43, info_secW, by show (bva zeroS).size = 128; rw [bva_size, zeroS_length], by omega, by omega⟩
theorem svs_one : ∀ (l : List (List UInt8)), ∀ u ∈ svs l, u.oneCell' = true
  | [], u, h => by cases h
  | x :: l, u, h => by
    rw [svs, List.mem_append] at h
    rcases h with h | h
    · exact bv_one x u h
    · exact svs_one l u h
set_option maxRecDepth 100000 in
set_option maxHeartbeats 800000 in
theorem secClone_any {B : Nat} (A : Option Addr) (n c : Nat) (l : List (List UInt8)) (w : World) (hl : l.length = n) (h3 : ∀ x ∈ l, x.length = 128) (hB : B ≤ w.heap.size) (hr : Rd B w A (svs l)) (hn : n ≤ 1000000) :
    Calls Try.prog 59 #[.slice A n c] w (RetRowN 38 128 (svs l) w) := by
  have hlen : (svs l).length = n * 128 := by rw [svs_length h3, hl]
  rcases A with _ | ad
  · have h0 : n = 0 := by
      rcases Nat.eq_zero_or_pos n with h | h
      · exact h
      · obtain ⟨u, hu⟩ : ∃ u, (svs l)[0]? = some u := ⟨(svs l)[0]'(by omega), List.getElem?_eq_getElem (by omega)⟩
        obtain ⟨_, h, _⟩ := hr 0 u hu
        cases h
    subst h0
    have hnil := fun W => Lib.run_eql_slice_nil (P := Try.prog) W 43 38 none 0 c 0 0 Try.underlying43
    simp only [Option.isNone_none] at hnil
    obtain rfl : l = [] := List.eq_nil_of_length_eq_zero hl
    clear hr hB hl h3 hlen hn
    go_enter Try.func59, Try.ntmps59
    go_wp2_with fail
    go_ret
    exact ⟨none, 0, 0, rfl, World.ownsRow_nil _ _ _ _, Below.refl _ _⟩
  · have hnil := fun W => Lib.run_eql_slice_nil (P := Try.prog) W 43 38 (some ad) n c 0 0 Try.underlying43
    simp only [Option.isNone_some] at hnil
    have HR := Lib.hid (hr.more hB)
    have HL := Lib.hid hlen
    clear hr hB hl h3 hlen
    go_enter Try.func59, Try.ntmps59
    go_wp2_with (at_builtin
                 refine wpList_appN _ rfl (.tmp 5) (.tmp 6) 43 rfl secsElt (base := w.heap.size) (v := .slice (some ⟨w.heap.size, 0, none⟩) 0 0) rfl (World.ownsRow_lit w #[] 0 (Nat.le_refl _) (Nat.zero_le _) rfl) (m := n) rfl (HR.out.below ((Below.refl _ _).alloc (Nat.le_refl _) _)) HL.out (svs_one _) ?_ ?_ ?_
                 · omega
                 · simp
                 intro A3 c3 w3 ho3 hg3 _
                 have hb3 : Below w.heap.size w w3 := app_belowN ((Below.refl _ _).alloc (Nat.le_refl _) _) (World.ownsRow_lit (size := 128) w #[] 0 (Nat.le_refl _) (Nat.zero_le _) rfl) hg3 (Nat.le_refl _) (by simp)
                 have O3 := Lib.hid ho3
                 have B3 := Lib.hid hb3
                 clear ho3 hg3 hb3)
    go_ret
    have h := O3.out
    rw [List.nil_append, Nat.zero_add] at h
    exact ⟨A3, n, c3, rfl, h, B3.out⟩
theorem dump_any {w : World} {g : Nat} {PV WV MV KV BV LV GV : Value} (A : Option Addr) (n c : Nat) (l : List (List UInt8)) (hp : Blk w g #[PV, .slice A n c, WV, MV, KV, BV, LV, GV] 97) (hl : l.length = n) (h3 : ∀ x ∈ l, x.length = 128) (hr : Rd w.heap.size w A (svs l)) (hn : n ≤ 1000000) :
    Calls Try.prog 22 #[.pointer (some ⟨g, 0, none⟩)] w (RetRowN 38 128 (svs l) w) := by
  have c1 : w.cell? ⟨g, 1, none⟩ = some (.slice A n c) := hp.cell 1
  have HL := Lib.hid hl
  have H3 := Lib.hid h3
  have HR := Lib.hid hr
  clear hp hl h3 hr
  go_enter Try.func22, Try.ntmps22
  go_wp2_with fail
  refine (secClone_any A n c l _ HL.out H3.out (Nat.le_refl _) HR.out hn).mono ?_
  rintro e w2 ⟨A2, n2, c2, rfl, ho, bw⟩
  have HO := Lib.hid ho
  have HB := Lib.hid bw
  clear ho bw c1
  go_wp2_with fail
  go_ret
  exact ⟨A2, n2, c2, rfl, HO.out, HB.out⟩
theorem dump_nil {w : World} : Calls Try.prog 22 #[.pointer none] w (Ret0 (.slice none 0 0) w) := by
  go_enter Try.func22, Try.ntmps22
  go_wp2_with fail
  go_ret
  exact ⟨rfl, rfl⟩
theorem dump_sys {w : World} {p : Nat} {gs : List Nat} {S : Sy} {F : Nat → Prop} (h : Sys w p gs S F) (k : Nat) (hk : k < S.ds.length) :
    Calls Try.prog 22 #[.pointer (some ⟨gs.getD k 0, 0, none⟩)] w (RetRowN 38 128 (svs (S.at k).st) w) := by
  obtain ⟨bs, Fs, FA, fc, lf, h, hF, hl⟩ := h
  obtain ⟨A, n, c, W, m, e, M, D, hd, hDF⟩ := h.dev k hk
  exact dump_any A n c _ hd.blk hd.stn hd.ok.st (Rd.ownN hd.st) (by have := hd.ok.len; have := hd.stn; omega)
end Go.Proofs.Ytfofkjcdohmkpaa.Kd
/-
  The contract of the device's New.
-/
namespace Go.Proofs.Ytfofkjcdohmkpaa.Kd
open Go.RowKit Go.Maps
attribute [local go_sem ↓] Go.wp_at_zero Go.wp_at_succ
/-- So many sectors. -/
def clampN (x : Int) : Nat := (min (max x 0) 4096).toNat
def newDv (n : Nat) : Dv := ⟨List.replicate n zeroS, [], 0, 0, false, false⟩
def Sy.new (S : Sy) (x : Int) : Sy := ⟨S.p, S.ds ++ [newDv (clampN x)]⟩
def newCells (A : Option Addr) (n c p : Nat) (WV MV : Value) : Array Value := #[.pointer (some ⟨p, 0, none⟩), .slice A n c, WV, MV, .int .i64 0, .int .i64 0, .bool false, .bool false]
theorem bv_zero8 (k : Nat) : bv (List.replicate k 0) = List.replicate k (.int .u8 0) := by
  simp [bv]
theorem svs_zero : ∀ (n : Nat), svs (List.replicate n zeroS) = List.replicate (n * 128) (.int .u8 0)
  | 0 => rfl
  | n + 1 => by
    rw [List.replicate_succ, svs, svs_zero n, zeroS, bv_zero8, List.replicate_append_replicate]
    congr 1; omega
theorem made_svs (n : Nat) : (madeCells (bva zeroS) (n * 128)).toList = svs (List.replicate n zeroS) := by
  rw [svs_zero]
  refine List.eq_replicate_iff.2 ⟨by rw [Array.length_toList, size_madeCells], fun v hv => ?_⟩
  rw [Array.mem_toList_iff] at hv
  unfold madeCells at hv
  rw [Array.mem_map] at hv
  obtain ⟨i, _, rfl⟩ := hv
  have hz : bva zeroS = Array.replicate 128 (.int .u8 0) := by rw [bva, zeroS, bv_zero8]; exact List.toArray_replicate ..
  have hs : (bva zeroS).size = 128 := by rw [hz]; simp
  rw [getElem!_pos (bva zeroS) _ (by rw [hs]; exact Nat.mod_lt _ (by omega))]
  simp only [hz, Array.getElem_replicate]
theorem below_of_grown8 {w w' : World} (hg : w.grownBy w' none) : Below w.heap.size w w' := ⟨hg.os, hg.tape, hg.output, hg.size, fun k hk => hg.block k hk (by simp)⟩
/-- It returns a new device, of which, and of the others, the power's devices are S. -/
def RetNew (p : Nat) (gs : List Nat) (S : Sy) (F : Nat → Prop) (w : World) (e : Ending) (w' : World) : Prop :=
  ∃ g, e = .returned (.pointer (some ⟨g, 0, none⟩)) ∧ ∃ F', Sys w' p (gs ++ [g]) S F' ∧ (∀ q, F' q → F q ∨ w.heap.size ≤ q) ∧ But F w w'
theorem info_func : (Try.prog.info? 1).map (fun i => (i.zero, i.size, i.bytes)) = some (some .nilFunc, 1, 8) := by kernel_rfl
theorem funcsElt : EltN Try.prog 91 1 .nilFunc 1 8 := ⟨Try.underlying91, info_func, rfl, by omega, by omega⟩
theorem getD_left8 {α : Type} {l : List α} {x z : α} {i : Nat} (h : i < l.length) : (l ++ [x]).getD i z = l.getD i z := by
  rw [List.getD_eq_getElem?_getD, List.getD_eq_getElem?_getD, List.getElem?_append_left h]
theorem getD_last8 {α : Type} {l : List α} {x z : α} : (l ++ [x]).getD l.length z = x := by
  rw [List.getD_eq_getElem?_getD, List.getElem?_append_right (Nat.le_refl _)]; simp
/-- A device more. -/
theorem sys_grow {w w' : World} {p : Nat} {gs bs : List Nat} {S : Sy} {Fs : Nat → Nat → Prop} {F G : Nat → Prop} {FA FA' : Option Addr} {fc fc' g b : Nat} {lf : Int} {d : Dv} (h : SysR w p gs bs S Fs FA fc lf) (hF : ∀ q, SysF p bs Fs FA fc S.ds.length q → F q) (hl : ∀ q, F q → q < w.heap.size)
    (hT : But (fun q => q = p ∨ (Value.slice FA bs.length fc).ownBlock = some q) w w') (hP : PowR w' p S.p (bs ++ [b]) FA' fc' lf) (hd : DevAt w' p g d G)
    (hG : ∀ q, G q → w.heap.size ≤ q ∧ q < w'.heap.size ∧ q ≠ b ∧ ∀ k, (Value.slice FA' (bs ++ [b]).length fc').ownBlock = some k → q ≠ k) (hb : Blk w' b #[.pointer (some ⟨g, 0, none⟩)] 30) (hbn : w.heap.size ≤ b)
    (hr : ∀ q, (Value.slice FA' (bs ++ [b]).length fc').ownBlock = some q → (Value.slice FA bs.length fc).ownBlock = some q ∨ w.heap.size ≤ q) :
    ∃ F', Sys w' p (gs ++ [g]) ⟨S.p, S.ds ++ [d]⟩ F' ∧ (∀ q, F' q → F q ∨ w.heap.size ≤ q) ∧ But F w w' := by
  have hN : (S.ds ++ [d]).length = S.ds.length + 1 := by simp
  have hpl := h.pow.blk.lt
  have hbl : ∀ j, j < S.ds.length → bs.getD j 0 < w.heap.size := fun j hj => (h.box j hj).lt
  have hgl : ∀ j, j < S.ds.length → (gs ++ [g]).getD j 0 = gs.getD j 0 := fun j hj => getD_left8 (by rw [h.gl]; exact hj)
  have hbl2 : ∀ j, j < S.ds.length → (bs ++ [b]).getD j 0 = bs.getD j 0 := fun j hj => getD_left8 (by rw [h.bl]; exact hj)
  have hgN : (gs ++ [g]).getD S.ds.length 0 = g := by rw [← h.gl]; exact getD_last8
  have hbN : (bs ++ [b]).getD S.ds.length 0 = b := by rw [← h.bl]; exact getD_last8
  have hat : ∀ j, j < S.ds.length → (Sy.mk S.p (S.ds ++ [d])).at j = S.at j := fun j hj => getD_left8 hj
  have hatN : (Sy.mk S.p (S.ds ++ [d])).at S.ds.length = d := getD_last8
  have hS : ∀ i, i < S.ds.length → ∀ q, Fs i q → ¬ (q = p ∨ (Value.slice FA bs.length fc).ownBlock = some q) := fun i hi q hq => by
    have := h.other i q hi hq
    rintro (e | e)
    · exact this.1 e
    · exact this.2.1 q e rfl
  have hbS : ∀ j, j < S.ds.length → ¬ (bs.getD j 0 = p ∨ (Value.slice FA bs.length fc).ownBlock = some (bs.getD j 0)) := fun j hj => by
    have hbj : w.heap[bs.getD j 0]? = some (.cells _ 30 (0, 0)) := h.box j hj
    rintro (e | e)
    · have hp : w.heap[p]? = some (.cells _ 93 (0, 0)) := h.pow.blk
      rw [e, hp] at hbj; injection hbj with hbj; injection hbj with _ hbj; exact absurd hbj (by decide)
    · rcases h.pow.row.2 with ⟨e1, _⟩ | ⟨g', cap, cur, e1, _, h2, _⟩
      · rw [e1] at e; cases e
      · rw [e1] at e; injection e with e; rw [← e, h2] at hbj; injection hbj with hbj; injection hbj with _ hbj; exact absurd hbj (by decide)
  refine ⟨grow F w w', ⟨bs ++ [b], fun i => if i < S.ds.length then Fs i else G, FA', fc', lf, ⟨hP, by simp [h.gl], by simp [h.bl], ?_, ?_, ?_, ?_, ?_⟩, ?_, ?_⟩, ?_, ?_⟩
  · intro i hi
    by_cases e : i < S.ds.length
    · show DevAt w' p ((gs ++ [g]).getD i 0) _ (if i < S.ds.length then Fs i else G)
      rw [if_pos e, hgl i e, hat i e]
      exact (h.dev i e).but hT (fun q h1 h2 => hS i e q h1 h2)
    · have : i = S.ds.length := by have : i < S.ds.length + 1 := by rw [← hN]; exact hi
                                   omega
      subst this
      show DevAt w' p ((gs ++ [g]).getD S.ds.length 0) _ (if S.ds.length < S.ds.length then _ else G)
      rw [if_neg e, hgN, hatN]
      exact hd
  · intro i hi
    by_cases e : i < S.ds.length
    · rw [hgl i e, hbl2 i e]
      exact (h.box i e).but hT (hbS i e)
    · have : i = S.ds.length := by have : i < S.ds.length + 1 := by rw [← hN]; exact hi
                                   omega
      subst this
      rw [hgN, hbN]
      exact hb
  · intro i j q hi hj hne h1 h2
    have hi' : i < S.ds.length + 1 := by rw [← hN]; exact hi
    have hj' : j < S.ds.length + 1 := by rw [← hN]; exact hj
    by_cases ei : i < S.ds.length
    · replace h1 : Fs i q := by have h := h1; simp only [if_pos ei] at h; exact h
      by_cases ej : j < S.ds.length
      · replace h2 : Fs j q := by have h := h2; simp only [if_pos ej] at h; exact h
        exact h.apart i j q ei ej hne h1 h2
      · replace h2 : G q := by have h := h2; simp only [if_neg ej] at h; exact h
        have := h.lt i q ei h1; have := (hG q h2).1; omega
    · replace h1 : G q := by have h := h1; simp only [if_neg ei] at h; exact h
      by_cases ej : j < S.ds.length
      · replace h2 : Fs j q := by have h := h2; simp only [if_pos ej] at h; exact h
        have := h.lt j q ej h2; have := (hG q h1).1; omega
      · omega
  · intro i q hi hq
    by_cases ei : i < S.ds.length
    · replace hq : Fs i q := by have h := hq; simp only [if_pos ei] at h; exact h
      exact Nat.lt_of_lt_of_le (h.lt i q ei hq) hT.size
    · replace hq : G q := by have h := hq; simp only [if_neg ei] at h; exact h
      exact (hG q hq).2.1
  · intro i q hi hq
    by_cases ei : i < S.ds.length
    · replace hq : Fs i q := by have h := hq; simp only [if_pos ei] at h; exact h
      have ho := h.other i q ei hq
      have hlt := h.lt i q ei hq
      refine ⟨ho.1, fun k hk => ?_, fun j hj => ?_⟩
      · rcases hr k hk with h1 | h1
        · exact ho.2.1 k h1
        · omega
      · have hj' : j < S.ds.length + 1 := by rw [← hN]; exact hj
        by_cases ej : j < S.ds.length
        · rw [hbl2 j ej]; exact ho.2.2 j ej
        · have : j = S.ds.length := by omega
          subst this
          rw [hbN]; omega
    · replace hq : G q := by have h := hq; simp only [if_neg ei] at h; exact h
      have hg := hG q hq
      refine ⟨by omega, hg.2.2.2, fun j hj => ?_⟩
      have hj' : j < S.ds.length + 1 := by rw [← hN]; exact hj
      by_cases ej : j < S.ds.length
      · rw [hbl2 j ej]; have := hbl j ej; omega
      · have : j = S.ds.length := by omega
        subst this
        rw [hbN]; exact hg.2.2.1
  · rintro q (hq | hq | ⟨j, hj, hq⟩ | ⟨i, hi, hq⟩)
    · exact .inl (hF q (.inl hq))
    · rcases hr q hq with h1 | h1
      · exact .inl (hF q (.inr (.inl h1)))
      · exact .inr ⟨h1, (hP.row.lt q hq).2⟩
    · have hj' : j < S.ds.length + 1 := by rw [← hN]; exact hj
      by_cases ej : j < S.ds.length
      · rw [hbl2 j ej] at hq; exact .inl (hF q (.inr (.inr (.inl ⟨j, ej, hq⟩))))
      · have : j = S.ds.length := by omega
        subst this
        rw [hbN] at hq; subst hq; exact .inr ⟨hbn, hb.lt⟩
    · by_cases ei : i < S.ds.length
      · replace hq : Fs i q := by have h := hq; simp only [if_pos ei] at h; exact h
        exact .inl (hF q (.inr (.inr (.inr ⟨i, ei, hq⟩))))
      · replace hq : G q := by have h := hq; simp only [if_neg ei] at h; exact h
        exact .inr ⟨(hG q hq).1, (hG q hq).2.1⟩
  · rintro q (hq | hq)
    · exact Nat.lt_of_lt_of_le (hl q hq) hT.size
    · exact hq.2
  · rintro q (hq | hq)
    · exact .inl hq
    · exact .inr hq.1
  · refine hT.mono (fun q hq => ?_)
    rcases hq with hq | hq
    · exact hF q (.inl hq)
    · exact hF q (.inr (.inl hq))
set_option maxRecDepth 100000 in
set_option maxHeartbeats 3200000 in
theorem new_some {w : World} {p : Nat} {gs : List Nat} {S : Sy} {F : Nat → Prop} (h : Sys w p gs S F) (hds : S.ds.length < 1000) (x : Int) :
    Calls Try.prog 14 #[.int .i64 x, .pointer (some ⟨p, 0, none⟩)] w (RetNew p gs (S.new x) F w) := by
  obtain ⟨bs, Fs, FA, fc, lf, h, hF, hl⟩ := h
  have H := Lib.hid h
  obtain ⟨n, hn⟩ : ∃ n, n = clampN x := ⟨_, rfl⟩
  have HMM := Lib.hid (show n = (min (max x 0) 4096).toNat from hn)
  have hnb : n ≤ 4096 := by rw [hn]; unfold clampN; omega
  obtain ⟨i0, hi, hz0, hz1, hz2⟩ := info_parts info_secW
  have HN := Lib.hid hn
  have HBD := Lib.hid (show ∀ (A : Option Addr) (W : World), (Instr.build 97 #[(0, .pointer (some ⟨p, 0, none⟩)), (1, .slice A n n)]).run Try.prog W = .ok (.agg (newCells A n n p (.slice none 0 0) (.map none))) W from fun A W => by kernel_rfl)
  have HBN := Lib.hid (show bs.length < 1000 by rw [h.bl]; exact hds)
  clear h hn hds
  go_enter Try.func14, Try.ntmps14
  go_upto_region 3 with fail
  go_cut [0] (fun s0 wx => s0 = .int .i64 (n : Int) ∧ wx = w)
  case first =>
    go_wp2_with fail
    all_goals (go_meet; exact ⟨congrArg (Value.int .i64) (by have := HMM.out; omega), rfl⟩)
  case rest =>
    obtain ⟨rfl, rfl⟩ := hcut
    go_wp2_with (first
      | (at_make; refine wpList_make_full _ rfl _ _ _ rfl 0 38 i0 _ 128 Try.underlying43 hi hz0 hz1 .i64 .i64 _ _ n rfl rfl rfl rfl ?_ ?_ ?_ ?_; (rw [hz2]; omega); (unfold maxLen; omega); (exact Nat.zero_le _); intro w1 hown hg
         have HO1 := Lib.hid hown
         have HG1 := Lib.hid (below_of_grown8 hg)
         clear hown hg)
      | (refine wpList_build rfl 97 #[(0, .tmp 12), (1, .tmp 14)] rfl (v := .agg (newCells (some ⟨wc.heap.size, 0, none⟩) n n p (.slice none 0 0) (.map none))) ?hbld ?_; case hbld => (simp only [List.map_toArray, List.map_cons, List.map_nil]; exact HBD.out _ _)))
    obtain ⟨w3, hw3⟩ : ∃ w3, w3 = (w1.alloc (.cells (newCells (some ⟨wc.heap.size, 0, none⟩) n n p (.slice none 0 0) (.map none)) 97)).alloc (.cells #[.pointer (some ⟨w1.heap.size, 0, none⟩)] 30) := ⟨_, rfl⟩
    have e3 : Blk w3 w1.heap.size (newCells (some ⟨wc.heap.size, 0, none⟩) n n p (.slice none 0 0) (.map none)) 97 := by rw [hw3]; exact (heap_alloc_old _ _ (by simp)).trans (heap_alloc_new _ _)
    have e4 : Blk w3 (w1.heap.size + 1) #[.pointer (some ⟨w1.heap.size, 0, none⟩)] 30 := by
      rw [hw3]
      have h := heap_alloc_new (w1.alloc (.cells (newCells (some ⟨wc.heap.size, 0, none⟩) n n p (.slice none 0 0) (.map none)) 97)) (.cells #[.pointer (some ⟨w1.heap.size, 0, none⟩)] 30)
      rwa [World.size_alloc] at h
    have e5 : Below w1.heap.size w1 w3 := by rw [hw3]; exact ((Below.refl _ _).alloc (Nat.le_refl _) _).alloc (by simp) _
    have e6 : w3.heap.size = w1.heap.size + 2 := by rw [hw3]; simp
    have E3 := Lib.hid e3
    have E4 := Lib.hid e4
    have E5 := Lib.hid e5
    have E6 := Lib.hid e6
    rw [← hw3]
    clear hw3 e3 e4 e5 e6
    unfold newCells at E3
    refine (empty_any _ _ _ _ _ _ _ _ E3.out).mono ?_
    rintro e2 w4 ⟨rfl, hb2, hm2, ht2⟩
    have G4 := Lib.hid hb2
    have M4 := Lib.hid hm2
    have T4 := Lib.hid ht2
    have P4 := Lib.hid ((H.out.pow.below HG1.out |>.below E5.out).but T4.out (fun e => by have h1 := H.out.pow.blk.lt; have h2 := HG1.out.size; omega) (fun k hk e => by have h1 := (H.out.pow.row.lt k hk).2; have h2 := HG1.out.size; omega))
    have B4 := Lib.hid (E4.out.but T4.out (by omega))
    have cf := P4.out.blk.cell 2
    have cb := B4.out.cell 0
    have P5 := Lib.hid (P4.out.below (show Below w4.heap.size w4 (w4.alloc (.cells #[cloV (w1.heap.size + 1)] 1)) from (Below.refl _ _).alloc (Nat.le_refl _) _))
    have R5 := Lib.hid (show Rd (w4.alloc (.cells #[cloV (w1.heap.size + 1)] 1)).heap.size (w4.alloc (.cells #[cloV (w1.heap.size + 1)] 1)) (some ⟨w4.heap.size, 0, none⟩) [cloV (w1.heap.size + 1)] from by
      have hb5 : Blk (w4.alloc (.cells #[cloV (w1.heap.size + 1)] 1)) w4.heap.size #[cloV (w1.heap.size + 1)] 1 := heap_alloc_new _ _
      intro q v hv
      exact ⟨_, rfl, hb5.lt, by rw [Addr.add_mid, hb5.cell, Nat.zero_add]; simpa using hv⟩)
    clear hb2 hm2 ht2
    go_wp2_with (at_builtin; apply Classical.byContradiction; intro hneg)
    refine hneg ?_; clear hneg
    refine wpList_appN _ rfl (.tmp 23) (.tmp 25) 91 rfl funcsElt (base := 0) (v := .slice FA bs.length fc) rfl P5.out.row (m := 1) rfl R5.out rfl (by intro v hv; rw [List.mem_singleton] at hv; subst hv; rfl) (by have := HBN.out; omega) (Nat.zero_le _) ?_
    intro A6 c6 w6 ho6 hg6 hl6
    have HO6 := Lib.hid ho6
    have T6 := Lib.hid (show But (fun q => (Value.slice FA bs.length fc).ownBlock = some q) w4 w6 from ((But.refl w4).alloc _).grown hg6 (fun q hq => .inl hq))
    have HL6 := Lib.hid (show ∀ q, (Value.slice A6 (bs.length + 1) c6).ownBlock = some q → (Value.slice FA bs.length fc).ownBlock = some q ∨ w4.heap.size ≤ q from fun q hq => by
      rcases hl6 with h1 | h1
      · exact .inl (h1.symm.trans hq)
      · rw [hq] at h1; injection h1 with h1; subst h1; exact .inr (by simp))
    have B6 := Lib.hid (P4.out.blk.but T6.out (fun hq => H.out.row_ne p hq rfl))
    have cf6 := B6.out.cell 2
    have ff6 := B6.out.free 2
    have cb6 := (B4.out.but T6.out (fun hq => by have h1 := (H.out.pow.row.lt _ hq).2; have h2 := HG1.out.size; omega)).cell 0
    clear ho6 hg6 hl6 cf cb
    go_wp2_with fail
    go_ret
    have hwc1 := HG1.out.size
    have hwc0 : wc.heap.size < w1.heap.size := (HO1.out.lt _ rfl).2
    have hw3 := E6.out
    have hw4 := T4.out.size
    have hw6 := T6.out.size
    have hp0 := H.out.pow.blk.lt
    have hrow : ∀ q, (Value.slice FA bs.length fc).ownBlock = some q → q < wc.heap.size := fun q hq => (H.out.pow.row.lt q hq).2
    have hlen : (bs ++ [w1.heap.size + 1]).length = bs.length + 1 := by simp
    have hm3 : w3.heap.size < w4.heap.size := M4.out.lt
    have T7 : But (fun q => q = p) w6 (w6.setCell ⟨p, 2, none⟩ (.slice A6 (bs.length + 1) c6)) := but_one _
    have t3 : But (fun q => q = p ∨ (Value.slice FA bs.length fc).ownBlock = some q) wc w3 := But.of_below (B := wc.heap.size) (HG1.out.trans ((E5.out).mono (by omega))) (fun k h1 h2 => by omega)
    have t4 : But (fun q => q = p ∨ (Value.slice FA bs.length fc).ownBlock = some q) wc w4 := but_step t3 T4.out (fun q hq => .inr (by omega))
    have t6 : But (fun q => q = p ∨ (Value.slice FA bs.length fc).ownBlock = some q) wc w6 := t4.trans (T6.out.mono (fun q hq => .inr hq))
    have t7 := t6.trans (T7.mono (T := fun q => q = p ∨ (Value.slice FA bs.length fc).ownBlock = some q) (fun q hq => .inl hq))
    have hnew : ∀ q, (Value.slice A6 (bs.length + 1) c6).ownBlock = some q → q ≠ p := fun q hq e => by
      subst e
      have hb6 : w6.heap[q]? = some (.cells _ 93 (0, 0)) := B6.out
      rcases HO6.out.2 with ⟨e1, _⟩ | ⟨g', cap, cur, e1, _, h2, _⟩
      · rw [e1] at hq; cases hq
      · rw [e1] at hq; injection hq with hq; replace hq : g' = q := hq; rw [hq] at h2; rw [h2] at hb6; injection hb6 with hb6; injection hb6 with _ hb6; exact absurd hb6 (by decide)
    have hg4 : ∀ {cs ty} {k : Nat}, Blk w4 k cs ty → (∀ q, (Value.slice FA bs.length fc).ownBlock = some q → k ≠ q) → k ≠ p → Blk (w6.setCell ⟨p, 2, none⟩ (.slice A6 (bs.length + 1) c6)) k cs ty := fun hb h1 h2 => (hb.but T6.out (fun hq => h1 _ hq rfl)).but T7 h2
    have G7 := hg4 G4.out (fun q hq => by have := hrow q hq; omega) (by omega)
    have B7 := hg4 B4.out (fun q hq => by have := hrow q hq; omega) (by omega)
    have M7 := imap_but (imap_but M4.out T6.out (fun hq => by have := hrow _ hq; omega)) T7 (by omega)
    have O7 : (w6.setCell ⟨p, 2, none⟩ (.slice A6 (bs.length + 1) c6)).ownsRow 0 38 128 (.slice (some ⟨wc.heap.size, 0, none⟩) n n) n (svs (List.replicate n zeroS)) := by
      have h1 := HO1.out
      rw [show (madeCells (Value.agg (bva zeroS)).cells (n * 128)).toList = svs (List.replicate n zeroS) from made_svs n] at h1
      exact Own.but (Own.but (Own.but (own_belowN h1 E5.out) T4.out (fun q hq => by injection hq with hq; replace hq : wc.heap.size = q := hq; omega)) T6.out (fun q hq hq' => by injection hq with hq; replace hq : wc.heap.size = q := hq; have := hrow q hq'; omega)) T7 (fun q hq => by injection hq with hq; replace hq : wc.heap.size = q := hq; omega)
    have hdv : DevR (w6.setCell ⟨p, 2, none⟩ (.slice A6 (bs.length + 1) c6)) p w1.heap.size (newDv n) (some ⟨wc.heap.size, 0, none⟩) n n none 0 0 w3.heap.size (.map []) :=
      ⟨G7, O7, ⟨rfl, .inl ⟨rfl, rfl⟩⟩, M7, last_empty, by show (List.replicate n zeroS).length = n; simp, rfl, ⟨fun s hs => by rw [List.eq_of_mem_replicate hs]; exact zeroS_length, fun x hx => absurd hx List.not_mem_nil, by show (0 : Int) ≤ 0; omega, by show (0 : Int) ≤ 0 ∧ (0 : Int) ≤ 128; omega, by show (List.replicate n zeroS).length ≤ 4096; simpa using hnb⟩, fun e => by cases e⟩
    have hPn : PowR (w6.setCell ⟨p, 2, none⟩ (.slice A6 (bs.length + 1) c6)) p S.p (bs ++ [w1.heap.size + 1]) A6 c6 lf :=
      ⟨by rw [hlen]; exact blk_setN8 B6.out 2 _, by rw [hlen, List.map_append]; exact Own.but HO6.out T7 (fun q hq => hnew q hq), P4.out.same, P4.out.lo, P4.out.hi, P4.out.left⟩
    have hfin := sys_grow H.out hF hl t7 hPn ⟨_, _, _, _, _, _, _, _, hdv, fun q hq => hq⟩ (fun q hq => ?hG) B7 (by omega) (fun q hq => by rw [hlen] at hq; rcases HL6.out q hq with h1 | h1; exact .inl h1; exact .inr (by omega))
    case hG =>
      have hs7 := T7.size
      have hq2 : q = w1.heap.size ∨ q = w3.heap.size ∨ q = wc.heap.size := by
        rcases hq with h1 | h1 | h1 | h1
        · exact .inl h1
        · exact .inr (.inl h1)
        · injection h1 with h1; exact .inr (.inr h1.symm)
        · cases h1
      have hwc : wc.heap.size < w1.heap.size := (HO1.out.lt _ rfl).2
      refine ⟨by omega, by omega, by omega, fun k hk => ?_⟩
      rw [hlen] at hk
      rcases HL6.out k hk with h1 | h1
      · have := hrow k h1; omega
      · omega
    refine ⟨w1.heap.size, rfl, ?_⟩
    rw [Sy.new, ← HN.out]
    exact hfin
end Go.Proofs.Ytfofkjcdohmkpaa.Kd
/-
  The contract of the device's NewPower; of New of a nil power.
-/
namespace Go.Proofs.Ytfofkjcdohmkpaa.Kd
open Go.RowKit Go.Maps
attribute [local go_sem ↓] Go.wp_at_zero Go.wp_at_succ
def S0 : Sy := ⟨⟨false, -1⟩, []⟩
theorem newPower_sys {w : World} : Calls Try.prog 13 #[] w (fun e w' => ∃ p, e = .returned (.pointer (some ⟨p, 0, none⟩)) ∧ ∃ F, Sys w' p [] S0 F ∧ (∀ q, F q → w.heap.size ≤ q) ∧ Below w.heap.size w w') := by
  refine newPower_any.mono ?_
  rintro e w' ⟨rfl, hb, hbl⟩
  refine ⟨_, rfl, fun q => q = w.heap.size, ⟨[], fun _ _ => False, none, 0, -1, ⟨⟨hb, ⟨rfl, .inl ⟨rfl, rfl⟩⟩, fun _ => rfl, by omega, by omega, by show (-1 : Int) ≤ -1; omega⟩, rfl, rfl, fun i hi => (by cases hi), fun i hi => (by cases hi), fun i j q hi => (by cases hi), fun i q hi => (by cases hi), fun i q hi => (by cases hi)⟩, ?_, ?_⟩, fun q hq => by omega, hbl⟩
  · rintro q (h | h | ⟨j, hj, _⟩ | ⟨i, hi, _⟩)
    · exact h
    · cases h
    · cases hj
    · cases hi
  · rintro q rfl
    exact hb.lt
set_option maxRecDepth 100000 in
set_option maxHeartbeats 3200000 in
theorem new_nil0 {w0 : World} (x : Int) :
    Calls Try.prog 14 #[.int .i64 x, .pointer none] w0 (fun e w' => ∃ p w F, Sys w p [] S0 F ∧ (∀ q, F q → w0.heap.size ≤ q) ∧ Below w0.heap.size w0 w ∧ RetNew p [] (S0.new x) F w e w') := by
  obtain ⟨n, hn⟩ : ∃ n, n = clampN x := ⟨_, rfl⟩
  have HMM := Lib.hid (show n = (min (max x 0) 4096).toNat from hn)
  have hnb : n ≤ 4096 := by rw [hn]; unfold clampN; omega
  obtain ⟨i0, hi, hz0, hz1, hz2⟩ := info_parts info_secW
  have HN := Lib.hid hn
  clear hn
  go_enter Try.func14, Try.ntmps14
  go_upto_region 3 with (
    refine newPower_sys.mono ?_
    rintro e w ⟨p, rfl, F, hs, hF0, hb0⟩
    have HS := Lib.hid hs
    have HF0 := Lib.hid hF0
    have HB0 := Lib.hid hb0
    clear hs hF0 hb0)
  obtain ⟨S, hS⟩ : ∃ S, S = S0 := ⟨_, rfl⟩
  obtain ⟨gs, hgs⟩ : ∃ gs : List Nat, gs = [] := ⟨_, rfl⟩
  have hsys : Sys w p gs S F := by rw [hS, hgs]; exact HS.out
  have HS0 := Lib.hid hS
  have HGS := Lib.hid hgs
  obtain ⟨bs, Fs, FA, fc, lf, h, hF, hl⟩ := hsys
  have H := Lib.hid h
  have HBD := Lib.hid (show ∀ (A : Option Addr) (W : World), (Instr.build 97 #[(0, .pointer (some ⟨p, 0, none⟩)), (1, .slice A n n)]).run Try.prog W = .ok (.agg (newCells A n n p (.slice none 0 0) (.map none))) W from fun A W => by kernel_rfl)
  have HBN := Lib.hid (show bs.length < 1000 by rw [h.bl, hS]; show 0 < 1000; omega)
  clear h hS hgs
  go_cut [0] (fun s0 wx => s0 = .int .i64 (n : Int) ∧ wx = w)
  case first =>
    go_wp2_with fail
    all_goals (go_meet; exact ⟨congrArg (Value.int .i64) (by have := HMM.out; omega), rfl⟩)
  case rest =>
    obtain ⟨rfl, rfl⟩ := hcut
    go_wp2_with (first
      | (at_make; refine wpList_make_full _ rfl _ _ _ rfl 0 38 i0 _ 128 Try.underlying43 hi hz0 hz1 .i64 .i64 _ _ n rfl rfl rfl rfl ?_ ?_ ?_ ?_; (rw [hz2]; omega); (unfold maxLen; omega); (exact Nat.zero_le _); intro w1 hown hg
         have HO1 := Lib.hid hown
         have HG1 := Lib.hid (below_of_grown8 hg)
         clear hown hg)
      | (refine wpList_build rfl 97 #[(0, .tmp 12), (1, .tmp 14)] rfl (v := .agg (newCells (some ⟨wc.heap.size, 0, none⟩) n n p (.slice none 0 0) (.map none))) ?hbld ?_; case hbld => (simp only [List.map_toArray, List.map_cons, List.map_nil]; exact HBD.out _ _)))
    obtain ⟨w3, hw3⟩ : ∃ w3, w3 = (w1.alloc (.cells (newCells (some ⟨wc.heap.size, 0, none⟩) n n p (.slice none 0 0) (.map none)) 97)).alloc (.cells #[.pointer (some ⟨w1.heap.size, 0, none⟩)] 30) := ⟨_, rfl⟩
    have e3 : Blk w3 w1.heap.size (newCells (some ⟨wc.heap.size, 0, none⟩) n n p (.slice none 0 0) (.map none)) 97 := by rw [hw3]; exact (heap_alloc_old _ _ (by simp)).trans (heap_alloc_new _ _)
    have e4 : Blk w3 (w1.heap.size + 1) #[.pointer (some ⟨w1.heap.size, 0, none⟩)] 30 := by
      rw [hw3]
      have h := heap_alloc_new (w1.alloc (.cells (newCells (some ⟨wc.heap.size, 0, none⟩) n n p (.slice none 0 0) (.map none)) 97)) (.cells #[.pointer (some ⟨w1.heap.size, 0, none⟩)] 30)
      rwa [World.size_alloc] at h
    have e5 : Below w1.heap.size w1 w3 := by rw [hw3]; exact ((Below.refl _ _).alloc (Nat.le_refl _) _).alloc (by simp) _
    have e6 : w3.heap.size = w1.heap.size + 2 := by rw [hw3]; simp
    have E3 := Lib.hid e3
    have E4 := Lib.hid e4
    have E5 := Lib.hid e5
    have E6 := Lib.hid e6
    rw [← hw3]
    clear hw3 e3 e4 e5 e6
    unfold newCells at E3
    refine (empty_any _ _ _ _ _ _ _ _ E3.out).mono ?_
    rintro e2 w4 ⟨rfl, hb2, hm2, ht2⟩
    have G4 := Lib.hid hb2
    have M4 := Lib.hid hm2
    have T4 := Lib.hid ht2
    have P4 := Lib.hid ((H.out.pow.below HG1.out |>.below E5.out).but T4.out (fun e => by have h1 := H.out.pow.blk.lt; have h2 := HG1.out.size; omega) (fun k hk e => by have h1 := (H.out.pow.row.lt k hk).2; have h2 := HG1.out.size; omega))
    have B4 := Lib.hid (E4.out.but T4.out (by omega))
    have cf := P4.out.blk.cell 2
    have cb := B4.out.cell 0
    have P5 := Lib.hid (P4.out.below (show Below w4.heap.size w4 (w4.alloc (.cells #[cloV (w1.heap.size + 1)] 1)) from (Below.refl _ _).alloc (Nat.le_refl _) _))
    have R5 := Lib.hid (show Rd (w4.alloc (.cells #[cloV (w1.heap.size + 1)] 1)).heap.size (w4.alloc (.cells #[cloV (w1.heap.size + 1)] 1)) (some ⟨w4.heap.size, 0, none⟩) [cloV (w1.heap.size + 1)] from by
      have hb5 : Blk (w4.alloc (.cells #[cloV (w1.heap.size + 1)] 1)) w4.heap.size #[cloV (w1.heap.size + 1)] 1 := heap_alloc_new _ _
      intro q v hv
      exact ⟨_, rfl, hb5.lt, by rw [Addr.add_mid, hb5.cell, Nat.zero_add]; simpa using hv⟩)
    clear hb2 hm2 ht2
    go_wp2_with (at_builtin; apply Classical.byContradiction; intro hneg)
    refine hneg ?_; clear hneg
    refine wpList_appN _ rfl (.tmp 23) (.tmp 25) 91 rfl funcsElt (base := 0) (v := .slice FA bs.length fc) rfl P5.out.row (m := 1) rfl R5.out rfl (by intro v hv; rw [List.mem_singleton] at hv; subst hv; rfl) (by have := HBN.out; omega) (Nat.zero_le _) ?_
    intro A6 c6 w6 ho6 hg6 hl6
    have HO6 := Lib.hid ho6
    have T6 := Lib.hid (show But (fun q => (Value.slice FA bs.length fc).ownBlock = some q) w4 w6 from ((But.refl w4).alloc _).grown hg6 (fun q hq => .inl hq))
    have HL6 := Lib.hid (show ∀ q, (Value.slice A6 (bs.length + 1) c6).ownBlock = some q → (Value.slice FA bs.length fc).ownBlock = some q ∨ w4.heap.size ≤ q from fun q hq => by
      rcases hl6 with h1 | h1
      · exact .inl (h1.symm.trans hq)
      · rw [hq] at h1; injection h1 with h1; subst h1; exact .inr (by simp))
    have B6 := Lib.hid (P4.out.blk.but T6.out (fun hq => H.out.row_ne p hq rfl))
    have cf6 := B6.out.cell 2
    have ff6 := B6.out.free 2
    have cb6 := (B4.out.but T6.out (fun hq => by have h1 := (H.out.pow.row.lt _ hq).2; have h2 := HG1.out.size; omega)).cell 0
    clear ho6 hg6 hl6 cf cb
    go_wp2_with fail
    go_ret
    have hwc1 := HG1.out.size
    have hwc0 : wc.heap.size < w1.heap.size := (HO1.out.lt _ rfl).2
    have hw3 := E6.out
    have hw4 := T4.out.size
    have hw6 := T6.out.size
    have hp0 := H.out.pow.blk.lt
    have hrow : ∀ q, (Value.slice FA bs.length fc).ownBlock = some q → q < wc.heap.size := fun q hq => (H.out.pow.row.lt q hq).2
    have hlen : (bs ++ [w1.heap.size + 1]).length = bs.length + 1 := by simp
    have hm3 : w3.heap.size < w4.heap.size := M4.out.lt
    have T7 : But (fun q => q = p) w6 (w6.setCell ⟨p, 2, none⟩ (.slice A6 (bs.length + 1) c6)) := but_one _
    have t3 : But (fun q => q = p ∨ (Value.slice FA bs.length fc).ownBlock = some q) wc w3 := But.of_below (B := wc.heap.size) (HG1.out.trans ((E5.out).mono (by omega))) (fun k h1 h2 => by omega)
    have t4 : But (fun q => q = p ∨ (Value.slice FA bs.length fc).ownBlock = some q) wc w4 := but_step t3 T4.out (fun q hq => .inr (by omega))
    have t6 : But (fun q => q = p ∨ (Value.slice FA bs.length fc).ownBlock = some q) wc w6 := t4.trans (T6.out.mono (fun q hq => .inr hq))
    have t7 := t6.trans (T7.mono (T := fun q => q = p ∨ (Value.slice FA bs.length fc).ownBlock = some q) (fun q hq => .inl hq))
    have hnew : ∀ q, (Value.slice A6 (bs.length + 1) c6).ownBlock = some q → q ≠ p := fun q hq e => by
      subst e
      have hb6 : w6.heap[q]? = some (.cells _ 93 (0, 0)) := B6.out
      rcases HO6.out.2 with ⟨e1, _⟩ | ⟨g', cap, cur, e1, _, h2, _⟩
      · rw [e1] at hq; cases hq
      · rw [e1] at hq; injection hq with hq; replace hq : g' = q := hq; rw [hq] at h2; rw [h2] at hb6; injection hb6 with hb6; injection hb6 with _ hb6; exact absurd hb6 (by decide)
    have hg4 : ∀ {cs ty} {k : Nat}, Blk w4 k cs ty → (∀ q, (Value.slice FA bs.length fc).ownBlock = some q → k ≠ q) → k ≠ p → Blk (w6.setCell ⟨p, 2, none⟩ (.slice A6 (bs.length + 1) c6)) k cs ty := fun hb h1 h2 => (hb.but T6.out (fun hq => h1 _ hq rfl)).but T7 h2
    have G7 := hg4 G4.out (fun q hq => by have := hrow q hq; omega) (by omega)
    have B7 := hg4 B4.out (fun q hq => by have := hrow q hq; omega) (by omega)
    have M7 := imap_but (imap_but M4.out T6.out (fun hq => by have := hrow _ hq; omega)) T7 (by omega)
    have O7 : (w6.setCell ⟨p, 2, none⟩ (.slice A6 (bs.length + 1) c6)).ownsRow 0 38 128 (.slice (some ⟨wc.heap.size, 0, none⟩) n n) n (svs (List.replicate n zeroS)) := by
      have h1 := HO1.out
      rw [show (madeCells (Value.agg (bva zeroS)).cells (n * 128)).toList = svs (List.replicate n zeroS) from made_svs n] at h1
      exact Own.but (Own.but (Own.but (own_belowN h1 E5.out) T4.out (fun q hq => by injection hq with hq; replace hq : wc.heap.size = q := hq; omega)) T6.out (fun q hq hq' => by injection hq with hq; replace hq : wc.heap.size = q := hq; have := hrow q hq'; omega)) T7 (fun q hq => by injection hq with hq; replace hq : wc.heap.size = q := hq; omega)
    have hdv : DevR (w6.setCell ⟨p, 2, none⟩ (.slice A6 (bs.length + 1) c6)) p w1.heap.size (newDv n) (some ⟨wc.heap.size, 0, none⟩) n n none 0 0 w3.heap.size (.map []) :=
      ⟨G7, O7, ⟨rfl, .inl ⟨rfl, rfl⟩⟩, M7, last_empty, by show (List.replicate n zeroS).length = n; simp, rfl, ⟨fun s hs => by rw [List.eq_of_mem_replicate hs]; exact zeroS_length, fun x hx => absurd hx List.not_mem_nil, by show (0 : Int) ≤ 0; omega, by show (0 : Int) ≤ 0 ∧ (0 : Int) ≤ 128; omega, by show (List.replicate n zeroS).length ≤ 4096; simpa using hnb⟩, fun e => by cases e⟩
    have hPn : PowR (w6.setCell ⟨p, 2, none⟩ (.slice A6 (bs.length + 1) c6)) p S.p (bs ++ [w1.heap.size + 1]) A6 c6 lf :=
      ⟨by rw [hlen]; exact blk_setN8 B6.out 2 _, by rw [hlen, List.map_append]; exact Own.but HO6.out T7 (fun q hq => hnew q hq), P4.out.same, P4.out.lo, P4.out.hi, P4.out.left⟩
    have hfin := sys_grow H.out hF hl t7 hPn ⟨_, _, _, _, _, _, _, _, hdv, fun q hq => hq⟩ (fun q hq => ?hG) B7 (by omega) (fun q hq => by rw [hlen] at hq; rcases HL6.out q hq with h1 | h1; exact .inl h1; exact .inr (by omega))
    case hG =>
      have hs7 := T7.size
      have hq2 : q = w1.heap.size ∨ q = w3.heap.size ∨ q = wc.heap.size := by
        rcases hq with h1 | h1 | h1 | h1
        · exact .inl h1
        · exact .inr (.inl h1)
        · injection h1 with h1; exact .inr (.inr h1.symm)
        · cases h1
      have hwc : wc.heap.size < w1.heap.size := (HO1.out.lt _ rfl).2
      refine ⟨by omega, by omega, by omega, fun k hk => ?_⟩
      rw [hlen] at hk
      rcases HL6.out k hk with h1 | h1
      · have := hrow k h1; omega
      · omega
    refine ⟨p, wc, F, HS.out, HF0.out, HB0.out, w1.heap.size, rfl, ?_⟩
    rw [HS0.out, HGS.out] at hfin
    rw [Sy.new, ← HN.out]
    exact hfin
/-- New of a nil power: one of its own. -/
theorem new_nil {w : World} (x : Int) : Calls Try.prog 14 #[.int .i64 x, .pointer none] w (fun e w' => ∃ p g, e = .returned (.pointer (some ⟨g, 0, none⟩)) ∧ ∃ F, Sys w' p [g] (S0.new x) F ∧ (∀ q, F q → w.heap.size ≤ q) ∧ Below w.heap.size w w') := by
  refine (new_nil0 x).mono ?_
  rintro e w' ⟨p, w1, F, _, h2, h3, g, rfl, F', h4, h5, h6⟩
  refine ⟨p, g, rfl, F', h4, fun q hq => ?_, h3.trans (h6.below (fun k hk hq => ?_) h3.size)⟩
  · rcases h5 q hq with h | h
    · exact h2 q h
    · exact Nat.le_trans h3.size h
  · have := h2 k hq; omega
end Go.Proofs.Ytfofkjcdohmkpaa.Kd
/-
  A power's devices, all new behind some world: what each operation makes of them.
-/
namespace Go.Proofs.Ytfofkjcdohmkpaa.Kd
open Go.RowKit Go.Maps
attribute [local go_sem ↓] Go.wp_at_zero Go.wp_at_succ
/-- The devices S lie in blocks of F, none of which was there in the world w0, and all that was there is as it was. -/
structure Live (w0 w : World) (p : Nat) (gs : List Nat) (S : Sy) (F : Nat → Prop) : Prop where
  sys : Sys w p gs S F
  new : ∀ q, F q → w0.heap.size ≤ q
  bel : Below w0.heap.size w0 w
/-- It returns v; the devices are S now. -/
def RetL (v : Value) (w0 : World) (p : Nat) (gs : List Nat) (S : Sy) (F : Nat → Prop) (w : World) (e : Ending) (w' : World) : Prop :=
  e = .returned v ∧ ∃ F', Live w0 w' p gs S F' ∧ (∀ q, F' q → F q ∨ w.heap.size ≤ q) ∧ But F w w'
section
variable {w0 w w' : World} {p : Nat} {gs : List Nat} {S S' : Sy} {F F' : Nat → Prop} {v : Value} {e : Ending}
theorem Live.step (h : Live w0 w p gs S F) (hs : Sys w' p gs S' F') (h1 : ∀ q, F' q → F q ∨ w.heap.size ≤ q) (h2 : But F w w') : Live w0 w' p gs S' F' :=
  ⟨hs, fun q hq => by
    rcases h1 q hq with h3 | h3
    · exact h.new q h3
    · exact Nat.le_trans h.bel.size h3, h.bel.trans (h2.below (fun k hk hq => by have := h.new k hq; omega) h.bel.size)⟩
theorem Live.ret (h : Live w0 w p gs S F) (hr : RetS v p gs S' F w e w') : RetL v w0 p gs S' F w e w' := by
  obtain ⟨rfl, F', h0, h1, h2⟩ := hr
  exact ⟨rfl, F', h.step h0 h1 h2, h1, h2⟩
theorem Live.below (h : Live w0 w p gs S F) (hb : Below w.heap.size w w') : Live w0 w' p gs S F :=
  ⟨h.sys.below hb, h.new, h.bel.trans (hb.mono h.bel.size)⟩
theorem Live.lt (h : Live w0 w p gs S F) : ∀ q, F q → q < w.heap.size := h.sys.lt
theorem Live.drew (h : Live w0 w p gs S F) : Live w0 w.drew p gs S F := ⟨h.sys.but (T := fun _ => False) ((But.refl _).drew) (fun _ _ h => h), h.new, h.bel.drew⟩
theorem live_write (h : Live w0 w p gs S F) (k : Nat) (hk : k < S.ds.length) (i : Int) (s : List UInt8) (hs : s.length = 128) (hm : (S.at k).wt.length < 1000000) :
    Calls Try.prog 44 #[.pointer (some ⟨gs.getD k 0, 0, none⟩), .int .i64 i, .agg (bva s)] w (RetL (.int .i64 (S.write k i s).1) w0 p gs (S.write k i s).2 F w) :=
  (write_any h.sys k hk i s hs hm).mono fun _ _ hr => h.ret hr
theorem live_flush (h : Live w0 w p gs S F) (k : Nat) (hk : k < S.ds.length) :
    Calls Try.prog 45 #[.pointer (some ⟨gs.getD k 0, 0, none⟩)] w (RetL (.int .i64 (S.flush k).1) w0 p gs (S.flush k).2 F w) :=
  (flush_any h.sys k hk).mono fun _ _ hr => h.ret hr
theorem live_tear (h : Live w0 w p gs S F) (k : Nat) (hk : k < S.ds.length) (x y : Int) :
    Calls Try.prog 41 #[.pointer (some ⟨gs.getD k 0, 0, none⟩), .int .i64 x, .int .i64 y] w (RetL (.tuple #[]) w0 p gs (S.put k ((S.at k).tear x y)) F w) :=
  (tear_sys h.sys k hk x y).mono fun _ _ hr => h.ret hr
theorem live_lie (h : Live w0 w p gs S F) (k : Nat) (hk : k < S.ds.length) (on : Bool) :
    Calls Try.prog 51 #[.pointer (some ⟨gs.getD k 0, 0, none⟩), .bool on] w (RetL (.tuple #[]) w0 p gs (S.put k ((S.at k).lie on)) F w) :=
  (lie_sys h.sys k hk on).mono fun _ _ hr => h.ret hr
theorem live_out (h : Live w0 w p gs S F) (k : Nat) (hk : k < S.ds.length) (on : Bool) :
    Calls Try.prog 24 #[.pointer (some ⟨gs.getD k 0, 0, none⟩), .bool on] w (RetL (.tuple #[]) w0 p gs (S.put k ((S.at k).out on)) F w) :=
  (out_sys h.sys k hk on).mono fun _ _ hr => h.ret hr
theorem live_fail (h : Live w0 w p gs S F) (x : Int) (hx : x ≤ 9223372036854775807) :
    Calls Try.prog 42 #[.pointer (some ⟨p, 0, none⟩), .int .i64 x] w (RetL (.tuple #[]) w0 p gs (S.fail x) F w) :=
  (fail_sys h.sys x hx).mono fun _ _ hr => h.ret hr
theorem live_restart (h : Live w0 w p gs S F) : Calls Try.prog 52 #[.pointer (some ⟨p, 0, none⟩)] w (RetL (.tuple #[]) w0 p gs S.restart F w) :=
  (restart_sys h.sys).mono fun _ _ hr => h.ret hr
theorem live_power : Calls Try.prog 13 #[] w (fun e w' => ∃ p, e = .returned (.pointer (some ⟨p, 0, none⟩)) ∧ ∃ F, Live w w' p [] S0 F) :=
  newPower_sys.mono fun _ _ ⟨p, h0, F, h1, h2, h3⟩ => ⟨p, h0, F, h1, h2, h3⟩
theorem live_new (h : Live w0 w p gs S F) (hds : S.ds.length < 1000) (x : Int) :
    Calls Try.prog 14 #[.int .i64 x, .pointer (some ⟨p, 0, none⟩)] w (fun e w' => ∃ g, e = .returned (.pointer (some ⟨g, 0, none⟩)) ∧ ∃ F', Live w0 w' p (gs ++ [g]) (S.new x) F' ∧ (∀ q, F' q → F q ∨ w.heap.size ≤ q) ∧ But F w w') :=
  (new_some h.sys hds x).mono fun _ _ ⟨g, h0, F', h1, h2, h3⟩ => ⟨g, h0, F', ⟨h1, fun q hq => by
    rcases h2 q hq with h4 | h4
    · exact h.new q h4
    · exact Nat.le_trans h.bel.size h4, h.bel.trans (h3.below (fun k hk hq => by have := h.new k hq; omega) h.bel.size)⟩, h2, h3⟩
theorem live_new0 (x : Int) : Calls Try.prog 14 #[.int .i64 x, .pointer none] w (fun e w' => ∃ p g, e = .returned (.pointer (some ⟨g, 0, none⟩)) ∧ ∃ F, Live w w' p [g] (S0.new x) F) :=
  (new_nil x).mono fun _ _ ⟨p, g, h0, F, h1, h2, h3⟩ => ⟨p, g, h0, F, h1, h2, h3⟩
/-- A row of sectors that is none of the devices'. -/
def RowS (w : World) (F : Nat → Prop) (v : Value) (n : Nat) (l : List (List UInt8)) : Prop := w.ownsRow 0 38 128 v n (svs l) ∧ ∀ q, v.ownBlock = some q → ¬ F q
theorem RowS.step {n : Nat} {l : List (List UInt8)} (h : RowS w F v n l) (h1 : ∀ q, F' q → F q ∨ w.heap.size ≤ q) (h2 : But F w w') : RowS w' F' v n l :=
  ⟨Own.but h.1 h2 h.2, fun q hq hf => by
    rcases h1 q hf with h3 | h3
    · exact h.2 q hq h3
    · have := (h.1.lt q hq).2; omega⟩
theorem RowS.below {n : Nat} {l : List (List UInt8)} (h : RowS w F v n l) (hb : Below w.heap.size w w') : RowS w' F v n l := ⟨own_belowN h.1 hb, h.2⟩
theorem RowS.rd {n c : Nat} {A : Option Addr} {l : List (List UInt8)} (h : RowS w F (.slice A n c) n l) : Rd w.heap.size w A (svs l) := Rd.ownN h.1
/-- What is dumped. -/
theorem live_dump (h : Live w0 w p gs S F) (k : Nat) (hk : k < S.ds.length) :
    Calls Try.prog 22 #[.pointer (some ⟨gs.getD k 0, 0, none⟩)] w (fun e w' => ∃ A n c, e = .returned (.slice A n c) ∧ (S.at k).st.length = n ∧ RowS w' F (.slice A n c) n (S.at k).st ∧ Below w.heap.size w w') :=
  (dump_sys h.sys k hk).mono fun _ _ ⟨A, n, c, h0, h1, h2⟩ => by
    have hn : (S.at k).st.length = n := by have := h1.1; rw [svs_length (h.sys.ok hk).st] at this; omega
    exact ⟨A, n, c, h0, hn, ⟨⟨h1.1, h1.2.imp id (fun ⟨g, cap, cur, h3, _, h4⟩ => ⟨g, cap, cur, h3, Nat.zero_le _, h4⟩)⟩, fun q hq hf => by have := (h1.lt q hq).1; have := h.lt q hf; omega⟩, h2⟩
end
end Go.Proofs.Ytfofkjcdohmkpaa.Kd
/-
  The laws' example, awake.
-/
namespace Go.Proofs.Ytfofkjcdohmkpaa.Kd
open Go.RowKit Go.Maps
attribute [local go_sem ↓] Go.wp_at_zero Go.wp_at_succ
def aw1 : Sy := S0.new 4
def aw2 : Sy := (aw1.write 0 0 (secC 1)).2
def aw3 : Sy := (aw2.write 0 1 (secC 2)).2
def aw4 : Sy := aw3.put 0 ((aw3.at 0).tear 1 2)
def aw5 : Sy := aw4.fail 0
def aw6 : Sy := (aw5.flush 0).2
theorem aw_facts : (aw1.write 0 0 (secC 1)).1 = 0 ∧ (aw2.write 0 1 (secC 2)).1 = 0 ∧ (aw5.flush 0).1 = 13 ∧ aw6.p.off = true ∧ (aw6.at 0).st.length = 4 ∧ (aw6.at 0).st[0]? = some (secC 1) ∧ ((aw6.at 0).st.getD 1 []).getD 1 0 = 2 ∧ ((aw6.at 0).st.getD 1 []).getD 2 0 = 0 := by decide +kernel
theorem aw_lens : aw1.ds.length = 1 ∧ aw2.ds.length = 1 ∧ aw3.ds.length = 1 ∧ aw4.ds.length = 1 ∧ aw5.ds.length = 1 ∧ aw6.ds.length = 1 ∧ (aw1.at 0).wt.length = 0 ∧ (aw2.at 0).wt.length = 1 := by decide +kernel
set_option maxRecDepth 100000 in
set_option maxHeartbeats 3200000 in
theorem kdAwake_any (w : World) : Calls Try.prog 12 #[] w (RetB (.bool true) w) := by
  obtain ⟨f1, f2, f3, f4, f5, f6, f7, f8⟩ := aw_facts
  obtain ⟨l1, l2, l3, l4, l5, l6, m1, m2⟩ := aw_lens
  go_enter Try.func12, Try.ntmps12
  go_wp2_with fail
  refine live_power.mono ?_
  rintro e w1 ⟨p, rfl, F1, h⟩
  have H1 := Lib.hid h
  clear h
  go_wp2_with fail
  refine (live_new H1.out (by decide) 4).mono ?_
  rintro e w2 ⟨g, rfl, F2, h, hf2, hb2⟩
  have H2 := Lib.hid (show Live w w2 p [g] aw1 F2 from h)
  clear h hf2 hb2 H1 
  go_wp2_with fail
  refine (sector_any 1 _).mono ?_
  rintro e w3 ⟨rfl, bw⟩
  have H3 := Lib.hid (H2.out.below bw)
  clear bw H2 
  go_wp2_with fail
  refine (live_write H3.out 0 (by rw [l1]; omega) 0 (secC 1) (secC_length _) (by rw [m1]; omega)).mono ?_
  rintro e w4 ⟨rfl, F4, h, hf4, hb4⟩
  rw [f1]
  have H4 := Lib.hid (show Live w w4 p [g] aw2 F4 from h)
  clear h hf4 hb4 H3 
  go_wp2_with fail
  refine (sector_any 2 _).mono ?_
  rintro e w5 ⟨rfl, bw⟩
  have H5 := Lib.hid (H4.out.below bw)
  clear bw H4 
  go_wp2_with fail
  refine (live_write H5.out 0 (by rw [l2]; omega) 1 (secC 2) (secC_length _) (by rw [m2]; omega)).mono ?_
  rintro e w6 ⟨rfl, F6, h, hf6, hb6⟩
  rw [f2]
  have H6 := Lib.hid (show Live w w6 p [g] aw3 F6 from h)
  clear h hf6 hb6 H5 
  go_wp2_with fail
  refine (live_tear H6.out 0 (by rw [l3]; omega) 1 2).mono ?_
  rintro e w7 ⟨rfl, F7, h, hf7, hb7⟩
  have H7 := Lib.hid (show Live w w7 p [g] aw4 F7 from h)
  clear h hf7 hb7 H6 
  go_wp2_with fail
  refine (live_fail H7.out 0 (by omega)).mono ?_
  rintro e w8 ⟨rfl, F8, h, hf8, hb8⟩
  have H8 := Lib.hid (show Live w w8 p [g] aw5 F8 from h)
  clear h hf8 hb8 H7 
  go_wp2_with fail
  refine (live_flush H8.out 0 (by rw [l5]; omega)).mono ?_
  rintro e w9 ⟨rfl, F9, h, hf9, hb9⟩
  rw [f3]
  have H9 := Lib.hid (show Live w w9 p [g] aw6 F9 from h)
  clear h hf9 hb9 H8 
  go_wp2_with fail
  refine (live_dump H9.out 0 (by rw [l6]; omega)).mono ?_
  rintro e w10 ⟨A10, n10, c10, rfl, hn10, hr10, bw⟩
  have H10 := Lib.hid (H9.out.below bw)
  have R10 := Lib.hid hr10
  have N10 := Lib.hid hn10
  clear bw hr10 hn10 H9 
  obtain rfl : 4 = n10 := f5.symm.trans N10.out
  have hrow := R10.out.1
  obtain ⟨q, rfl⟩ : ∃ q, A10 = some ⟨q, 0, none⟩ := by
    rcases own_addr8 hrow with ⟨_, h0, _⟩ | h0
    · omega
    · exact h0
  have HRD := Lib.hid (Rd.ownN hrow)
  clear hrow
  go_wp2_with fail
  obtain ⟨st, hst⟩ : ∃ st, st = (aw6.at 0).st := ⟨_, rfl⟩
  have hst1 := (H10.out.sys.ok (k := 0) (by rw [l6]; omega)).st
  rw [← hst] at HRD f5 f6 f7 f8 hst1
  have HRW := Lib.hid (show ∀ w', Below w10.heap.size w10 w' → ∀ j v, (svs st)[j]? = some v → w'.cell? ⟨q, j, none⟩ = some v from fun w' hb j v hv => by
    obtain ⟨ad, e1, _, hc⟩ := HRD.out.below hb j v hv
    injection e1 with e1; subst e1
    rw [← hc, Addr.add_mid, Nat.zero_add])
  have HC0 := Lib.hid (show ∀ w', Below w10.heap.size w10 w' → ∀ j v, (bv (secC 1))[j]? = some v → w'.cell? ((⟨q, 0, none⟩ : Addr).add j) = some v from fun w' hb j v hv => by
    have hz : st[0]'(by omega) = secC 1 := by rw [List.getElem?_eq_getElem (by omega)] at f6; injection f6
    have h := HRW.out w' hb _ v (svs_get hst1 (k := 0) (by omega) (hz ▸ hv))
    rw [Nat.mul_zero, Nat.zero_add] at h
    rw [Addr.add_mid, Nat.zero_add]; exact h)
  have hb1 : ∀ (j : Nat) (x : UInt8), j < 128 → (st.getD 1 []).getD j 0 = x → ∀ w', Below w10.heap.size w10 w' → w'.cell? ⟨q, 128 + j, none⟩ = some (.int .u8 (x.toNat : Int)) := fun j x hj hx w' hb => by
    have h1 : st.getD 1 [] = st[1]'(by omega) := by rw [List.getD_eq_getElem?_getD, List.getElem?_eq_getElem (by omega)]; rfl
    have hl1 : (st[1]'(by omega)).length = 128 := hst1 _ (List.getElem_mem _)
    have hv : (bv (st[1]'(by omega)))[j]? = some (.int .u8 (x.toNat : Int)) := by
      rw [bv, List.getElem?_map, List.getElem?_eq_getElem (by omega)]
      rw [h1, List.getD_eq_getElem?_getD, List.getElem?_eq_getElem (by omega)] at hx
      exact congrArg (fun z : UInt8 => some (Value.int .u8 (z.toNat : Int))) hx
    have h2 := svs_get hst1 (k := 1) (by omega) hv
    rw [Nat.mul_one] at h2
    exact HRW.out w' hb _ _ h2
  have HC1 := Lib.hid (hb1 1 2 (by omega) f7)
  have HC2 := Lib.hid (hb1 2 0 (by omega) f8)
  have heq := eq_sec (secC 1) (secC 1) (secC_length _) (secC_length _)
  simp only [decide_true] at heq
  have HI : Hid ((Try.prog.info? 38).map (·.size) = some (bv (secC 1)).length) := by rw [bv_length, secC_length]; exact info_sec
  clear hb1 HRD HRW f5 f6 f7 f8 hst1
  refine wp_region_held_drew (S := fun w' => Below w10.heap.size w10 w') (by kernel_rfl) (Below.refl _ _).drew (fun hh => ?_)
  have HH := Lib.hid hh
  clear hh
  refine wpAnyH_take (i := 0) (v := ?va0) rfl (by kernel_rfl) (by kernel_rfl) (by kernel_rfl) (fun _ _ _ h => h) (Or.inl ⟨by rfl, fun w' _ => ?ya0⟩) HH.out ?_
  case ya0 => (go_simp; try with_reducible rfl)
  refine wpAnyH_take (i := 1) (v := ?va1) rfl (by kernel_rfl) (by kernel_rfl) (by kernel_rfl) (fun _ _ _ h => h) (Or.inl ⟨by rfl, fun w' _ => ?ya1⟩) HH.out ?_
  case ya1 => (go_simp; try with_reducible rfl)
  try simp only [List.getElem_toArray, List.getElem_cons_succ, List.getElem_cons_zero, Act.put, List.setIfInBounds_toArray, List.set_cons_zero, List.set_cons_succ]
  refine wpAnyH_take (i := 2) (v := ?va2) rfl (by kernel_rfl) (by kernel_rfl) (by kernel_rfl) (fun _ _ _ h => h) (Or.inl ⟨by rfl, fun w' _ => ?ya2⟩) HH.out ?_
  case ya2 => (go_simp; try with_reducible rfl)
  try simp only [List.getElem_toArray, List.getElem_cons_succ, List.getElem_cons_zero, Act.put, List.setIfInBounds_toArray, List.set_cons_zero, List.set_cons_succ]
  refine wpAnyH_take (i := 3) (v := ?va3) rfl (by kernel_rfl) (by kernel_rfl) (by kernel_rfl) (fun _ _ _ h => h) (Or.inl ⟨by rfl, fun w' _ => ?ya3⟩) HH.out ?_
  case ya3 => (go_simp; try with_reducible rfl)
  try simp only [List.getElem_toArray, List.getElem_cons_succ, List.getElem_cons_zero, Act.put, List.setIfInBounds_toArray, List.set_cons_zero, List.set_cons_succ]
  refine wpAnyH_take (i := 4) (v := ?va4) rfl (by kernel_rfl) (by kernel_rfl) (by kernel_rfl) (fun _ _ _ h => h) (Or.inl ⟨by rfl, fun w' _ => ?ya4⟩) HH.out ?_
  case ya4 => (go_simp; try with_reducible rfl)
  try simp only [List.getElem_toArray, List.getElem_cons_succ, List.getElem_cons_zero, Act.put, List.setIfInBounds_toArray, List.set_cons_zero, List.set_cons_succ]
  refine wpAnyH_take (i := 5) (v := ?va5) rfl (by kernel_rfl) (by kernel_rfl) (by kernel_rfl) (fun _ _ _ h => h) (Or.inl ⟨by rfl, fun w' _ => ?ya5⟩) HH.out ?_
  case ya5 => (go_simp; try with_reducible rfl)
  refine wpAnyH_take (i := 6) (v := ?va6) rfl (by kernel_rfl) (by kernel_rfl) (by kernel_rfl) (fun _ _ _ h => h) (Or.inl ⟨by rfl, fun w' _ => ?ya6⟩) HH.out ?_
  case ya6 => (go_simp; try with_reducible rfl)
  try simp only [List.getElem_toArray, List.getElem_cons_succ, List.getElem_cons_zero, Act.put, List.setIfInBounds_toArray, List.set_cons_zero, List.set_cons_succ]
  refine wpAnyH_take (i := 7) (v := ?va7) rfl (by kernel_rfl) (by kernel_rfl) (by kernel_rfl) (fun _ _ _ h => h) (Or.inl ⟨by rfl, fun w' _ => ?ya7⟩) HH.out ?_
  case ya7 => (go_simp; try with_reducible rfl)
  try simp only [List.getElem_toArray, List.getElem_cons_succ, List.getElem_cons_zero, Act.put, List.setIfInBounds_toArray, List.set_cons_zero, List.set_cons_succ]
  refine wpAnyH_take (i := 8) (v := ?va8) rfl (by kernel_rfl) (by kernel_rfl) (by kernel_rfl) (fun _ _ _ h => h) (Or.inl ⟨by rfl, fun w' _ => ?ya8⟩) HH.out ?_
  case ya8 => (go_simp; try with_reducible rfl)
  refine wpAnyH_take (i := 9) (v := ?va9) rfl (by kernel_rfl) (by kernel_rfl) (by kernel_rfl) (fun _ _ _ h => h) (Or.inl ⟨by rfl, fun w' _ => ?ya9⟩) HH.out ?_
  case ya9 => (go_simp; try with_reducible rfl)
  refine wpAnyH_take (i := 10) (v := ?va10) rfl (by kernel_rfl) (by kernel_rfl) (by kernel_rfl) (fun _ _ _ h => h) (Or.inl ⟨by rfl, fun w' _ => ?ya10⟩) HH.out ?_
  case ya10 => (go_simp; try with_reducible rfl)
  try simp only [List.getElem_toArray, List.getElem_cons_succ, List.getElem_cons_zero, Act.put, List.setIfInBounds_toArray, List.set_cons_zero, List.set_cons_succ]
  refine wpAnyH_take (i := 11) (v := ?va11) rfl (by kernel_rfl) (by kernel_rfl) (by kernel_rfl) (fun _ _ _ h => h) (Or.inl ⟨by rfl, fun w' _ => ?ya11⟩) HH.out ?_
  case ya11 => (go_simp; try with_reducible rfl)
  try simp only [List.getElem_toArray, List.getElem_cons_succ, List.getElem_cons_zero, Act.put, List.setIfInBounds_toArray, List.set_cons_zero, List.set_cons_succ]
  refine wpAnyH_ready (rs := [12]) (by kernel_rfl) (by simp) (AllReadyH.cons rfl (fun K hK => ?_) AllReadyH.nil)
  go_simp
  refine (on_sys (H10.out.below HH.out).sys).mono ?_
  rintro e _ ⟨rfl, rfl⟩
  rw [f4]
  go_simp
  refine hK.out _ _ HH.out (fun hh => ?_)
  have HH' := Lib.hid hh
  clear hh hK K HH 
  have HH := Lib.hid HH'.out
  clear HH'
  try simp only [List.getElem_toArray, List.getElem_cons_succ, List.getElem_cons_zero, Act.put, List.setIfInBounds_toArray, List.set_cons_zero, List.set_cons_succ]
  refine wpAnyH_take (i := 13) (v := ?va13) rfl (by kernel_rfl) (by kernel_rfl) (by kernel_rfl) (fun _ _ _ h => h) (Or.inl ⟨by rfl, fun w' _ => ?ya13⟩) HH.out ?_
  case ya13 => (go_simp; try with_reducible rfl)
  try simp only [List.getElem_toArray, List.getElem_cons_succ, List.getElem_cons_zero, Act.put, List.setIfInBounds_toArray, List.set_cons_zero, List.set_cons_succ]
  refine wpAnyH_take (i := 14) (v := ?va14) rfl (by kernel_rfl) (by kernel_rfl) (by kernel_rfl) (fun _ _ _ h => h) (Or.inl ⟨by rfl, fun w' _ => ?ya14⟩) HH.out ?_
  case ya14 => (go_simp; try with_reducible rfl)
  refine wpAnyH_take (i := 15) (v := ?va15) rfl (by kernel_rfl) (by kernel_rfl) (by kernel_rfl) (fun _ _ _ h => h) (Or.inl ⟨by rfl, fun w' _ => ?ya15⟩) HH.out ?_
  case ya15 => (go_simp; try with_reducible rfl)
  try simp only [List.getElem_toArray, List.getElem_cons_succ, List.getElem_cons_zero, Act.put, List.setIfInBounds_toArray, List.set_cons_zero, List.set_cons_succ]
  refine wpAnyH_take (i := 16) (v := ?va16) rfl (by kernel_rfl) (by kernel_rfl) (by kernel_rfl) (fun _ _ _ h => h) (Or.inl ⟨by rfl, fun w' _ => ?ya16⟩) HH.out ?_
  case ya16 => (go_simp; try with_reducible rfl)
  try simp only [List.getElem_toArray, List.getElem_cons_succ, List.getElem_cons_zero, Act.put, List.setIfInBounds_toArray, List.set_cons_zero, List.set_cons_succ]
  refine wpAnyH_take (i := 17) (v := ?va17) rfl (by kernel_rfl) (by kernel_rfl) (by kernel_rfl) (fun _ _ _ h => h) (Or.inl ⟨by rfl, fun w' _ => ?ya17⟩) HH.out ?_
  case ya17 => (go_simp; try with_reducible rfl)
  try simp only [List.getElem_toArray, List.getElem_cons_succ, List.getElem_cons_zero, Act.put, List.setIfInBounds_toArray, List.set_cons_zero, List.set_cons_succ]
  refine wpAnyH_take (i := 18) (v := ?va18) rfl (by kernel_rfl) (by kernel_rfl) (by kernel_rfl) (fun _ _ _ h => h) (Or.inl ⟨by rfl, fun w' _ => ?ya18⟩) HH.out ?_
  case ya18 => (go_simp; try with_reducible rfl)
  refine wpAnyH_take (i := 19) (v := ?va19) rfl (by kernel_rfl) (by kernel_rfl) (by kernel_rfl) (fun _ _ _ h => h) (Or.inl ⟨by rfl, fun w' _ => ?ya19⟩) HH.out ?_
  case ya19 => (go_simp; try with_reducible rfl)
  try simp only [List.getElem_toArray, List.getElem_cons_succ, List.getElem_cons_zero, Act.put, List.setIfInBounds_toArray, List.set_cons_zero, List.set_cons_succ]
  refine wpAnyH_take (i := 20) (v := ?va20) rfl (by kernel_rfl) (by kernel_rfl) (by kernel_rfl) (fun _ _ _ h => h) (Or.inl ⟨by rfl, fun w' _ => ?ya20⟩) HH.out ?_
  case ya20 => (go_simp; try with_reducible rfl)
  try simp only [List.getElem_toArray, List.getElem_cons_succ, List.getElem_cons_zero, Act.put, List.setIfInBounds_toArray, List.set_cons_zero, List.set_cons_succ]
  refine wpAnyH_take (i := 21) (v := ?va21) rfl (by kernel_rfl) (by kernel_rfl) (by kernel_rfl) (fun _ _ _ h => h) (Or.inl ⟨by rfl, fun w' _ => ?ya21⟩) HH.out ?_
  case ya21 => (go_simp; try with_reducible rfl)
  try simp only [List.getElem_toArray, List.getElem_cons_succ, List.getElem_cons_zero, Act.put, List.setIfInBounds_toArray, List.set_cons_zero, List.set_cons_succ]
  refine wpAnyH_take (i := 22) (v := ?va22) rfl (by kernel_rfl) (by kernel_rfl) (by kernel_rfl) (fun _ _ _ h => h) (Or.inl ⟨by rfl, fun w' _ => ?ya22⟩) HH.out ?_
  case ya22 => (go_simp; try with_reducible rfl)
  try simp only [List.getElem_toArray, List.getElem_cons_succ, List.getElem_cons_zero, Act.put, List.setIfInBounds_toArray, List.set_cons_zero, List.set_cons_succ]
  refine wpAnyH_take (i := 23) (v := .agg (bva (secC 1))) rfl (by kernel_rfl) (by kernel_rfl) (by kernel_rfl) (fun _ _ _ h => h) (Or.inl ⟨by rfl, fun w' hw' => ?yl23⟩) HH.out ?_
  case yl23 => exact exec_load_at 38 (.tmp 52) rfl ⟨q, 0, none⟩ rfl (HC0.out w' hw') Try.underlying38 rfl HI.out
  try simp only [List.getElem_toArray, List.getElem_cons_succ, List.getElem_cons_zero, Act.put, List.setIfInBounds_toArray, List.set_cons_zero, List.set_cons_succ]
  refine wpAnyH_ready (rs := [24]) (by kernel_rfl) (by simp) (AllReadyH.cons rfl (fun K hK => ?_) AllReadyH.nil)
  go_simp
  refine (sector_any 1 _).mono ?_
  rintro e wv ⟨rfl, bw⟩
  go_simp
  refine hK.out _ _ (HH.out.trans (bw.mono HH.out.size)) (fun hh => ?_)
  have HH' := Lib.hid hh
  clear hh hK K HH bw
  have HH := Lib.hid HH'.out
  clear HH'
  try simp only [List.getElem_toArray, List.getElem_cons_succ, List.getElem_cons_zero, Act.put, List.setIfInBounds_toArray, List.set_cons_zero, List.set_cons_succ]
  refine wpAnyH_take (i := 25) (v := ?va25) rfl (by kernel_rfl) (by kernel_rfl) (by kernel_rfl) (fun _ _ _ h => h) (Or.inl ⟨by rfl, fun w' _ => ?ya25⟩) HH.out ?_
  case ya25 => (go_simp; try with_reducible rfl)
  try simp only [List.getElem_toArray, List.getElem_cons_succ, List.getElem_cons_zero, Act.put, List.setIfInBounds_toArray, List.set_cons_zero, List.set_cons_succ]
  refine wpAnyH_take (i := 26) (v := ?va26) rfl (by kernel_rfl) (by kernel_rfl) (by kernel_rfl) (fun _ _ _ h => h) (Or.inl ⟨by rfl, fun w' _ => ?ya26⟩) HH.out ?_
  case ya26 => (go_simp; try with_reducible rfl)
  refine wpAnyH_take (i := 27) (v := ?va27) rfl (by kernel_rfl) (by kernel_rfl) (by kernel_rfl) (fun _ _ _ h => h) (Or.inl ⟨by rfl, fun w' _ => ?ya27⟩) HH.out ?_
  case ya27 => (go_simp; try with_reducible rfl)
  try simp only [List.getElem_toArray, List.getElem_cons_succ, List.getElem_cons_zero, Act.put, List.setIfInBounds_toArray, List.set_cons_zero, List.set_cons_succ]
  refine wpAnyH_take (i := 28) (v := ?va28) rfl (by kernel_rfl) (by kernel_rfl) (by kernel_rfl) (fun _ _ _ h => h) (Or.inl ⟨by rfl, fun w' _ => ?ya28⟩) HH.out ?_
  case ya28 => (go_simp; try with_reducible rfl)
  try simp only [List.getElem_toArray, List.getElem_cons_succ, List.getElem_cons_zero, Act.put, List.setIfInBounds_toArray, List.set_cons_zero, List.set_cons_succ]
  refine wpAnyH_take (i := 29) (v := ?va29) rfl (by kernel_rfl) (by kernel_rfl) (by kernel_rfl) (fun _ _ _ h => h) (Or.inl ⟨by rfl, fun w' _ => ?ya29⟩) HH.out ?_
  case ya29 => (go_simp; try with_reducible rfl)
  try simp only [List.getElem_toArray, List.getElem_cons_succ, List.getElem_cons_zero, Act.put, List.setIfInBounds_toArray, List.set_cons_zero, List.set_cons_succ]
  refine wpAnyH_take (i := 30) (v := ?va30) rfl (by kernel_rfl) (by kernel_rfl) (by kernel_rfl) (fun _ _ _ h => h) (Or.inl ⟨by rfl, fun w' _ => ?ya30⟩) HH.out ?_
  case ya30 => (go_simp; try with_reducible rfl)
  refine wpAnyH_take (i := 31) (v := .int .u8 2) rfl (by kernel_rfl) (by kernel_rfl) (by kernel_rfl) (fun _ _ _ h => h) (Or.inl ⟨by rfl, fun w' hw' => ?yl31⟩) HH.out ?_
  case yl31 => (have hc := HC1.out w' hw'; go_simp; try with_reducible rfl)
  try simp only [List.getElem_toArray, List.getElem_cons_succ, List.getElem_cons_zero, Act.put, List.setIfInBounds_toArray, List.set_cons_zero, List.set_cons_succ]
  refine wpAnyH_take (i := 32) (v := ?va32) rfl (by kernel_rfl) (by kernel_rfl) (by kernel_rfl) (fun _ _ _ h => h) (Or.inl ⟨by rfl, fun w' _ => ?ya32⟩) HH.out ?_
  case ya32 => (go_simp; try with_reducible rfl)
  refine wpAnyH_take (i := 33) (v := ?va33) rfl (by kernel_rfl) (by kernel_rfl) (by kernel_rfl) (fun _ _ _ h => h) (Or.inl ⟨by rfl, fun w' _ => ?ya33⟩) HH.out ?_
  case ya33 => (go_simp; try with_reducible rfl)
  refine wpAnyH_take (i := 34) (v := ?va34) rfl (by kernel_rfl) (by kernel_rfl) (by kernel_rfl) (fun _ _ _ h => h) (Or.inl ⟨by rfl, fun w' _ => ?ya34⟩) HH.out ?_
  case ya34 => (go_simp; try with_reducible rfl)
  try simp only [List.getElem_toArray, List.getElem_cons_succ, List.getElem_cons_zero, Act.put, List.setIfInBounds_toArray, List.set_cons_zero, List.set_cons_succ]
  refine wpAnyH_take (i := 35) (v := ?va35) rfl (by kernel_rfl) (by kernel_rfl) (by kernel_rfl) (fun _ _ _ h => h) (Or.inl ⟨by rfl, fun w' _ => ?ya35⟩) HH.out ?_
  case ya35 => (go_simp; try with_reducible rfl)
  try simp only [List.getElem_toArray, List.getElem_cons_succ, List.getElem_cons_zero, Act.put, List.setIfInBounds_toArray, List.set_cons_zero, List.set_cons_succ]
  refine wpAnyH_take (i := 36) (v := ?va36) rfl (by kernel_rfl) (by kernel_rfl) (by kernel_rfl) (fun _ _ _ h => h) (Or.inl ⟨by rfl, fun w' _ => ?ya36⟩) HH.out ?_
  case ya36 => (go_simp; try with_reducible rfl)
  try simp only [List.getElem_toArray, List.getElem_cons_succ, List.getElem_cons_zero, Act.put, List.setIfInBounds_toArray, List.set_cons_zero, List.set_cons_succ]
  refine wpAnyH_take (i := 37) (v := ?va37) rfl (by kernel_rfl) (by kernel_rfl) (by kernel_rfl) (fun _ _ _ h => h) (Or.inl ⟨by rfl, fun w' _ => ?ya37⟩) HH.out ?_
  case ya37 => (go_simp; try with_reducible rfl)
  try simp only [List.getElem_toArray, List.getElem_cons_succ, List.getElem_cons_zero, Act.put, List.setIfInBounds_toArray, List.set_cons_zero, List.set_cons_succ]
  refine wpAnyH_take (i := 38) (v := .int .u8 0) rfl (by kernel_rfl) (by kernel_rfl) (by kernel_rfl) (fun _ _ _ h => h) (Or.inl ⟨by rfl, fun w' hw' => ?yl38⟩) HH.out ?_
  case yl38 => (have hc := HC2.out w' hw'; go_simp; try with_reducible rfl)
  try simp only [List.getElem_toArray, List.getElem_cons_succ, List.getElem_cons_zero, Act.put, List.setIfInBounds_toArray, List.set_cons_zero, List.set_cons_succ]
  refine wpAnyH_take (i := 39) (v := ?va39) rfl (by kernel_rfl) (by kernel_rfl) (by kernel_rfl) (fun _ _ _ h => h) (Or.inl ⟨by rfl, fun w' _ => ?ya39⟩) HH.out ?_
  case ya39 => (go_simp; try with_reducible rfl)
  refine wpAnyH_take (i := 40) (v := ?va40) rfl (by kernel_rfl) (by kernel_rfl) (by kernel_rfl) (fun _ _ _ h => h) (Or.inl ⟨by rfl, fun w' _ => ?ya40⟩) HH.out ?_
  case ya40 => (go_simp; try with_reducible rfl)
  try simp only [List.getElem_toArray, List.getElem_cons_succ, List.getElem_cons_zero, Act.put, List.setIfInBounds_toArray, List.set_cons_zero, List.set_cons_succ]
  refine wpAnyH_take (i := 41) (v := ?va41) rfl (by kernel_rfl) (by kernel_rfl) (by kernel_rfl) (fun _ _ _ h => h) (Or.inl ⟨by rfl, fun w' _ => ?ya41⟩) HH.out ?_
  case ya41 => (go_simp; try with_reducible rfl)
  try simp only [List.getElem_toArray, List.getElem_cons_succ, List.getElem_cons_zero, Act.put, List.setIfInBounds_toArray, List.set_cons_zero]
  refine wpAnyH_done (by kernel_rfl) ?_ _
  go_wp2_with fail
  go_ret
  exact ⟨rfl, H10.out.bel.trans (HH.out.mono H10.out.bel.size)⟩
end Go.Proofs.Ytfofkjcdohmkpaa.Kd
/-
  Devices that are in, and don't lie. No program.
-/
namespace Go.Proofs.Ytfofkjcdohmkpaa.Kd
/-- N devices of L sectors, that are in and don't lie, of which no more than m writes wait. -/
structure Fine (N L m : Nat) (S : Sy) : Prop where
  len : S.ds.length = N
  each : ∀ k, k < N → (S.at k).gone = false ∧ (S.at k).lies = false ∧ (S.at k).st.length = L ∧ (S.at k).wt.length ≤ m
variable {N L m k : Nat} {S : Sy} {i : Int} {s : List UInt8}
theorem at_map {f : Dv → Dv} {S : Sy} {P : Pw} {k : Nat} (hk : k < S.ds.length) : (Sy.mk P (S.ds.map f)).at k = f (S.at k) := by
  show (S.ds.map f).getD k noDv = f (S.ds.getD k noDv)
  rw [List.getD_eq_getElem?_getD, List.getD_eq_getElem?_getD, List.getElem?_map, List.getElem?_eq_getElem hk]; rfl
theorem Fine.count (h : Fine N L m S) : Fine N L m S.count := by
  unfold Sy.count
  split
  · refine ⟨by show (S.ds.map Dv.fall).length = N; rw [List.length_map, h.len], fun k hk => ?_⟩
    rw [at_map (by rw [h.len]; exact hk)]
    obtain ⟨h1, h2, h3, h4⟩ := h.each k hk
    unfold Dv.fall
    rw [if_neg (by rw [h1]; simp)]
    exact ⟨h1, h2, by show (fallL _ _ _ _ _).length = L; rw [fall_length]; exact h3, by show 0 ≤ m; omega⟩
  · exact ⟨h.len, h.each⟩
theorem Fine.put (h : Fine N L m S) (hk : k < N) {d : Dv} {m' : Nat} (hm : m ≤ m') (h1 : d.gone = false) (h2 : d.lies = false) (h3 : d.st.length = L) (h4 : d.wt.length ≤ m') : Fine N L m' (S.put k d) := by
  refine ⟨by rw [len_put]; exact h.len, fun j hj => ?_⟩
  rw [at_put _ (by rw [h.len]; exact hk)]
  split
  · exact ⟨h1, h2, h3, h4⟩
  · obtain ⟨a, b, c, d⟩ := h.each j hj
    exact ⟨a, b, c, by omega⟩
theorem Fine.more (h : Fine N L m S) {m' : Nat} (hm : m ≤ m') : Fine N L m' S := ⟨h.len, fun k hk => by obtain ⟨a, b, c, d⟩ := h.each k hk; exact ⟨a, b, c, by omega⟩⟩
theorem count_p : S.count.p = S.p.step := by unfold Sy.count; split <;> rfl
theorem put_p {d : Dv} : (S.put k d).p = S.p := rfl
theorem write_fine (h : Fine N L m S) (hk : k < N) (ho : S.p.off = false) (hi : 0 ≤ i ∧ i < (L : Int)) (hf : S.p.fails = false) :
    (S.write k i s).1 = 0 ∧ Fine N L (m + 1) (S.write k i s).2 ∧ (S.write k i s).2.p = S.p.step := by
  obtain ⟨h1, h2, h3, h4⟩ := h.each k hk
  have hr : refuseN S.p (S.at k) i = 0 := by unfold refuseN; rw [ho, h1, h3, if_neg (by simp), if_neg (by omega)]
  have hw : S.write k i s = (if S.p.fails then 13 else 0, (S.put k { S.at k with wt := (S.at k).wt ++ [(i.toNat, s)] }).count) := by unfold Sy.write; rw [if_neg (by rw [hr]; simp)]
  rw [hw, hf]
  exact ⟨rfl, (h.put (d := (S.at k).add i.toNat s) (m' := m + 1) hk (by omega) h1 h2 h3 (by show ((S.at k).wt ++ [(i.toNat, s)]).length ≤ m + 1; rw [List.length_append, List.length_singleton]; omega)).count, by rw [count_p]; rfl⟩
theorem write_out8 (h : Fine N L m S) (hk : k < N) (ho : S.p.off = false) (hi : i < 0 ∨ (L : Int) ≤ i) : S.write k i s = (2, S) := by
  obtain ⟨h1, h2, h3, h4⟩ := h.each k hk
  have hr : refuseN S.p (S.at k) i = 2 := by unfold refuseN; rw [ho, h1, h3, if_neg (by simp), if_pos hi]
  rw [write_no (by rw [hr]; simp), hr]
theorem write_down8 (ho : S.p.off = true) : S.write k i s = (13, S) := by
  have hr : refuseN S.p (S.at k) i = 13 := by unfold refuseN; rw [ho, if_pos (by simp)]
  rw [write_no (by rw [hr]; simp), hr]
theorem flush_down8 (ho : S.p.off = true) : S.flush k = (13, S) := flush_down (by rw [ho]; rfl)
theorem flush_fine (h : Fine N L m S) (hk : k < N) (ho : S.p.off = false) (hf : S.p.fails = false) :
    (S.flush k).1 = 0 ∧ Fine N L m (S.flush k).2 ∧ (S.flush k).2.p = S.p.step := by
  obtain ⟨h1, h2, h3, h4⟩ := h.each k hk
  have hw : S.flush k = (0, S.count.put k { S.at k with st := flushL (S.at k).st (S.at k).wt, wt := [] }) := by
    unfold Sy.flush; rw [if_neg (by rw [ho, h1]; simp), if_neg (by rw [hf]; simp), if_neg (by rw [h2]; simp)]
  rw [hw]
  exact ⟨rfl, h.count.put hk (Nat.le_refl _) h1 h2 (by show (flushL _ _).length = L; rw [flush_length]; exact h3) (by show 0 ≤ m; omega), by show S.count.p = _; rw [count_p]⟩
theorem flush_fails8 (h : Fine N L m S) (hk : k < N) (ho : S.p.off = false) (hf : S.p.fails = true) : S.flush k = (13, S.count) :=
  flush_fails (by rw [ho, (h.each k hk).1]; simp) hf
/-- Power that fails behind so many operations. -/
theorem step_more {P : Pw} {n : Nat} (h : P.left = (n : Int) + 1) : P.fails = false ∧ P.step.off = false ∧ P.step.left = (n : Int) := by
  unfold Pw.fails Pw.step
  rw [h, if_neg (by omega)]
  exact ⟨by rw [decide_eq_false (show ¬ ((n : Int) + 1 - 1 < 0) by omega)]; simp, by show decide _ = false; exact decide_eq_false (by omega), by show (n : Int) + 1 - 1 = n; omega⟩
theorem step_none {P : Pw} (h : P.left = 0) : P.fails = true ∧ P.step.off = true := by
  unfold Pw.fails Pw.step
  rw [h]
  exact ⟨rfl, rfl⟩
theorem step_never {P : Pw} (h : P.left = -1) : P.fails = false ∧ P.step = P := by
  unfold Pw.fails Pw.step
  rw [h]
  exact ⟨rfl, rfl⟩
theorem Fine.new (h : Fine N L m S) (x : Int) (hx : clampN x = L) : Fine (N + 1) L m (S.new x) := by
  have hlen : (S.new x).ds.length = N + 1 := by show (S.ds ++ [_]).length = _; rw [List.length_append, h.len]; rfl
  refine ⟨hlen, fun k hk => ?_⟩
  by_cases hkn : k < N
  · rw [show (S.new x).at k = S.at k from getD_left8 (by rw [h.len]; exact hkn)]
    exact h.each k hkn
  · have : k = S.ds.length := by rw [h.len]; omega
    subst this
    rw [show (S.new x).at S.ds.length = newDv (clampN x) from getD_last8]
    exact ⟨rfl, rfl, by show (List.replicate _ _).length = L; rw [List.length_replicate]; exact hx, by show 0 ≤ m; omega⟩
theorem fine_zero {L : Nat} : Fine 0 L 0 S0 := ⟨rfl, fun k hk => by omega⟩
theorem Fine.restart (h : Fine N L m S) : Fine N L m S.restart := ⟨h.len, h.each⟩
theorem Fine.fail (h : Fine N L m S) (x : Int) : Fine N L m (S.fail x) := ⟨h.len, h.each⟩
theorem failN_nat (n : Nat) : failN (n : Int) = n := by unfold failN; omega
end Go.Proofs.Ytfofkjcdohmkpaa.Kd
/-
  The reference's power, and all of its devices, in memory.
-/
namespace Go.Proofs.Ytfofkjcdohmkpaa.Kd
open Go.RowKit Go.Maps
attribute [local go_sem ↓] Go.wp_at_zero Go.wp_at_succ
/-- A device of the reference, whose rows are its own. -/
structure RdO (w : World) (g : Nat) (d : Dv) (A : Option Addr) (n c : Nat) (W : Option Addr) (m e : Nat) : Prop where
  blk : Blk w g #[.slice A n c, .slice W m e, .int .i64 d.kept, .int .i64 d.bytes, .bool d.lies, .bool d.gone] 46
  st : w.ownsRow 0 38 128 (.slice A n c) n (svs d.st)
  wt : w.ownsRow 0 128 129 (.slice W m e) m (wvs d.wt)
  stn : d.st.length = n
  wtn : d.wt.length = m
  ok : d.ok
  idle : d.gone = true → d.wt = []
def RdF (g : Nat) (A : Option Addr) (n c : Nat) (W : Option Addr) (m e : Nat) : Nat → Prop := fun q => q = g ∨ (Value.slice A n c).ownBlock = some q ∨ (Value.slice W m e).ownBlock = some q
def RdAt (w : World) (g : Nat) (d : Dv) (F : Nat → Prop) : Prop := ∃ A n c W m e, RdO w g d A n c W m e ∧ ∀ q, RdF g A n c W m e q → F q
section
variable {w w' : World} {g : Nat} {d : Dv} {F G T : Nat → Prop} {A W : Option Addr} {n c m e : Nat}
theorem RdO.below (h : RdO w g d A n c W m e) (hb : Below w.heap.size w w') : RdO w' g d A n c W m e :=
  ⟨h.blk.below hb, own_belowN h.st hb, own_belowN h.wt hb, h.stn, h.wtn, h.ok, h.idle⟩
theorem RdO.but (h : RdO w g d A n c W m e) (hb : But T w w') (hs : ∀ q, RdF g A n c W m e q → ¬ T q) : RdO w' g d A n c W m e :=
  ⟨h.blk.but hb (hs _ (.inl rfl)), Own.but h.st hb (fun _ hk => hs _ (.inr (.inl hk))), Own.but h.wt hb (fun _ hk => hs _ (.inr (.inr hk))), h.stn, h.wtn, h.ok, h.idle⟩
theorem RdO.lt (h : RdO w g d A n c W m e) : ∀ q, RdF g A n c W m e q → q < w.heap.size := by
  rintro q (rfl | hq | hq)
  · exact h.blk.lt
  · exact (h.st.lt q hq).2
  · exact (h.wt.lt q hq).2
theorem RdAt.below (h : RdAt w g d F) (hb : Below w.heap.size w w') : RdAt w' g d F := by
  obtain ⟨A, n, c, W, m, e, h, hF⟩ := h
  exact ⟨A, n, c, W, m, e, h.below hb, hF⟩
theorem RdAt.but (h : RdAt w g d F) (hb : But T w w') (hs : ∀ q, F q → T q → False) : RdAt w' g d F := by
  obtain ⟨A, n, c, W, m, e, h, hF⟩ := h
  exact ⟨A, n, c, W, m, e, h.but hb (fun q hq => hs q (hF q hq)), hF⟩
theorem row_cells {k e size base : Nat} {v : Value} {xs : List Value} (ho : w.ownsRow base e size v k xs) (q : Nat) (hq : v.ownBlock = some q) : ∃ cs, w.heap[q]? = some (.cells cs e (0, 0)) := by
  rcases ho.2 with ⟨rfl, _⟩ | ⟨g', cap, cur, rfl, _, h2, _⟩
  · cases hq
  · injection hq with hq; subst hq; exact ⟨_, h2⟩
theorem cells_ne {q : Nat} {cs cs' : Array Value} {t t' : TypeId} (h : w.heap[q]? = some (.cells cs t (0, 0))) (h' : w.heap[q]? = some (.cells cs' t' (0, 0))) : t = t' := by
  rw [h] at h'; injection h' with h'; injection h' with _ h'
/-- The device's block is none of its rows'; its rows are apart. -/
theorem RdO.apart (h : RdO w g d A n c W m e) : (∀ q, (Value.slice A n c).ownBlock = some q → q ≠ g) ∧ (∀ q, (Value.slice W m e).ownBlock = some q → q ≠ g) ∧ (∀ q, (Value.slice A n c).ownBlock = some q → (Value.slice W m e).ownBlock = some q → False) := by
  have hg : w.heap[g]? = some (.cells _ 46 (0, 0)) := h.blk
  refine ⟨fun q hq e => ?_, fun q hq e => ?_, fun q hq hq' => ?_⟩
  · obtain ⟨cs, hc⟩ := row_cells h.st q hq
    subst e; exact absurd (cells_ne hc hg) (by decide)
  · obtain ⟨cs, hc⟩ := row_cells h.wt q hq
    subst e; exact absurd (cells_ne hc hg) (by decide)
  · obtain ⟨cs, hc⟩ := row_cells h.st q hq
    obtain ⟨cs', hc'⟩ := row_cells h.wt q hq'
    exact absurd (cells_ne hc hc') (by decide)
theorem RdO.rd (h : RdO w g d A n c W m e) (hm : m ≤ maxLen) : RdD w.heap.size w g d A n c W m e := ⟨h.blk, Rd.ownN h.st, Rd.ownN h.wt, h.stn, h.wtn, h.ok, hm⟩
end
def ptrR (g : Nat) : Value := .pointer (some ⟨g, 0, none⟩)
structure RPowR (w : World) (p : Nat) (P : Pw) (xs : List Nat) (FA : Option Addr) (fc : Nat) : Prop where
  blk : Blk w p #[.slice FA xs.length fc, .bool P.off, .int .i64 P.left] 29
  row : w.ownsRow 0 33 1 (.slice FA xs.length fc) xs.length (xs.map ptrR)
  lo : -1 ≤ P.left
  hi : P.left ≤ 9223372036854775807
structure RSysR (w : World) (p : Nat) (xs : List Nat) (S : Sy) (Fs : Nat → Nat → Prop) (FA : Option Addr) (fc : Nat) : Prop where
  pow : RPowR w p S.p xs FA fc
  xl : xs.length = S.ds.length
  dev : ∀ i, i < S.ds.length → RdAt w (xs.getD i 0) (S.at i) (Fs i)
  apart : ∀ i j q, i < S.ds.length → j < S.ds.length → i ≠ j → Fs i q → Fs j q → False
  lt : ∀ i q, i < S.ds.length → Fs i q → q < w.heap.size
  other : ∀ i q, i < S.ds.length → Fs i q → q ≠ p ∧ ∀ k, (Value.slice FA xs.length fc).ownBlock = some k → q ≠ k
def RSysF (p : Nat) (xs : List Nat) (Fs : Nat → Nat → Prop) (FA : Option Addr) (fc n : Nat) : Nat → Prop := fun q =>
  q = p ∨ (Value.slice FA xs.length fc).ownBlock = some q ∨ ∃ i, i < n ∧ Fs i q
/-- A power's devices, of the reference, whose blocks lie in F. -/
def RSys (w : World) (p : Nat) (xs : List Nat) (S : Sy) (F : Nat → Prop) : Prop :=
  ∃ Fs FA fc, RSysR w p xs S Fs FA fc ∧ (∀ q, RSysF p xs Fs FA fc S.ds.length q → F q) ∧ ∀ q, F q → q < w.heap.size
/-- It returns v; the reference's devices are S now. -/
def RetR (v : Value) (p : Nat) (xs : List Nat) (S : Sy) (F : Nat → Prop) (w : World) (e : Ending) (w' : World) : Prop :=
  e = .returned v ∧ ∃ F', RSys w' p xs S F' ∧ (∀ q, F' q → F q ∨ w.heap.size ≤ q) ∧ But F w w'
section
variable {w w' : World} {p : Nat} {xs : List Nat} {S : Sy} {Fs : Nat → Nat → Prop} {F T : Nat → Prop} {FA : Option Addr} {fc : Nat}
theorem RPowR.below {P : Pw} (h : RPowR w p P xs FA fc) (hb : Below w.heap.size w w') : RPowR w' p P xs FA fc :=
  ⟨h.blk.below hb, own_belowN h.row hb, h.lo, h.hi⟩
theorem RPowR.but {P : Pw} (h : RPowR w p P xs FA fc) (hb : But T w w') (hp : ¬ T p) (hr : ∀ k, (Value.slice FA xs.length fc).ownBlock = some k → ¬ T k) : RPowR w' p P xs FA fc :=
  ⟨h.blk.but hb hp, Own.but h.row hb hr, h.lo, h.hi⟩
theorem RSysR.below (h : RSysR w p xs S Fs FA fc) (hb : Below w.heap.size w w') : RSysR w' p xs S Fs FA fc :=
  ⟨h.pow.below hb, h.xl, fun i hi => (h.dev i hi).below hb, h.apart, fun i q hi hq => Nat.lt_of_lt_of_le (h.lt i q hi hq) hb.size, h.other⟩
theorem RSys.below (h : RSys w p xs S F) (hb : Below w.heap.size w w') : RSys w' p xs S F := by
  obtain ⟨Fs, FA, fc, h, h1, h2⟩ := h
  exact ⟨Fs, FA, fc, h.below hb, h1, fun q hq => Nat.lt_of_lt_of_le (h2 q hq) hb.size⟩
theorem RSysR.but (h : RSysR w p xs S Fs FA fc) (hb : But T w w') (ht : ∀ q, RSysF p xs Fs FA fc S.ds.length q → ¬ T q) : RSysR w' p xs S Fs FA fc :=
  ⟨h.pow.but hb (ht _ (.inl rfl)) (fun _ hk => ht _ (.inr (.inl hk))), h.xl, fun i hi => (h.dev i hi).but hb (fun q hq hq' => ht q (.inr (.inr ⟨i, hi, hq⟩)) hq'), h.apart, fun i q hi hq => Nat.lt_of_lt_of_le (h.lt i q hi hq) hb.size, h.other⟩
theorem RSys.but (h : RSys w p xs S F) (hb : But T w w') (ht : ∀ q, F q → T q → False) : RSys w' p xs S F := by
  obtain ⟨Fs, FA, fc, h, h1, h2⟩ := h
  exact ⟨Fs, FA, fc, h.but hb (fun q hq hq' => ht q (h1 q hq) hq'), h1, fun q hq => Nat.lt_of_lt_of_le (h2 q hq) hb.size⟩
theorem RSys.lt (h : RSys w p xs S F) : ∀ q, F q → q < w.heap.size := by
  obtain ⟨_, _, _, _, _, h2⟩ := h
  exact h2
theorem RSys.ok (h : RSys w p xs S F) {k : Nat} (hk : k < S.ds.length) : (S.at k).ok := by
  obtain ⟨Fs, FA, fc, h, _, _⟩ := h
  obtain ⟨A, n, c, W, m, e, hd, _⟩ := h.dev k hk
  exact hd.ok
/-- What is done to one device. -/
theorem RSysR.upd (h : RSysR w p xs S Fs FA fc) {k : Nat} (hk : k < S.ds.length) (hb : But (Fs k) w w') {d : Dv} (hd : RdAt w' (xs.getD k 0) d (grow (Fs k) w w')) :
    RSysR w' p xs (S.put k d) (fun i => if i = k then grow (Fs k) w w' else Fs i) FA fc := by
  have hpl := h.pow.blk.lt
  refine ⟨h.pow.but hb (fun hq => (h.other k _ hk hq).1 rfl) (fun q hq hq' => (h.other k _ hk hq').2 q hq rfl), by rw [len_put]; exact h.xl, ?_, ?_, ?_, ?_⟩
  · intro i hi
    rw [len_put] at hi
    rw [at_put _ hk]
    by_cases e : i = k
    · subst e; rw [if_pos rfl, if_pos rfl]; exact hd
    · rw [if_neg e, if_neg (fun e' => e e'.symm)]
      exact (h.dev i hi).but hb (fun q h1 h2 => h.apart i k q hi hk e h1 h2)
  · intro i j q hi hj hne h1 h2
    rw [len_put] at hi hj
    by_cases ei : i = k
    · subst ei
      rw [if_pos rfl] at h1
      rw [if_neg (fun e => hne e.symm)] at h2
      rcases h1 with h1 | h1
      · exact h.apart i j q hi hj hne h1 h2
      · have := h.lt j q hj h2; omega
    · rw [if_neg ei] at h1
      by_cases ej : j = k
      · subst ej
        rw [if_pos rfl] at h2
        rcases h2 with h2 | h2
        · exact h.apart i j q hi hj hne h1 h2
        · have := h.lt i q hi h1; omega
      · rw [if_neg ej] at h2
        exact h.apart i j q hi hj hne h1 h2
  · intro i q hi hq
    rw [len_put] at hi
    by_cases e : i = k
    · subst e
      rw [if_pos rfl] at hq
      rcases hq with hq | hq
      · exact Nat.lt_of_lt_of_le (h.lt i q hi hq) hb.size
      · exact hq.2
    · rw [if_neg e] at hq
      exact Nat.lt_of_lt_of_le (h.lt i q hi hq) hb.size
  · intro i q hi hq
    rw [len_put] at hi
    by_cases e : i = k
    · subst e
      rw [if_pos rfl] at hq
      rcases hq with hq | hq
      · exact h.other i q hi hq
      · exact ⟨by omega, fun j hj => by have := (h.pow.row.lt j hj).2; omega⟩
    · rw [if_neg e] at hq
      exact h.other i q hi hq
/-- Any devices of those blocks, as a call tells it. -/
theorem RSysR.fin {w2 : World} {S2 : Sy} {Gs : Nat → Nat → Prop} {N : Nat} (h2 : RSysR w2 p xs S2 Gs FA fc) (hF : ∀ q, RSysF p xs Fs FA fc N q → F q) (hl : ∀ q, F q → q < w.heap.size) (hlen : S2.ds.length = N) (hg : ∀ i q, i < N → Gs i q → Fs i q ∨ w.heap.size ≤ q) (hb : But F w w2) :
    ∃ F', RSys w2 p xs S2 F' ∧ (∀ q, F' q → F q ∨ w.heap.size ≤ q) ∧ But F w w2 := by
  refine ⟨grow F w w2, ⟨Gs, FA, fc, h2, ?_, ?_⟩, ?_, hb⟩
  · rintro q (hq | hq | ⟨i, hi, hq⟩)
    · exact .inl (hF q (.inl hq))
    · exact .inl (hF q (.inr (.inl hq)))
    · rcases hg i q (hlen ▸ hi) hq with h3 | h3
      · exact .inl (hF q (.inr (.inr ⟨i, hlen ▸ hi, h3⟩)))
      · exact .inr ⟨h3, h2.lt i q hi hq⟩
  · rintro q (hq | hq)
    · exact Nat.lt_of_lt_of_le (hl q hq) hb.size
    · exact hq.2
  · rintro q (hq | hq)
    · exact .inl hq
    · exact .inr hq.1
/-- .. where one device was done something to. -/
theorem RSysR.ret (h : RSysR w p xs S Fs FA fc) (hF : ∀ q, RSysF p xs Fs FA fc S.ds.length q → F q) (hl : ∀ q, F q → q < w.heap.size) {k : Nat} (hk : k < S.ds.length) (hb : But (Fs k) w w') {d : Dv} (hd : RdAt w' (xs.getD k 0) d (grow (Fs k) w w')) :
    ∃ F', RSys w' p xs (S.put k d) F' ∧ (∀ q, F' q → F q ∨ w.heap.size ≤ q) ∧ But F w w' :=
  (h.upd hk hb hd).fin (N := S.ds.length) (Fs := Fs) hF hl (len_put _) (fun i q _ hq => by
    by_cases e : i = k
    · subst e; rw [if_pos rfl] at hq; exact hq.imp id (fun h => h.1)
    · rw [if_neg e] at hq; exact .inl hq) (hb.mono (fun q hq => hF q (.inr (.inr ⟨k, hk, hq⟩))))
/-- .. where the power changes. -/
theorem RSysR.power (h : RSysR w p xs S Fs FA fc) (hb : But (fun k => k = p) w w') {P : Pw} (hp : Blk w' p #[.slice FA xs.length fc, .bool P.off, .int .i64 P.left] 29) (h1 : -1 ≤ P.left ∧ P.left ≤ 9223372036854775807) :
    RSysR w' p xs ⟨P, S.ds⟩ Fs FA fc := by
  have hrow : ∀ k, (Value.slice FA xs.length fc).ownBlock = some k → k ≠ p := fun k hk e => by
    obtain ⟨cs, hc⟩ := row_cells h.pow.row k hk
    have hp' : w.heap[p]? = some (.cells _ 29 (0, 0)) := h.pow.blk
    subst e; exact absurd (cells_ne hc hp') (by decide)
  exact ⟨⟨hp, Own.but h.pow.row hb hrow, h1.1, h1.2⟩, h.xl, fun i hi => (h.dev i hi).but hb (fun q hq e => (h.other i q hi hq).1 e), h.apart, fun i q hi hq => Nat.lt_of_lt_of_le (h.lt i q hi hq) hb.size, h.other⟩
end
end Go.Proofs.Ytfofkjcdohmkpaa.Kd
/-
  Rot of live devices; the reference's Same over rows; what a nil device tells of Read, Write, Flush.
-/
namespace Go.Proofs.Ytfofkjcdohmkpaa.Kd
open Go.RowKit Go.Maps
attribute [local go_sem ↓] Go.wp_at_zero Go.wp_at_succ
section
variable {w0 w w' : World} {p : Nat} {gs : List Nat} {S S' : Sy} {F F' : Nat → Prop} {v : Value} {e : Ending}
theorem live_rot (h : Live w0 w p gs S F) (k : Nat) (hk : k < S.ds.length) (i a : Int) (x : UInt8) :
    Calls Try.prog 35 #[.pointer (some ⟨gs.getD k 0, 0, none⟩), .int .i64 i, .int .i64 a, .int .u8 (x.toNat : Int)] w (RetL (.bool (hasByte (S.at k).st.length i a)) w0 p gs (S.rot k i a x) F w) :=
  (rot_sys h.sys k hk i a x).mono fun _ _ hr => h.ret hr
theorem rsame_b {B B' : Nat} (A A' : Option Addr) (n m c d : Nat) (xs ys : List (List UInt8)) (w : World) (hn : xs.length = n) (hm : ys.length = m) (hx3 : ∀ x ∈ xs, x.length = 128) (hy3 : ∀ x ∈ ys, x.length = 128)
    (ha : Rd B w A (svs xs)) (hb : Rd B' w A' (svs ys)) (hn' : n ≤ maxLen) (hm' : m ≤ maxLen) :
    Calls Try.prog 21 #[.slice A n c, .slice A' m d] w (RetB (.int .i64 (sameN xs ys)) w) :=
  (rsame_any A A' n m c d xs ys w hn hm hx3 hy3 ha hb hn' hm').mono fun _ _ hr => by
    obtain ⟨rfl, k, rfl⟩ := hr
    exact ⟨rfl, ⟨rfl, rfl, rfl, Nat.le_refl _, fun _ _ => rfl⟩⟩
/-- A box of a sector that is none of the devices'. -/
def BoxS (w : World) (F : Nat → Prop) (q : Nat) (l : List UInt8) : Prop := Blk w q (bva l) 38 ∧ ¬ F q
theorem BoxS.step {q : Nat} {l : List UInt8} (h : BoxS w F q l) (h1 : ∀ q, F' q → F q ∨ w.heap.size ≤ q) (h2 : But F w w') : BoxS w' F' q l :=
  ⟨h.1.but h2 h.2, fun hf => by
    rcases h1 q hf with h3 | h3
    · exact h.2 h3
    · have := h.1.lt; omega⟩
theorem BoxS.below {q : Nat} {l : List UInt8} (h : BoxS w F q l) (hb : Below w.heap.size w w') : BoxS w' F q l := ⟨h.1.below hb, h.2⟩
theorem same_refl (xs : List (List UInt8)) : sameN xs xs = 1 := by rw [sameN, if_pos rfl]
end
set_option maxRecDepth 100000 in
set_option maxHeartbeats 3200000 in
theorem dread_nil (w : World) (i : Int) : Calls Try.prog 50 #[.pointer none, .int .i64 i] w (RetB (.tuple #[.agg (bva zeroS), .int .i64 1]) w) := by
  obtain ⟨z, hz0⟩ : ∃ z : List UInt8, z = zeroS := ⟨_, rfl⟩
  rw [← hz0]
  have hz : ∀ W, (zeroValue 38).run Try.prog W = .ok (.agg (bva z)) W := fun _ => by rw [hz0]; kernel_rfl
  have HBZ := Lib.hid (show ∀ W, (Instr.build 38 #[]).run Try.prog W = .ok (.agg (bva z)) W from fun _ => by rw [hz0]; kernel_rfl)
  have HI : Hid ((Try.prog.info? 38).map (·.size) = some (bva z).size) := by rw [bva_size, hz0, zeroS_length]; exact info_sec
  have R0 := Lib.hid (show Blk (w.alloc (.cells (bva z) 38)) w.heap.size (bva z) 38 from heap_alloc_new _ _)
  clear hz0
  go_enter Try.func50, Try.ntmps50
  go_wp2_with (first
    | (refine (reaches_nil i).mono ?_; rintro e w' ⟨rfl, rfl⟩)
    | (refine wpList_build rfl 38 #[] rfl (v := .agg (bva z)) ?hbld ?_; case hbld => exact HBZ.out _)
    | (refine wpList_store_row rfl 38 (.tmp 4) (.tmp 14) rfl w.heap.size (bva z) rfl rfl 38 (bva z) R0.out HI.out (by rfl) (bva_one _) ?_))
  exact bodyPost_ret (v := .tuple #[.agg (bva z), .int .i64 1]) (results_ct8 Try.results50 _ _ w.heap.size 38 (bva z) _ rfl (setRow_heap _ _ _ _ _ _ R0.out) Try.underlying38 rfl HI.out) rfl ⟨rfl, below_setRow ((Below.refl _ _).alloc (Nat.le_refl _) _) (Nat.le_refl _) _⟩
theorem dwrite_nil (w : World) (i : Int) (s : List UInt8) : Calls Try.prog 44 #[.pointer none, .int .i64 i, .agg (bva s)] w (RetB (.int .i64 1) w) := by
  go_enter Try.func44, Try.ntmps44
  go_wp2_with (first | (refine (reaches_nil i).mono ?_; rintro e w' ⟨rfl, rfl⟩))
  go_ret
  exact ⟨rfl, (Below.refl _ _).alloc (Nat.le_refl _) _⟩
theorem dflush_nil (w : World) : Calls Try.prog 45 #[.pointer none] w (Ret0 (.int .i64 1) w) := by
  go_enter Try.func45, Try.ntmps45
  go_wp2_with (first | (refine runs_nil.mono ?_; rintro e w' ⟨rfl, rfl⟩))
  go_ret
  exact ⟨rfl, rfl⟩
end Go.Proofs.Ytfofkjcdohmkpaa.Kd
/-
  An operation under a guard that holds: a whole array's load, a build.
-/
namespace Go.Proofs.Ytfofkjcdohmkpaa.Kd
open Go.RowKit Go.Maps
theorem wpList_execg8 {P : Program} {w w' : World} {ops : Array Oper} {rest : List Oper} {o : Oper} {a : Act} {Q : Exit → Act → World → Prop} {v : Value} (hgd : Region.wanted o (yielded ops a.tmps) = true)
    (h : (execOp a.eval o).run P w = .ok (.value v) w') (hk : wpList P ops Q rest (a.put o.dst v) w') : wpList P ops Q (o :: rest) a w := by
  unfold wpList
  rw [if_pos hgd]
  refine .inl ?_
  unfold Oper.wp
  rw [h]
  exact hk
theorem exec_build8 {P : Program} {w : World} {r : Operand → Value} {o : Oper} {v : Value} (t : TypeId) (parts : Array (Nat × Operand)) (ho : o.op = .build t parts) (h : (Instr.build t (parts.map fun (i, x) => (i, r x))).run P w = .ok v w) :
    (execOp r o).run P w = .ok (.value v) w := by
  unfold execOp
  simp only [ho, Sem.run_bind, h, Result.andThen_ok, Sem.run_pure]
/-- One device on power of its own, of n sectors: as it begins; a write of its first sector waits; that is flushed. -/
def ap0 (n : Nat) : Sy := ⟨⟨false, -1⟩, [newDv n]⟩
def ap1 (n : Nat) (s : List UInt8) : Sy := ⟨⟨false, -1⟩, [⟨List.replicate n zeroS, [(0, s)], 0, 0, false, false⟩]⟩
def ap2 (n : Nat) (s : List UInt8) : Sy := ⟨⟨false, -1⟩, [⟨(List.replicate n zeroS).set 0 s, [], 0, 0, false, false⟩]⟩
theorem ap_w {n : Nat} {s : List UInt8} (hn : 0 < n) : (ap0 n).write 0 0 s = (0, ap1 n s) := by
  have hr : refuseN (ap0 n).p ((ap0 n).at 0) ((0 : Nat) : Int) = 0 := by
    show (if (false || false) = true then (13 : Int) else if ((0 : Nat) : Int) < 0 ∨ ((List.replicate n zeroS).length : Int) ≤ ((0 : Nat) : Int) then 2 else 0) = 0
    rw [if_neg (by simp), if_neg (by rw [List.length_replicate]; omega)]
  exact write_yes (S := ap0 n) (k := 0) (n := 0) hr
theorem ap_f {n : Nat} {s : List UInt8} : (ap1 n s).flush 0 = (0, ap2 n s) := rfl
theorem ap_len0 (n : Nat) : ((ap0 n).at 0).st.length = n := by show (List.replicate n zeroS).length = n; rw [List.length_replicate]
theorem ap_len2 (n : Nat) (s : List UInt8) : ((ap2 n s).at 0).st.length = n := by show ((List.replicate n zeroS).set 0 s).length = n; rw [List.length_set, List.length_replicate]
theorem ap_r {n : Nat} {s : List UInt8} (hn : 0 < n) : readV (ap2 n s).p ((ap2 n s).at 0) 0 = .tuple #[.agg (bva s), .int .i64 0] := by
  have hr : refuseN (ap2 n s).p ((ap2 n s).at 0) 0 = 0 := by
    show (if (false || false) = true then (13 : Int) else if (0 : Int) < 0 ∨ (((List.replicate n zeroS).set 0 s).length : Int) ≤ 0 then 2 else 0) = 0
    rw [if_neg (by simp), if_neg (by rw [List.length_set, List.length_replicate]; omega)]
  rw [readV_yes hr]
  have : ((ap2 n s).at 0).now (0 : Int).toNat = s := by
    show ((List.replicate n zeroS).set 0 s).getD 0 zeroS = s
    rw [set_getD _ _ _ _ (by rw [List.length_replicate]; exact hn), if_pos rfl]
  rw [this]
/-- What is dumped lies in new memory. -/
theorem live_dump8 {w0 w : World} {p : Nat} {gs : List Nat} {S : Sy} {F : Nat → Prop} (h : Live w0 w p gs S F) (k : Nat) (hk : k < S.ds.length) :
    Calls Try.prog 22 #[.pointer (some ⟨gs.getD k 0, 0, none⟩)] w (fun e w' => ∃ A n c, e = .returned (.slice A n c) ∧ (S.at k).st.length = n ∧ RowS w' F (.slice A n c) n (S.at k).st ∧ (∀ q, (Value.slice A n c).ownBlock = some q → w0.heap.size ≤ q) ∧ Below w.heap.size w w') :=
  (dump_sys h.sys k hk).mono fun _ _ ⟨A, n, c, h0, h1, h2⟩ => by
    have hn : (S.at k).st.length = n := by have := h1.1; rw [svs_length (h.sys.ok hk).st] at this; omega
    exact ⟨A, n, c, h0, hn, ⟨⟨h1.1, h1.2.imp id (fun ⟨g, cap, cur, h3, _, h4⟩ => ⟨g, cap, cur, h3, Nat.zero_le _, h4⟩)⟩, fun q hq hf => by have := (h1.lt q hq).1; have := h.lt q hf; omega⟩, fun q hq => Nat.le_trans h.bel.size (h1.lt q hq).1, h2⟩
/-- Memory that is none of the devices', and new, changes. -/
theorem Live.but8 {w0 w w' : World} {p : Nat} {gs : List Nat} {S : Sy} {F T : Nat → Prop} (h : Live w0 w p gs S F) (hb : But T w w') (h1 : ∀ q, F q → T q → False) (h2 : ∀ q, T q → w0.heap.size ≤ q) : Live w0 w' p gs S F :=
  ⟨h.sys.but hb h1, h.new, h.bel.trans (hb.below (fun k hk hq => by have := h2 k hq; omega) h.bel.size)⟩
end Go.Proofs.Ytfofkjcdohmkpaa.Kd
/-
  How arguments that came in are opened: a []byte, a slice of them, and so on, as what my words say of them.
-/
namespace Go.Proofs.Ytfofkjcdohmkpaa
open Go.RowKit Go.ChangeShapes Go.WideShapes

/-- The byte of a number. -/
def byteOf (n : Int) : UInt8 := UInt8.ofNat n.toNat
theorem byteOf_val {n : Int} (h : (Lit.int .u8 n).wf = true) : ((byteOf n).toNat : Int) = n := by
  have hb := bounds_u8 h
  unfold byteOf
  rw [UInt8.toNat_ofNat']
  omega

section
variable {H : Type} {enc : TypeId × Value → H} {P : Program} {w : World} {base : Nat} {spare : Nat → Bool} {held : Bool}

theorem isB_of_trod {t e fuel : Nat} {v : Value} {x : DataW H × List MemPlace} (ht : P.underlying t = some (.slice e)) (he : P.underlying e = some (.int .u8)) (hc : P.cellsOf e = 1)
    (h : DataW.trod enc P w base spare held fuel t [v] = some x) : ∃ l, IsB w.heap.size w v l := by
  rcases open_ints ht he hc h with ⟨hcs, _⟩ | ⟨a, len, cap, zs, hcs, _, hl, hm, hz, _, hcell, hwz⟩
  · simp only [List.cons.injEq, and_true] at hcs
    subst hcs
    exact ⟨[], none, 0, rfl, Nat.le_refl _, Nat.zero_le _, Rd.none⟩
  · simp only [List.cons.injEq, and_true] at hcs
    subst hcs
    have hlz : len ≤ zs.length := by rw [hz]; split <;> omega
    have hlen : ((zs.take len).map byteOf).length = len := by simp; omega
    refine ⟨(zs.take len).map byteOf, some a, cap, by rw [hlen], by omega, hm, fun k u hu => ?_⟩
    have hk : k < len := by
      have := (List.getElem?_eq_some_iff.1 hu).1
      rw [bv_length, hlen] at this
      exact this
    have hkz : k < zs.length := by omega
    have hg := hcell k hkz
    have hd : zs.getD k 0 = zs[k] := by simp [List.getD, hkz]
    have hw := hwz _ (List.getElem_mem hkz)
    have hb := World.block_lt_of_cell? _ _ hg
    rw [add_block] at hb
    refine ⟨a, rfl, hb, ?_⟩
    rw [hg, hd]
    have e2 : (bv ((zs.take len).map byteOf))[k]? = some (.int .u8 zs[k]) := by
      rw [bv_get (by rw [hlen]; exact hk)]
      simp only [List.getElem_map, List.getElem_take]
      rw [byteOf_val hw]
    rw [← hu, e2]

theorem isL_of_trod {α : Type} {R : Value → α → Prop} {t e fuel : Nat} {v : Value} {x : DataW H × List MemPlace} (ht : P.underlying t = some (.slice e)) (hc : P.cellsOf e = 1)
    (each : ∀ (n : Nat) (u : Value) (y : DataW H × List MemPlace), DataW.trod enc P w base spare held n e [u] = some y → ∃ l, R u l)
    (h : DataW.trod enc P w base spare held fuel t [v] = some x) : ∃ ls, IsL w.heap.size w R v ls := by
  rcases Go.Deep.open_slice1 ht hc h with ⟨hcs, _⟩ | ⟨a, len, cap, m, n, V, D, Pl, hcs, _, hl, hm, hmm, _, hx⟩
  · simp only [List.cons.injEq, and_true] at hcs
    subst hcs
    exact ⟨[], none, 0, rfl, Nat.le_refl _, Nat.zero_le _, RdL.none⟩
  · simp only [List.cons.injEq, and_true] at hcs
    subst hcs
    have hlm : len ≤ m := by rw [hmm]; split <;> omega
    have hall : ∀ j, j ≤ len → ∃ ls : List α, ls.length = j ∧ ∀ (k : Nat) (l : α), ls[k]? = some l → R (V k) l := by
      intro j
      induction j with
      | zero => exact fun _ => ⟨[], rfl, fun k l hk => by simp at hk⟩
      | succ j ih =>
        intro hj
        obtain ⟨ls, hls, hR⟩ := ih (by omega)
        obtain ⟨l, hl'⟩ := each n (V j) _ (hx j (by omega)).2
        refine ⟨ls ++ [l], by simp [hls], fun k l' hk => ?_⟩
        rcases Nat.lt_trichotomy k j with hlt | rfl | hgt
        · rw [List.getElem?_append_left (by omega)] at hk
          exact hR k l' hk
        · rw [List.getElem?_append_right (by omega), hls, Nat.sub_self] at hk
          injection hk with hk
          subst hk
          exact hl'
        · rw [List.getElem?_eq_none (by simp; omega)] at hk
          cases hk
    obtain ⟨ls, hls, hR⟩ := hall len (Nat.le_refl _)
    refine ⟨ls, some a, cap, by rw [hls], by omega, hm, (List.range len).map V, by simp [hls], fun k u hu => ?_, fun k u l hu hl' => ?_⟩
    · have hk : k < len := by have := (List.getElem?_eq_some_iff.1 hu).1; simpa using this
      have hg := (hx k (by omega)).1
      have hb := World.block_lt_of_cell? _ _ hg
      rw [add_block] at hb
      have e2 : ((List.range len).map V)[k]? = some (V k) := by simp [hk]
      exact ⟨a, rfl, hb, by rw [hg, ← hu, e2]⟩
    · have hk : k < len := by have := (List.getElem?_eq_some_iff.1 hu).1; simpa using this
      have e2 : ((List.range len).map V)[k]? = some (V k) := by simp [hk]
      rw [e2] at hu
      injection hu with hu
      subst hu
      exact hR k l hl'

/-- A []byte that came in. -/
theorem open_bytes {t e : Nat} {a : Option Addr} {len cap : Nat} {d : DataW H} {ps : List MemPlace} (ht : P.underlying t = some (.slice e)) (he : P.underlying e = some (.int .u8)) (hc : P.cellsOf e = 1)
    (h : DataW.Trod enc P w base spare held t (.slice a len cap) d ps) : ∃ l : List UInt8, l.length = len ∧ len ≤ cap ∧ cap ≤ maxLen ∧ Rd w.heap.size w a (bv l) := by
  obtain ⟨fuel, hf⟩ := h
  obtain ⟨l, A, c, hv, h1, h2, h3⟩ := isB_of_trod ht he hc hf
  injection hv with e1 e2 e3
  subst e1; subst e2; subst e3
  exact ⟨l, rfl, h1, h2, h3⟩
/-- A [][]byte that came in. -/
theorem open_rows {t s e : Nat} {a : Option Addr} {len cap : Nat} {d : DataW H} {ps : List MemPlace} (ht : P.underlying t = some (.slice s)) (hs : P.underlying s = some (.slice e)) (he : P.underlying e = some (.int .u8))
    (hcs : P.cellsOf s = 1) (hc : P.cellsOf e = 1)
    (h : DataW.Trod enc P w base spare held t (.slice a len cap) d ps) : ∃ ls : List (List UInt8), ls.length = len ∧ len ≤ cap ∧ cap ≤ maxLen ∧ RdB w.heap.size w a ls := by
  obtain ⟨fuel, hf⟩ := h
  obtain ⟨ls, A, c, hv, h1, h2, h3⟩ := isL_of_trod (R := IsB w.heap.size w) ht hcs (fun _ _ _ hy => isB_of_trod hs he hc hy) hf
  injection hv with e1 e2 e3
  subst e1; subst e2; subst e3
  exact ⟨ls, rfl, h1, h2, h3⟩
/-- A [][][]byte that came in. -/
theorem open_rows3 {t r s e : Nat} {a : Option Addr} {len cap : Nat} {d : DataW H} {ps : List MemPlace} (ht : P.underlying t = some (.slice r)) (hr : P.underlying r = some (.slice s)) (hs : P.underlying s = some (.slice e)) (he : P.underlying e = some (.int .u8))
    (hcr : P.cellsOf r = 1) (hcs : P.cellsOf s = 1) (hc : P.cellsOf e = 1)
    (h : DataW.Trod enc P w base spare held t (.slice a len cap) d ps) : ∃ ls : List (List (List UInt8)), ls.length = len ∧ len ≤ cap ∧ cap ≤ maxLen ∧ RdL w.heap.size w (IsL w.heap.size w (IsB w.heap.size w)) a ls := by
  obtain ⟨fuel, hf⟩ := h
  obtain ⟨ls, A, c, hv, h1, h2, h3⟩ := isL_of_trod (R := IsL w.heap.size w (IsB w.heap.size w)) ht hcr (fun _ _ _ hy => isL_of_trod hr hcs (fun _ _ _ hz => isB_of_trod hs he hc hz) hy) hf
  injection hv with e1 e2 e3
  subst e1; subst e2; subst e3
  exact ⟨ls, rfl, h1, h2, h3⟩
end

end Go.Proofs.Ytfofkjcdohmkpaa
/-
  Deeds: how a row of them that came in is opened, and how one is read.
-/
namespace Go.Proofs.Ytfofkjcdohmkpaa.Kd
open Go.RowKit
/-- A deed: On, Kind, N, M, C. -/
structure Dd where
  on : Int
  kind : Int
  n : Int
  m : Int
  c : UInt8
def ddV (x : Dd) : List Value := [.int .i64 x.on, .int .i64 x.kind, .int .i64 x.n, .int .i64 x.m, .int .u8 (x.c.toNat : Int)]
def ddN : Dd := ⟨0, 0, 0, 0, 0⟩
def dds : List Dd → List Value
  | [] => []
  | x :: l => ddV x ++ dds l
theorem dds_append (a b : List Dd) : dds (a ++ b) = dds a ++ dds b := by
  induction a with
  | nil => rfl
  | cons x l ih => simp [dds, ih]
theorem ddV_length (x : Dd) : (ddV x).length = 5 := rfl
theorem dds_length (l : List Dd) : (dds l).length = l.length * 5 := by
  induction l with
  | nil => rfl
  | cons x l ih => rw [dds, List.length_append, ddV_length, ih, List.length_cons]; omega
theorem dds_get {l : List Dd} {k : Nat} (hk : k < l.length) {j : Nat} {v : Value} (hv : (ddV l[k])[j]? = some v) : (dds l)[5 * k + j]? = some v := by
  induction l generalizing k with
  | nil => simp at hk
  | cons x l ih =>
    cases k with
    | zero =>
      have hj : j < 5 := (List.getElem?_eq_some_iff.1 hv).1
      rw [dds, Nat.mul_zero, Nat.zero_add, List.getElem?_append_left (by rw [ddV_length]; omega)]
      exact hv
    | succ k =>
      rw [dds, List.getElem?_append_right (by rw [ddV_length]; omega), ddV_length, show 5 * (k + 1) + j - 5 = 5 * k + j by omega]
      exact ih (by simpa using hk) (by simpa using hv)
/-- All of a deed's numbers are numbers. -/
def Dd.ok (x : Dd) : Prop := (-9223372036854775808 ≤ x.on ∧ x.on ≤ 9223372036854775807) ∧ (-9223372036854775808 ≤ x.kind ∧ x.kind ≤ 9223372036854775807) ∧ (-9223372036854775808 ≤ x.n ∧ x.n ≤ 9223372036854775807) ∧ (-9223372036854775808 ≤ x.m ∧ x.m ≤ 9223372036854775807)
/-- A deed of a row, read. -/
theorem rd_deed {B : Nat} {w : World} {A : Option Addr} {l : List Dd} (h : Rd B w A (dds l)) {k : Nat} (hk : k < l.length) :
    ∃ ad, A = some ad ∧ ad.block < B ∧ ∀ j v, (ddV l[k])[j]? = some v → w.cell? ((ad.add (k * 5)).add j) = some v := by
  obtain ⟨ad, hA, hb, _⟩ := h _ _ (dds_get hk (j := 0) (v := .int .i64 l[k].on) rfl)
  refine ⟨ad, hA, hb, fun j v hv => ?_⟩
  obtain ⟨ad', hA', _, hc⟩ := h _ _ (dds_get hk hv)
  rw [hA] at hA'; injection hA' with hA'
  rw [hA', add_twice8, Nat.mul_comm k 5]
  exact hc
section
open Go.ChangeShapes Go.WideShapes
variable {H : Type} {enc : TypeId × Value → H} {w : World} {base : Nat} {spare : Nat → Bool} {held : Bool}
theorem deed_fields : (Try.prog.fieldsOf 36).toList.map (fun f => (f.name == "_", f.type, f.offset)) = [(false, 3, 0), (false, 3, 1), (false, 3, 2), (false, 3, 3), (false, 5, 4)] := by kernel_rfl
theorem deed_under : Try.prog.underlying 36 = some (.struct (Try.prog.fieldsOf 36)) := by kernel_rfl
set_option maxRecDepth 100000 in
theorem deed_of_trod {fuel : Nat} {cs : List Value} {x : DataW H × List MemPlace} (h : DataW.trod enc Try.prog w base spare held fuel 36 cs = some x) :
    ∃ y : Dd, cs = ddV y ∧ y.ok := by
  obtain ⟨xs, n, _, _, hl, hlen, hf⟩ := DataW.trod_struct deed_under h
  have hfs := deed_fields
  have hcn : Try.prog.cellsOf 36 = 5 := by kernel_rfl
  have hci : Try.prog.cellsOf 3 = 1 := by kernel_rfl
  have hcb : Try.prog.cellsOf 5 = 1 := by kernel_rfl
  generalize Try.prog.fieldsOf 36 = fs at hfs hlen hf
  rw [hcn] at hl
  obtain ⟨L⟩ := fs
  have hL5 : L.length = 5 := by simpa using congrArg List.length hfs
  match L, hL5, hfs, hf, hlen with
  | [f0, f1, f2, f3, f4], _, hfs, hf, hlen =>
    simp only [List.map_cons, List.map_nil, List.cons.injEq, Prod.mk.injEq, and_true] at hfs
    obtain ⟨⟨_, t0, o0⟩, ⟨_, t1, o1⟩, ⟨_, t2, o2⟩, ⟨_, t3, o3⟩, ⟨_, t4, o4⟩⟩ := hfs
    have h5 : xs.length = 5 := hlen
    have g0 := hf 0 f0 rfl
    have g1 := hf 1 f1 rfl
    have g2 := hf 2 f2 rfl
    have g3 := hf 3 f3 rfl
    have g4 := hf 4 f4 rfl
    rw [t0, o0, hci, List.getElem?_eq_getElem (by omega)] at g0
    rw [t1, o1, hci, List.getElem?_eq_getElem (by omega)] at g1
    rw [t2, o2, hci, List.getElem?_eq_getElem (by omega)] at g2
    rw [t3, o3, hci, List.getElem?_eq_getElem (by omega)] at g3
    rw [t4, o4, hcb, List.getElem?_eq_getElem (by omega)] at g4
    obtain ⟨a0, e0, _, w0⟩ := DataW.trod_int Try.underlying3 g0
    obtain ⟨a1, e1, _, w1⟩ := DataW.trod_int Try.underlying3 g1
    obtain ⟨a2, e2, _, w2⟩ := DataW.trod_int Try.underlying3 g2
    obtain ⟨a3, e3, _, w3⟩ := DataW.trod_int Try.underlying3 g3
    obtain ⟨a4, e4, _, w4⟩ := DataW.trod_int Try.underlying5 g4
    match cs, hl with
    | [u0, u1, u2, u3, u4], _ =>
      simp at e0 e1 e2 e3 e4
      exact ⟨⟨a0, a1, a2, a3, byteOf a4⟩, by rw [e0, e1, e2, e3, e4]; unfold ddV; rw [byteOf_val w4], bounds_i64 w0, bounds_i64 w1, bounds_i64 w2, bounds_i64 w3⟩
/-- A row of deeds that came in. -/
theorem open_deeds {a : Option Addr} {len cap : Nat} {d : DataW H} {ps : List MemPlace} (h : DataW.Trod enc Try.prog w base spare held 22 (.slice a len cap) d ps) :
    ∃ l : List Dd, l.length = len ∧ len ≤ cap ∧ cap ≤ maxLen ∧ Rd w.heap.size w a (dds l) ∧ ∀ y ∈ l, y.ok := by
  obtain ⟨fuel, hf⟩ := h
  have hf' : DataW.trod enc Try.prog w base spare held fuel 22 [Value.slice a len cap] = some (d, ps) := hf
  have hcn : Try.prog.cellsOf 36 = 5 := by kernel_rfl
  rcases Go.Deep.open_slice Try.underlying22 hf' with ⟨hcs, _⟩ | ⟨a', len', cap', m, n, D, Pl, hcs, _, hl, hm, hmm, _, hx⟩
  · simp only [List.cons.injEq, and_true] at hcs
    injection hcs with e1 e2 e3
    subst e1; subst e2; subst e3
    exact ⟨[], rfl, Nat.le_refl _, Nat.zero_le _, Rd.none, fun y hy => by simp at hy⟩
  · simp only [List.cons.injEq, and_true] at hcs
    injection hcs with e1 e2 e3
    subst e1; subst e2; subst e3
    have hlm : len ≤ m := by rw [hmm]; split <;> omega
    rw [hcn] at hx
    have hall : ∀ j, j ≤ len → ∃ l : List Dd, l.length = j ∧ (∀ y ∈ l, y.ok) ∧ ∀ k u, (dds l)[k]? = some u → w.cell? (a'.add k) = some u := by
      intro j
      induction j with
      | zero => exact fun _ => ⟨[], rfl, fun y hy => by simp at hy, fun k u hu => by simp [dds] at hu⟩
      | succ j ih =>
        intro hj
        obtain ⟨l, hl', hb, hc⟩ := ih (by omega)
        obtain ⟨cs', h1, h2⟩ := hx j (by omega)
        obtain ⟨y, hy, hyb⟩ := deed_of_trod h2
        obtain ⟨_, _, hcl⟩ := World.cells?_some h1
        have hnl : (dds l).length = j * 5 := by rw [dds_length, hl']
        refine ⟨l ++ [y], by simp [hl'], fun z hz => ?_, fun k u hu => ?_⟩
        · rcases List.mem_append.1 hz with hz | hz
          · exact hb z hz
          · rw [List.mem_singleton] at hz; rw [hz]; exact hyb
        · rw [dds_append] at hu
          rcases Nat.lt_or_ge k (dds l).length with hk | hk
          · rw [List.getElem?_append_left hk] at hu
            exact hc k u hu
          · rw [List.getElem?_append_right hk, dds, dds, List.append_nil, ← hy, hnl] at hu
            have hk5 : k - j * 5 < 5 := by
              have := (List.getElem?_eq_some_iff.1 hu).1
              rw [hy, ddV_length] at this; exact this
            have h3 := hcl (k - j * 5) hk5
            rw [add_twice8, show j * 5 + (k - j * 5) = k by omega, hu] at h3
            exact h3
    obtain ⟨l, hl', hb, hc⟩ := hall len (Nat.le_refl _)
    refine ⟨l, hl', hl, hm, fun k u hu => ⟨a', rfl, ?_, hc k u hu⟩, hb⟩
    have := World.block_lt_of_cell? _ _ (hc k u hu)
    rw [add_block] at this
    exact this
end
end Go.Proofs.Ytfofkjcdohmkpaa.Kd
/-
  What a deed does to devices, and what it tells. A result of a number and a boxed array.
-/
namespace Go.Proofs.Ytfofkjcdohmkpaa.Kd
open Go.RowKit Go.Maps
/-- What a deed tells, what is read, and the devices behind it. -/
def Sy.deed (S : Sy) (k : Nat) (x : Dd) : Int × List UInt8 × Sy :=
  if x.kind = 0 then ((S.write k x.n (secC x.c)).1, zeroS, (S.write k x.n (secC x.c)).2)
  else if x.kind = 1 then ((S.flush k).1, zeroS, (S.flush k).2)
  else if x.kind = 2 then (refuseN S.p (S.at k) x.n, readS S.p (S.at k) x.n, S)
  else if x.kind = 3 then (0, zeroS, S.put k ((S.at k).tear x.n x.m))
  else if x.kind = 4 then (0, zeroS, S.put k ((S.at k).lie ((x.c.toNat : Int) % 2 == 1)))
  else if x.kind = 5 then (0, zeroS, S.put k ((S.at k).out ((x.c.toNat : Int) % 2 == 1)))
  else if x.kind = 6 then (if hasByte (S.at k).st.length x.n x.m then 1 else 0, zeroS, S.rot k x.n x.m x.c)
  else if x.kind = 7 then (0, zeroS, S.fail x.n)
  else if x.kind = 8 then (0, zeroS, S.restart)
  else (0, zeroS, S)
def dda (x : Dd) : Array Value := (ddV x).toArray
/-- A box that is none of the devices'. -/
def BoxG (w : World) (F : Nat → Prop) (q : Nat) (cs : Array Value) (t : TypeId) : Prop := Blk w q cs t ∧ ¬ F q
section
variable {w0 w w' : World} {F F' : Nat → Prop} {q : Nat} {cs : Array Value} {t : TypeId}
theorem BoxG.step (h : BoxG w F q cs t) (h1 : ∀ q, F' q → F q ∨ w.heap.size ≤ q) (h2 : But F w w') : BoxG w' F' q cs t :=
  ⟨h.1.but h2 h.2, fun hf => by
    rcases h1 q hf with h3 | h3
    · exact h.2 h3
    · have := h.1.lt; omega⟩
theorem BoxG.below (h : BoxG w F q cs t) (hb : Below w.heap.size w w') : BoxG w' F q cs t := ⟨h.1.below hb, h.2⟩
theorem fin_do {wb w2 w3 : World} {p : Nat} {gs : List Nat} {S S2 : Sy} {F2 : Nat → Prop} {b : Nat} (h : Live w0 w p gs S F) (hb : Below w.heap.size w wb) (h2 : Live w0 w2 p gs S2 F2) (hs : ∀ q, F2 q → F q ∨ wb.heap.size ≤ q) (hbt : But F wb w2)
    (h3 : But (fun q => q = b) w2 w3) (hb1 : w.heap.size ≤ b) (hb2 : b < wb.heap.size) : ∃ F', Live w0 w3 p gs S2 F' ∧ (∀ q, F' q → F q ∨ w.heap.size ≤ q) ∧ But F w w3 := by
  have hnb : ∀ q, F2 q → q = b → False := fun q hq e => by
    rcases hs q hq with h4 | h4
    · have := h.lt q h4; omega
    · omega
  have hw0 := h.bel.size
  refine ⟨F2, h2.but8 h3 hnb (fun q e => by omega), fun q hq => (hs q hq).imp id (fun h4 => Nat.le_trans hb.size h4), ?_⟩
  have h4 : But F w wb := But.of_below hb (fun q a c => absurd a (by omega))
  exact but_step (h4.trans hbt) h3 (fun q e => .inr (by omega))
theorem fin_told {wb w2 w3 : World} {p : Nat} {xs : List Nat} {S S2 : Sy} {F2 : Nat → Prop} {b : Nat} (h : RSys w p xs S F) (hb : Below w.heap.size w wb) (h2 : RSys w2 p xs S2 F2) (hs : ∀ q, F2 q → F q ∨ wb.heap.size ≤ q) (hbt : But F wb w2)
    (h3 : But (fun q => q = b) w2 w3) (hb1 : w.heap.size ≤ b) (hb2 : b < wb.heap.size) : ∃ F', RSys w3 p xs S2 F' ∧ (∀ q, F' q → F q ∨ w.heap.size ≤ q) ∧ But F w w3 := by
  have hnb : ∀ q, F2 q → q = b → False := fun q hq e => by
    rcases hs q hq with h4 | h4
    · have := h.lt q h4; omega
    · omega
  refine ⟨F2, h2.but h3 hnb, fun q hq => (hs q hq).imp id (fun h4 => Nat.le_trans hb.size h4), ?_⟩
  have h4 : But F w wb := But.of_below hb (fun q a c => absurd a (by omega))
  exact but_step (h4.trans hbt) h3 (fun q e => .inr (by omega))
end
theorem results_tc8 {P : Program} {fn : Func} {p u : Tmp} {ty : TypeId} (h : fn.results = #[.tmp u, .cell p ty]) (tmps : Array Value) (w : World) (g : Nat) (t : TypeId) (cs : Array Value) (d : TypeDesc)
    (hp : tmps.getD p undef = .pointer (some ⟨g, 0, none⟩)) (hg : Blk w g cs t) (hu : P.underlying ty = some d) (hd : (match d with | .struct _ | .array _ _ => true | _ => false) = true) (hi : (P.info? ty).map (·.size) = some cs.size) :
    (results fn tmps).run P w = .ok (.tuple #[tmps.getD u undef, .agg cs]) w := by
  have hp' : tmps[p]?.getD undef = .pointer (some ⟨g, 0, none⟩) := by simpa using hp
  simp [results, h, hp', asAddr, run_loadVar_row w g t ty cs (0, 0) d hg hu hd hi]
end Go.Proofs.Ytfofkjcdohmkpaa.Kd
/-
  What is told to the reference's devices: Tear, Out; what they tell: Read.
-/
namespace Go.Proofs.Ytfofkjcdohmkpaa.Kd
open Go.RowKit Go.Maps
attribute [local go_sem ↓] Go.wp_at_zero Go.wp_at_succ
section
variable {w w' : World} {p g : Nat} {xs : List Nat} {S : Sy} {F : Nat → Prop} {d d' : Dv} {A W : Option Addr} {n c m e : Nat}
theorem RdO.tell (h : RdO w g d A n c W m e) (hb : But (fun q => q = g) w w') (hst : d'.st = d.st) (hwt : d'.wt = d.wt) (hk : 0 ≤ d'.kept) (hby : 0 ≤ d'.bytes ∧ d'.bytes ≤ 128) (hid : d'.gone = true → d'.wt = [])
    (hblk : Blk w' g #[.slice A n c, .slice W m e, .int .i64 d'.kept, .int .i64 d'.bytes, .bool d'.lies, .bool d'.gone] 46) : RdO w' g d' A n c W m e :=
  ⟨hblk, by rw [hst]; exact Own.but h.st hb (fun q hq => h.apart.1 q hq), by rw [hwt]; exact Own.but h.wt hb (fun q hq => h.apart.2.1 q hq), by rw [hst]; exact h.stn, by rw [hwt]; exact h.wtn,
    ⟨by rw [hst]; exact h.ok.st, by rw [hst, hwt]; exact h.ok.wt, hk, hby, by rw [hst]; exact h.ok.len⟩, hid⟩
theorem RdO.at_ (h : RdO w' g d A n c W m e) {A0 W0 : Option Addr} {n0 c0 m0 e0 : Nat} (hF : ∀ q, RdF g A0 n0 c0 W0 m0 e0 q → F q) (h1 : ∀ q, (Value.slice A n c).ownBlock = some q → F q) (h2 : ∀ q, (Value.slice W m e).ownBlock = some q → F q) : RdAt w' g d (grow F w w') :=
  ⟨A, n, c, W, m, e, h, by
    rintro q (h3 | h3 | h3)
    · exact .inl (hF q (.inl h3))
    · exact .inl (h1 q h3)
    · exact .inl (h2 q h3)⟩
theorem rtear_sys (h : RSys w p xs S F) (k : Nat) (hk : k < S.ds.length) (x y : Int) :
    Calls Try.prog 56 #[.pointer (some ⟨xs.getD k 0, 0, none⟩), .int .i64 x, .int .i64 y] w (RetR (.tuple #[]) p xs (S.put k ((S.at k).tear x y)) F w) := by
  obtain ⟨Fs, FA, fc, h, hF, hl⟩ := h
  obtain ⟨A, n, c, W, m, e, hd, hDF⟩ := h.dev k hk
  refine (rtear_any _ _ (S.at k).kept (S.at k).bytes (S.at k).lies (S.at k).gone x y hd.blk).mono ?_
  rintro e2 w2 ⟨rfl, hb, hbt⟩
  have hd2 : RdO w2 (xs.getD k 0) ((S.at k).tear x y) A n c W m e := hd.tell hbt rfl rfl (keptN_ok x) (bytesN_ok y) hd.idle hb
  exact ⟨rfl, h.ret hF hl hk (hbt.mono (fun q e => hDF q (.inl e))) (hd2.at_ hDF (fun q hq => hDF q (.inr (.inl hq))) (fun q hq => hDF q (.inr (.inr hq))))⟩
theorem rout_sys (h : RSys w p xs S F) (k : Nat) (hk : k < S.ds.length) (on : Bool) :
    Calls Try.prog 57 #[.pointer (some ⟨xs.getD k 0, 0, none⟩), .bool on] w (RetR (.tuple #[]) p xs (S.put k ((S.at k).out on)) F w) := by
  obtain ⟨Fs, FA, fc, h, hF, hl⟩ := h
  obtain ⟨A, n, c, W, m, e, hd, hDF⟩ := h.dev k hk
  refine (rout_any _ _ (S.at k).kept (S.at k).bytes (S.at k).lies (S.at k).gone on hd.blk).mono ?_
  rintro e2 w2 ⟨rfl, hb, hbt⟩
  refine ⟨rfl, h.ret hF hl hk (hbt.mono (fun q e => hDF q (.inl e))) ?_⟩
  cases on with
  | false =>
    have hd2 : RdO w2 (xs.getD k 0) ((S.at k).out false) A n c W m e := hd.tell hbt rfl rfl hd.ok.kept hd.ok.bytes (fun e => by cases e) hb
    exact hd2.at_ hDF (fun q hq => hDF q (.inr (.inl hq))) (fun q hq => hDF q (.inr (.inr hq)))
  | true =>
    cases hg : (S.at k).gone with
    | true =>
      have hw := hd.idle hg
      rw [hg] at hb
      have hd2 : RdO w2 (xs.getD k 0) ((S.at k).out true) A n c W m e := hd.tell hbt rfl (by show [] = _; rw [hw]) hd.ok.kept hd.ok.bytes (fun _ => rfl) hb
      exact hd2.at_ hDF (fun q hq => hDF q (.inr (.inl hq))) (fun q hq => hDF q (.inr (.inr hq)))
    | false =>
      rw [hg] at hb
      have hd2 : RdO w2 (xs.getD k 0) ((S.at k).out true) A n c none 0 0 :=
        ⟨hb, Own.but hd.st hbt (fun q hq => hd.apart.1 q hq), ⟨rfl, .inl ⟨rfl, rfl⟩⟩, hd.stn, rfl, ⟨hd.ok.st, fun x hx => absurd hx List.not_mem_nil, hd.ok.kept, hd.ok.bytes, hd.ok.len⟩, fun _ => rfl⟩
      exact hd2.at_ hDF (fun q hq => hDF q (.inr (.inl hq))) (fun q hq => by cases hq)
theorem rread_sys (h : RSys w p xs S F) (k : Nat) (hk : k < S.ds.length) (i : Int) (hm : (S.at k).wt.length ≤ maxLen) :
    Calls Try.prog 55 #[.pointer (some ⟨xs.getD k 0, 0, none⟩), .pointer (some ⟨p, 0, none⟩), .int .i64 i] w (RetB (readV S.p (S.at k) i) w) := by
  obtain ⟨Fs, FA, fc, h, hF, hl⟩ := h
  obtain ⟨A, n, c, W, m, e, hd, hDF⟩ := h.dev k hk
  exact rread_any (hd.rd (by rw [← hd.wtn]; exact hm)) _ _ _ h.pow.blk i
/-- What is told at once: whether it lies. -/
theorem RSysR.lie {Fs : Nat → Nat → Prop} {FA : Option Addr} {fc : Nat} (h : RSysR w p xs S Fs FA fc) (hF : ∀ q, RSysF p xs Fs FA fc S.ds.length q → F q) (hl : ∀ q, F q → q < w.heap.size) (k : Nat) (hk : k < S.ds.length) (on : Bool) :
    ∃ F', RSys (w.setCell ⟨xs.getD k 0, 4, none⟩ (.bool on)) p xs (S.put k ((S.at k).lie on)) F' ∧ (∀ q, F' q → F q ∨ w.heap.size ≤ q) ∧ But F w (w.setCell ⟨xs.getD k 0, 4, none⟩ (.bool on)) := by
  obtain ⟨A, n, c, W, m, e, hd, hDF⟩ := h.dev k hk
  have hbt : But (fun q => q = xs.getD k 0) w (w.setCell ⟨xs.getD k 0, 4, none⟩ (.bool on)) := but_one _
  have hd2 : RdO (w.setCell ⟨xs.getD k 0, 4, none⟩ (.bool on)) (xs.getD k 0) ((S.at k).lie on) A n c W m e := hd.tell hbt rfl rfl hd.ok.kept hd.ok.bytes hd.idle (blk_setN8 hd.blk 4 _)
  exact h.ret hF hl hk (hbt.mono (fun q e => hDF q (.inl e))) (hd2.at_ hDF (fun q hq => hDF q (.inr (.inl hq))) (fun q hq => hDF q (.inr (.inr hq))))
end
end Go.Proofs.Ytfofkjcdohmkpaa.Kd
/-
  A byte that rots, twice. No program.
-/
namespace Go.Proofs.Ytfofkjcdohmkpaa.Kd
theorem rotS_get {s : List UInt8} {a j : Nat} {x : UInt8} (hj : j < s.length) : (rotS s a x).getD j 0 = if j = a then s.getD j 0 ^^^ x else s.getD j 0 := by
  unfold rotS
  rw [List.getD_eq_getElem?_getD, List.getElem?_set]
  by_cases h : a = j
  · subst h; rw [if_pos rfl, if_pos hj, if_pos rfl]; rfl
  · rw [if_neg h, if_neg (fun e => h e.symm), List.getD_eq_getElem?_getD]
theorem rotL_get {st : List (List UInt8)} {n a i : Nat} {x : UInt8} (hi : i < st.length) : (rotL st n a x).getD i zeroS = if i = n then rotS (st.getD i zeroS) a x else st.getD i zeroS := by
  unfold rotL
  rw [List.getD_eq_getElem?_getD, List.getElem?_set]
  by_cases h : n = i
  · subst h; rw [if_pos rfl, if_pos hi, if_pos rfl]; rfl
  · rw [if_neg h, if_neg (fun e => h e.symm), List.getD_eq_getElem?_getD]
theorem rotS_back (s : List UInt8) (a : Nat) (x : UInt8) (ha : a < s.length) : rotS (rotS s a x) a x = s := by
  unfold rotS
  rw [List.set_set]
  have h1 : (s.set a (s.getD a 0 ^^^ x)).getD a 0 = s.getD a 0 ^^^ x := by
    rw [List.getD_eq_getElem?_getD, List.getElem?_set, if_pos rfl, if_pos ha]; rfl
  rw [h1, UInt8.xor_assoc, UInt8.xor_self, UInt8.xor_zero, List.getD_eq_getElem?_getD, List.getElem?_eq_getElem ha]
  exact List.set_getElem_self ..
theorem rotL_back (st : List (List UInt8)) (n a : Nat) (x : UInt8) (hn : n < st.length) (ha : a < (st.getD n zeroS).length) : rotL (rotL st n a x) n a x = st := by
  have h1 : (rotL st n a x).getD n zeroS = rotS (st.getD n zeroS) a x := by rw [rotL_get hn, if_pos rfl]
  rw [rotL, h1, rotS_back _ _ _ ha]
  unfold rotL
  rw [List.set_set, List.getD_eq_getElem?_getD, List.getElem?_eq_getElem hn]
  exact List.set_getElem_self ..
variable {S : Sy} {k : Nat} {i a : Int} {x : UInt8}
theorem rot_p : (S.rot k i a x).p = S.p := by unfold Sy.rot; split <;> rfl
theorem rot_len : (S.rot k i a x).ds.length = S.ds.length := by unfold Sy.rot; split; exact len_put _; rfl
/-- What is stable behind it. -/
theorem rot_at (hk : k < S.ds.length) : ((S.rot k i a x).at k).st = if hasByte (S.at k).st.length i a then rotL (S.at k).st i.toNat a.toNat x else (S.at k).st := by
  unfold Sy.rot
  split
  · rw [at_put _ hk, if_pos rfl]; rfl
  · rfl
theorem rot_at_len (hk : k < S.ds.length) : ((S.rot k i a x).at k).st.length = (S.at k).st.length := by
  rw [rot_at hk]; split
  · exact rotL_length
  · rfl
theorem hasByte_iff {n : Nat} {i a : Int} : hasByte n i a = true ↔ 0 ≤ i ∧ i < (n : Int) ∧ 0 ≤ a ∧ a < 128 := by
  unfold hasByte; simp only [Bool.and_eq_true, decide_eq_true_eq, and_assoc]
/-- Twice: as it was. -/
theorem rot_twice (hk : k < S.ds.length) (h3 : ∀ s ∈ (S.at k).st, s.length = 128) : (((S.rot k i a x).rot k i a x).at k).st = (S.at k).st := by
  rw [rot_at (by rw [rot_len]; exact hk), rot_at_len hk, rot_at hk]
  by_cases h : hasByte (S.at k).st.length i a = true
  · rw [if_pos h, if_pos h]
    have := hasByte_iff.1 h
    exact rotL_back _ _ _ _ (by omega) (by rw [getD_ok h3]; omega)
  · rw [if_neg h, if_neg h]
/-- What stands at a place behind it. -/
theorem rot_byte (hk : k < S.ds.length) (h3 : ∀ s ∈ (S.at k).st, s.length = 128) {u v : Nat} (hu : u < (S.at k).st.length) (hv : v < 128) :
    ((((S.rot k i a x).at k).st.getD u zeroS).getD v 0) = if hasByte (S.at k).st.length i a = true ∧ (u : Int) = i ∧ (v : Int) = a then ((S.at k).st.getD u zeroS).getD v 0 ^^^ x else ((S.at k).st.getD u zeroS).getD v 0 := by
  rw [rot_at hk]
  by_cases h : hasByte (S.at k).st.length i a = true
  · have hb := hasByte_iff.1 h
    rw [if_pos h, rotL_get hu]
    by_cases h1 : u = i.toNat
    · rw [if_pos h1, rotS_get (by rw [getD_ok h3]; exact hv)]
      by_cases h2 : v = a.toNat
      · rw [if_pos h2, if_pos ⟨h, by omega, by omega⟩]
      · rw [if_neg h2, if_neg (fun e => h2 (by omega))]
    · rw [if_neg h1, if_neg (fun e => h1 (by omega))]
  · rw [if_neg h, if_neg (fun e => h e.1)]
end Go.Proofs.Ytfofkjcdohmkpaa.Kd
/-
  The contract of the reference's Rot.
-/
namespace Go.Proofs.Ytfofkjcdohmkpaa.Kd
open Go.RowKit Go.Maps
attribute [local go_sem ↓] Go.wp_at_zero Go.wp_at_succ
theorem step_wp8 {c : Bool} {P Q : Prop} (hc : c = true) (h : P) : (if c = true then P else Q) := by rw [if_pos hc]; exact h
set_option maxRecDepth 100000 in
set_option maxHeartbeats 6400000 in
theorem rrot_yes {w : World} {g : Nat} {d : Dv} {A : Option Addr} {n c : Nat} {W : Option Addr} {m e : Nat} (h : RdO w g d A n c W m e) (i a : Nat) (hi : i < n) (ha : a < 128) (x : UInt8) :
    Calls Try.prog 58 #[.pointer (some ⟨g, 0, none⟩), .int .i64 (i : Int), .int .i64 (a : Int), .int .u8 (x.toNat : Int)] w (fun e' w' => e' = .returned (.bool true) ∧ RdO w' g (d.rot i a x) A n c W m e ∧ But (fun q => (Value.slice A n c).ownBlock = some q) w w') := by
  obtain ⟨z, hz0⟩ : ∃ z : List UInt8, z = zeroS := ⟨_, rfl⟩
  have hz : ∀ W, (zeroValue 38).run Try.prog W = .ok (.agg (bva z)) W := fun _ => by rw [hz0]; kernel_rfl
  have HZ3 := Lib.hid (show z.length = 128 by rw [hz0]; exact zeroS_length)
  obtain ⟨G, rfl⟩ : ∃ q, A = some ⟨q, 0, none⟩ := by
    rcases own_addr8 h.st with ⟨_, h0, _⟩ | h0
    · omega
    · exact h0
  have hil : i < d.st.length := by rw [h.stn]; exact hi
  obtain ⟨y, hy⟩ : ∃ y, y = d.st.getD i zeroS := ⟨_, rfl⟩
  have hye : d.st[i] = y := by rw [hy, List.getD_eq_getElem?_getD, List.getElem?_eq_getElem hil]; rfl
  have hy3 : y.length = 128 := by rw [hy]; exact getD_ok h.ok.st i
  have HY3 := Lib.hid hy3
  have HIY : Hid ((Try.prog.info? 38).map (·.size) = some (bva y).size) := by show _ = _; rw [bva_size, hy3]; exact info_sec
  have HIYL : Hid ((Try.prog.info? 38).map (·.size) = some (bv y).length) := by show _ = _; rw [bv_length, hy3]; exact info_sec
  obtain ⟨b, hb⟩ : ∃ b, b = y.getD a 0 := ⟨_, rfl⟩
  have HX := Lib.hid (bits_xor8 b x)
  have HB := Lib.hid hb
  have HCE := Lib.hid (show ∀ w', Below w.heap.size w w' → ∀ jj v, (bv y)[jj]? = some v → w'.cell? ((⟨G, i * 128, none⟩ : Addr).add jj) = some v from fun w' hb jj v hv => by
    obtain ⟨ad', hA', _, hc'⟩ := rd_sec ((Rd.ownN h.st).below hb) h.ok.st hil
    injection hA' with hA'; subst hA'
    have h := hc' jj v (by rw [hye]; exact hv)
    rwa [show (⟨G, 0, none⟩ : Addr).add (i * 128) = ⟨G, i * 128, none⟩ by rw [Addr.add_mid, Nat.zero_add]] at h)
  have H := Lib.hid h
  have HYD := Lib.hid hy
  have HIL := Lib.hid hil
  have c0 : w.cell? ⟨g, 0, none⟩ = some (.slice (some ⟨G, 0, none⟩) n c) := h.blk.cell 0
  have HB0 := Lib.hid (show Blk (w.alloc (.cells (bva z) 38)) w.heap.size (bva z) 38 from heap_alloc_new _ _)
  have i0 : (0 : Int) ≤ (i : Int) := by omega
  have i1 : (i : Int) < (n : Int) := by omega
  have a0 : (0 : Int) ≤ (a : Int) := by omega
  have a1 : (a : Int) < 128 := by omega
  have HI := Lib.hid hi
  have HA := Lib.hid ha
  clear h hil hy hye hy3 hb hz0 hi ha
  go_enter Try.func58, Try.ntmps58
  go_wp2_with (show wpList _ _ _ ({ dst := some 35, op := .load 38 (.tmp 34), type := _, pos := _, after := _, guard := _ } :: _) _ _; apply Classical.byContradiction; intro hneg)
  refine hneg ?_
  clear hneg
  refine wpList_load_at rfl 38 (.tmp 34) rfl (⟨G, i * 128, none⟩ : Addr) rfl (HCE.out _ (Below.refl _ _)) Try.underlying38 rfl HIYL.out ?_
  change wpList _ _ _ _ (Act.put _ _ (.agg (bva y))) _
  go_wp2_with (show wpList _ _ _ ({ dst := none, op := .store 38 (.tmp 9) (.tmp 35), type := _, pos := _, after := _, guard := _ } :: _) _ _; apply Classical.byContradiction; intro hneg)
  refine hneg ?_
  clear hneg
  refine wpList_store_row rfl 38 (.tmp 9) (.tmp 35) rfl w.heap.size (bva y) rfl rfl 38 (bva z) HB0.out HIY.out (by rw [bva_size, bva_size, HY3.out, HZ3.out]) (bva_one _) ?_
  obtain ⟨wb, hwb⟩ : ∃ wb, wb = (w.alloc (.cells (bva z) 38)).setRow w.heap.size (bva y) := ⟨_, rfl⟩
  have HV := Lib.hid (show Blk wb w.heap.size (bva y) 38 from by rw [hwb]; exact setRow_heap _ _ _ _ _ _ HB0.out)
  have BB := Lib.hid (show Below w.heap.size w wb from by rw [hwb]; exact below_setRow ((Below.refl _ _).alloc (Nat.le_refl _) _) (Nat.le_refl _) _)
  rw [← hwb]
  clear hwb HB0
  have D0 := HV.out.cellb (k := a) (by rw [HY3.out]; exact HA.out)
  have D1 := HV.out.free a
  rw [← HB.out] at D0
  go_upto_region 5 with fail
  rw [HX.out]
  have HV2 := Lib.hid (show Blk (wb.setCell ⟨w.heap.size, a, none⟩ (.int .u8 ((b ^^^ x).toNat : Int))) w.heap.size (bva (rotS y a x)) 38 from by have h := HV.out.setb a (b ^^^ x) rfl; rwa [show y.set a (b ^^^ x) = rotS y a x by rw [rotS, HB.out]] at h)
  have BB2 := Lib.hid (show Below w.heap.size w (wb.setCell ⟨w.heap.size, a, none⟩ (.int .u8 ((b ^^^ x).toNat : Int))) from BB.out.setCell (Nat.le_refl _) _)
  obtain ⟨wd, hwd⟩ : ∃ wd, wd = wb.setCell ⟨w.heap.size, a, none⟩ (.int .u8 ((b ^^^ x).toNat : Int)) := ⟨_, rfl⟩
  rw [← hwd] at HV2 BB2 ⊢
  clear hwd D0 D1 HV BB c0
  have HR3 := Lib.hid (show (rotS y a x).length = 128 by rw [rotS_length, HY3.out])
  have HIR : Hid ((Try.prog.info? 38).map (·.size) = some (bva (rotS y a x)).size) := by show _ = _; rw [bva_size, HR3.out]; exact info_sec
  have hc0 : ∀ w', Below w.heap.size w w' → w'.cell? ⟨g, 0, none⟩ = some (.slice (some ⟨G, 0, none⟩) n c) := fun w' hb => (H.out.blk.below hb).cell 0
  have HC0 := Lib.hid hc0
  clear hc0
  refine wp_region_held_drew (S := fun w' => w'.cell? ⟨g, 0, none⟩ = some (.slice (some ⟨G, 0, none⟩) n c) ∧ Blk w' w.heap.size (bva (rotS y a x)) 38) (by kernel_rfl) ⟨HC0.out _ BB2.out.drew, HV2.out.below (Below.refl _ _).drew⟩ (fun hh => ?_)
  have HH := Lib.hid hh
  clear hh
  refine wpAnyH_take (i := 0) (v := ?vr0) rfl (by kernel_rfl) (by kernel_rfl) (by kernel_rfl) (fun _ _ _ h => h) (Or.inl ⟨by rfl, fun w' _ => ?yr0⟩) HH.out ?_
  case yr0 => (go_simp; try with_reducible rfl)
  refine wpAnyH_take (i := 1) (v := ?vr1) rfl (by kernel_rfl) (by kernel_rfl) (by kernel_rfl) (fun _ _ _ h => h) (Or.inl ⟨by rfl, fun w' _ => ?yr1⟩) HH.out ?_
  case yr1 => (go_simp; try with_reducible rfl)
  try simp only [List.getElem_toArray, List.getElem_cons_succ, List.getElem_cons_zero, Act.put, List.setIfInBounds_toArray, List.set_cons_zero, List.set_cons_succ]
  refine wpAnyH_take (i := 2) (v := ?vr2) rfl (by kernel_rfl) (by kernel_rfl) (by kernel_rfl) (fun _ _ _ h => h) (Or.inl ⟨by rfl, fun w' _ => ?yr2⟩) HH.out ?_
  case yr2 => (go_simp; try with_reducible rfl)
  refine wpAnyH_take (i := 3) (v := .slice (some ⟨G, 0, none⟩) n c) rfl (by kernel_rfl) (by kernel_rfl) (by kernel_rfl) (fun _ _ _ h => h) (Or.inl ⟨by rfl, fun w' hw' => ?yr3⟩) HH.out ?_
  case yr3 => (have hc := hw'.1; go_simp; try with_reducible rfl)
  refine wpAnyH_take (i := 4) (v := ?vr4) rfl (by kernel_rfl) (by kernel_rfl) (by kernel_rfl) (fun _ _ _ h => h) (Or.inl ⟨by rfl, fun w' _ => ?yr4⟩) HH.out ?_
  case yr4 => (go_simp; try with_reducible rfl)
  try simp only [List.getElem_toArray, List.getElem_cons_succ, List.getElem_cons_zero, Act.put, List.setIfInBounds_toArray, List.set_cons_zero, List.set_cons_succ]
  refine wpAnyH_take (i := 5) (v := .agg (bva (rotS y a x))) rfl (by kernel_rfl) (by kernel_rfl) (by kernel_rfl) (fun _ _ _ h => h) (Or.inl ⟨by rfl, fun w' hw' => ?yr5⟩) HH.out ?_
  case yr5 => exact exec_load 38 (.tmp 9) rfl rfl hw'.2 Try.underlying38 rfl HIR.out
  refine wpAnyH_take (i := 6) (v := ?vr6) rfl (by kernel_rfl) (by kernel_rfl) (by kernel_rfl) (fun _ _ _ h => h) (Or.inl ⟨by rfl, fun w' _ => ?yr6⟩) HH.out ?_
  case yr6 => (go_simp; try with_reducible rfl)
  refine wpAnyH_ready (rs := [7]) (by kernel_rfl) (by simp) (AllReadyH.cons rfl (fun K hK => ?_) AllReadyH.nil)
  refine step_wp8 (by rfl) ?_
  have HD := Lib.hid (H.out.below BB2.out.drew)
  have HOM := Lib.hid (own_setMid (o := i * 128) (vs := bv (rotS y a x)) HD.out.st (by rw [bv_length, HR3.out]; have := HI.out; omega))
  refine wp_store_mid 38 (.tmp 49) (.tmp 48) rfl G (i * 128) (bva (rotS y a x)) rfl rfl (by have h := HOM.out.2; rwa [show (bv (rotS y a x)).length = (bva (rotS y a x)).size by rw [bv_length, bva_size]] at h) HIR.out (bva_one _) ?_
  generalize hwv : World.setCells _ _ _ _ = wv
  have HBV := Lib.hid (show But (fun q => (Value.slice (some ⟨G, 0, none⟩) n c).ownBlock = some q) w wv by rw [← hwv]; exact (But.of_below BB2.out.drew (fun q h1 h2 => absurd h1 (by omega))).grown (grown_setCells _ _ _ _) (fun j hj => .inl hj))
  have HBW := Lib.hid (show But (fun q => (Value.slice (some ⟨G, 0, none⟩) n c).ownBlock = some q) wd.drew wv by rw [← hwv]; exact (But.refl _).grown (grown_setCells _ _ _ _) (fun j hj => .inl hj))
  have HSP := Lib.hid (svs_splice (st := d.st) (k := i) (s := rotS y a x) H.out.ok.st HR3.out HIL.out)
  have HDV := Lib.hid (show RdO wv g (d.rot i a x) (some ⟨G, 0, none⟩) n c W m e from ⟨H.out.blk.but HBV.out (fun hq => H.out.apart.1 g hq rfl), (show wv.ownsRow 0 38 128 _ n (svs (rotL d.st i a x)) from by rw [rotL, ← HYD.out, HSP.out, ← hwv]; exact HOM.out.1), Own.but H.out.wt HBV.out (fun q hq hq' => H.out.apart.2.2 q hq' hq), (show (rotL d.st i a x).length = n by rw [rotL_length]; exact H.out.stn), H.out.wtn, rot_ok H.out.ok i a x, H.out.idle⟩)
  have HGW := Lib.hid (show ¬ (Value.slice (some ⟨G, 0, none⟩) n c).ownBlock = some w.heap.size from fun hq => by have := (H.out.st.lt _ hq).2; omega)
  clear hwv HOM HSP HD
  refine hK.out _ _ ⟨HDV.out.blk.cell 0, (HV2.out.below (Below.refl _ _).drew).but HBW.out HGW.out⟩ (fun hh => ?_)
  clear hh hK K HH HBW HGW
  try simp only [List.getElem_toArray, List.getElem_cons_succ, List.getElem_cons_zero, Act.put, List.setIfInBounds_toArray, List.set_cons_zero, List.set_cons_succ]
  refine wpAnyH_done (by kernel_rfl) ?_ _
  go_wp2_with fail
  go_ret
  exact ⟨rfl, HDV.out, HBV.out⟩
/-- There is no such byte. -/
theorem rrot_no {w : World} {g : Nat} {WV KV BV LV GV : Value} (A : Option Addr) (n c : Nat) (i a : Int) (x : UInt8) (hp : Blk w g #[.slice A n c, WV, KV, BV, LV, GV] 46) (h : hasByte n i a = false) :
    Calls Try.prog 58 #[.pointer (some ⟨g, 0, none⟩), .int .i64 i, .int .i64 a, .int .u8 (x.toNat : Int)] w (Ret0 (.bool false) w) := by
  have c0 : w.cell? ⟨g, 0, none⟩ = some (.slice A n c) := hp.cell 0
  have hno : ¬ (0 ≤ i ∧ i < (n : Int) ∧ 0 ≤ a ∧ a < 128) := fun e => by rw [hasByte_iff.2 e] at h; cases h
  clear hp h
  by_cases h1 : i < 0
  · clear hno
    go_enter Try.func58, Try.ntmps58
    go_wp2_with fail
    go_ret
    exact ⟨rfl, rfl⟩
  · by_cases h2 : (n : Int) ≤ i
    · clear hno
      go_enter Try.func58, Try.ntmps58
      go_wp2_with fail
      go_ret
      exact ⟨rfl, rfl⟩
    · by_cases h3 : a < 0
      · clear hno
        go_enter Try.func58, Try.ntmps58
        go_wp2_with fail
        go_ret
        exact ⟨rfl, rfl⟩
      · have h4 : 128 ≤ a := by omega
        clear hno
        go_enter Try.func58, Try.ntmps58
        go_wp2_with fail
        go_ret
        exact ⟨rfl, rfl⟩
theorem rrot_sys {w : World} {p : Nat} {xs : List Nat} {S : Sy} {F : Nat → Prop} (h : RSys w p xs S F) (k : Nat) (hk : k < S.ds.length) (i a : Int) (x : UInt8) :
    Calls Try.prog 58 #[.pointer (some ⟨xs.getD k 0, 0, none⟩), .int .i64 i, .int .i64 a, .int .u8 (x.toNat : Int)] w (RetR (.bool (hasByte (S.at k).st.length i a)) p xs (S.rot k i a x) F w) := by
  have h' := h
  obtain ⟨Fs, FA, fc, h, hF, hl⟩ := h
  obtain ⟨A, n, c, W, m, e, hd, hDF⟩ := h.dev k hk
  unfold Sy.rot
  rw [hd.stn]
  cases hb : hasByte n i a
  · refine (rrot_no A n c i a x hd.blk hb).mono ?_
    rintro e2 w2 ⟨rfl, rfl⟩
    exact ⟨rfl, F, h', fun q hq => .inl hq, But.refl _⟩
  · have hb' := hasByte_iff.1 hb
    obtain ⟨i, rfl⟩ := Int.eq_ofNat_of_zero_le hb'.1
    obtain ⟨a, rfl⟩ := Int.eq_ofNat_of_zero_le hb'.2.2.1
    refine (rrot_yes hd i a (by omega) (by omega) x).mono ?_
    rintro e2 w2 ⟨rfl, hd2, hbt⟩
    exact ⟨rfl, h.ret hF hl hk (hbt.mono (fun q e => hDF q (.inr (.inl e)))) (hd2.at_ hDF (fun q hq => hDF q (.inr (.inl hq))) (fun q hq => hDF q (.inr (.inr hq))))⟩
end Go.Proofs.Ytfofkjcdohmkpaa.Kd
/-
  The contract of the laws' do: a deed on the code's devices.
-/
namespace Go.Proofs.Ytfofkjcdohmkpaa.Kd
open Go.RowKit Go.Maps
attribute [local go_sem ↓] Go.wp_at_zero Go.wp_at_succ
set_option maxRecDepth 100000 in
set_option maxHeartbeats 25600000 in
theorem do_any {w0 w : World} {p : Nat} {gs : List Nat} {S : Sy} {F : Nat → Prop} (h : Live w0 w p gs S F) (k : Nat) (hk : k < S.ds.length) (x : Dd) (hx : x.ok) (hm : (S.at k).wt.length < 900000) :
    Calls Try.prog 16 #[.pointer (some ⟨p, 0, none⟩), .pointer (some ⟨gs.getD k 0, 0, none⟩), .agg (dda x)] w (RetL (.tuple #[.int .i64 (S.deed k x).1, .agg (bva (S.deed k x).2.1)]) w0 p gs (S.deed k x).2.2 F w) := by
  obtain ⟨z, hz0⟩ : ∃ z : List UInt8, z = zeroS := ⟨_, rfl⟩
  have hz : ∀ W, (zeroValue 38).run Try.prog W = .ok (.agg (bva z)) W := fun _ => by rw [hz0]; kernel_rfl
  have HBZ := Lib.hid (show ∀ W, (Instr.build 38 #[]).run Try.prog W = .ok (.agg (bva z)) W from fun _ => by rw [hz0]; kernel_rfl)
  have HI : Hid ((Try.prog.info? 38).map (·.size) = some (bva z).size) := by rw [bva_size, hz0, zeroS_length]; exact info_sec
  have HZ := Lib.hid hz0
  have HZ3 := Lib.hid (show z.length = 128 by rw [hz0]; exact zeroS_length)
  obtain ⟨wb, hwb⟩ : ∃ wb, wb = (w.alloc (.cells (dda x) 36)).alloc (.cells (bva z) 38) := ⟨_, rfl⟩
  have BB := Lib.hid (show Below w.heap.size w wb from by rw [hwb]; exact ((Below.refl _ _).alloc (Nat.le_refl _) _).alloc (by simp) _)
  have hb5 : Blk wb w.heap.size (dda x) 36 := by rw [hwb]; exact (heap_alloc_old _ _ (by simp)).trans (heap_alloc_new _ _)
  have hb7 : Blk wb (w.heap.size + 1) (bva z) 38 := by rw [hwb]; have h := heap_alloc_new (w.alloc (.cells (dda x) 36)) (.cells (bva z) 38); rwa [World.size_alloc] at h
  have X5 := Lib.hid (show BoxG wb F w.heap.size (dda x) 36 from ⟨hb5, fun hf => by have := h.lt _ hf; omega⟩)
  have X7 := Lib.hid (show BoxG wb F (w.heap.size + 1) (bva z) 38 from ⟨hb7, fun hf => by have := h.lt _ hf; omega⟩)
  have HB2 := Lib.hid (show w.heap.size + 1 < wb.heap.size from hb7.lt)
  have H0 := Lib.hid h
  have H := Lib.hid (h.below BB.out)
  have HK := Lib.hid hk
  have HM := Lib.hid hm
  have HXO := Lib.hid hx
  have d0 : wb.cell? ⟨w.heap.size, 0, none⟩ = some (.int .i64 x.on) := hb5.cell 0
  have d1 : wb.cell? ⟨w.heap.size, 1, none⟩ = some (.int .i64 x.kind) := hb5.cell 1
  have d2 : wb.cell? ⟨w.heap.size, 2, none⟩ = some (.int .i64 x.n) := hb5.cell 2
  have d3 : wb.cell? ⟨w.heap.size, 3, none⟩ = some (.int .i64 x.m) := hb5.cell 3
  have d4 : wb.cell? ⟨w.heap.size, 4, none⟩ = some (.int .u8 (x.c.toNat : Int)) := hb5.cell 4
  obtain ⟨b7, hb7e⟩ : ∃ b7, b7 = w.heap.size + 1 := ⟨_, rfl⟩
  have HB7 := Lib.hid hb7e
  obtain ⟨g, hgg⟩ : ∃ g, g = gs.getD k 0 := ⟨_, rfl⟩
  rw [← hgg]
  rw [← hb7e] at X7
  have HGG := Lib.hid hgg
  clear h hk hm hx hb5 hb7 hz0 hgg
  go_enter Try.func16, Try.ntmps16
  go_upto_region 1 with fail
  rw [← hb7e, ← hwb]
  clear hwb hb7e
  by_cases hk0 : x.kind = 0
  ·
    have HDE := Lib.hid (show S.deed k x = ((S.write k x.n (secC x.c)).1, zeroS, (S.write k x.n (secC x.c)).2) from by unfold Sy.deed; rw [if_pos hk0])
    rw [hk0] at d1
    clear hk0 
    go_upto_region 3 with fail
    clear d0 d1 d2 d3 d4
    refine wp_region_held_drew (S := fun w' => Blk w' w.heap.size (dda x) 36 ∧ Blk w' b7 (bva z) 38) (by kernel_rfl) ⟨X5.out.1.below (Below.refl _ _).drew, X7.out.1.below (Below.refl _ _).drew⟩ (fun hh => ?_)
    have HH := Lib.hid hh
    clear hh
    refine wpAnyH_take (i := 0) (v := ?va0) rfl (by kernel_rfl) (by kernel_rfl) (by kernel_rfl) (fun _ _ _ h => h) (Or.inl ⟨by rfl, fun w' _ => ?ya0⟩) HH.out ?_
    case ya0 => (go_simp; try with_reducible rfl)
    refine wpAnyH_take (i := 1) (v := ?va1) rfl (by kernel_rfl) (by kernel_rfl) (by kernel_rfl) (fun _ _ _ h => h) (Or.inl ⟨by rfl, fun w' _ => ?ya1⟩) HH.out ?_
    case ya1 => (go_simp; try with_reducible rfl)
    try simp only [List.getElem_toArray, List.getElem_cons_succ, List.getElem_cons_zero, Act.put, List.setIfInBounds_toArray, List.set_cons_zero, List.set_cons_succ]
    refine wpAnyH_take (i := 2) (v := .int .i64 x.n) rfl (by kernel_rfl) (by kernel_rfl) (by kernel_rfl) (fun _ _ _ h => h) (Or.inl ⟨by rfl, fun w' hw' => ?ya2⟩) HH.out ?_
    case ya2 => (have hc : w'.cell? ⟨w.heap.size, 2, none⟩ = some (.int .i64 x.n) := hw'.1.cell 2; go_simp; try with_reducible rfl)
    refine wpAnyH_take (i := 3) (v := ?va3) rfl (by kernel_rfl) (by kernel_rfl) (by kernel_rfl) (fun _ _ _ h => h) (Or.inl ⟨by rfl, fun w' _ => ?ya3⟩) HH.out ?_
    case ya3 => (go_simp; try with_reducible rfl)
    refine wpAnyH_take (i := 4) (v := .int .u8 (x.c.toNat : Int)) rfl (by kernel_rfl) (by kernel_rfl) (by kernel_rfl) (fun _ _ _ h => h) (Or.inl ⟨by rfl, fun w' hw' => ?ya4⟩) HH.out ?_
    case ya4 => (have hc : w'.cell? ⟨w.heap.size, 4, none⟩ = some (.int .u8 (x.c.toNat : Int)) := hw'.1.cell 4; go_simp; try with_reducible rfl)
    try simp only [List.getElem_toArray, List.getElem_cons_succ, List.getElem_cons_zero, Act.put, List.setIfInBounds_toArray, List.set_cons_zero, List.set_cons_succ]
    refine wpAnyH_take (i := 7) (v := .agg (bva z)) rfl (by kernel_rfl) (by kernel_rfl) (by kernel_rfl) (fun _ _ _ h => h) (Or.inl ⟨by rfl, fun w' hw' => ?ya7⟩) HH.out ?_
    case ya7 => (first | exact exec_build8 38 #[] rfl (HBZ.out w') | (refine exec_build8 38 #[] rfl ?_; first | (rw [Array.map_empty]; exact HBZ.out w') | (simp only [List.map_toArray, List.map_nil]; exact HBZ.out w')))
    try simp only [List.getElem_toArray, List.getElem_cons_succ, List.getElem_cons_zero, Act.put, List.setIfInBounds_toArray, List.set_cons_zero, List.set_cons_succ]
    refine wpAnyH_ready (rs := [5]) (by kernel_rfl) (by simp) (AllReadyH.cons rfl (fun K hK => ?_) AllReadyH.nil)
    go_simp
    refine (sector_any x.c _).mono ?_
    rintro e ws ⟨rfl, bw⟩
    have BS := Lib.hid (show Below wb.heap.size wb ws from (Below.refl _ _).drew.trans bw)
    have H1 := Lib.hid (H.out.below BS.out)
    have X51 := Lib.hid (X5.out.below BS.out)
    have X71 := Lib.hid (X7.out.below BS.out)
    go_simp
    refine hK.out _ _ ⟨X51.out.1, X71.out.1⟩ (fun hh => ?_)
    have HH' := Lib.hid hh
    clear hh hK K HH bw
    have HH := Lib.hid HH'.out
    clear HH'
    try simp only [List.getElem_toArray, List.getElem_cons_succ, List.getElem_cons_zero, Act.put, List.setIfInBounds_toArray, List.set_cons_zero, List.set_cons_succ]
    refine wpAnyH_ready (rs := [6]) (by kernel_rfl) (by simp) (AllReadyH.cons rfl (fun K hK => ?_) AllReadyH.nil)
    go_simp
    have hc := live_write H1.out k HK.out x.n (secC x.c) (secC_length _) (by have := HM.out; omega)
    rw [← HGG.out] at hc
    refine hc.mono ?_
    clear hc
    rintro e w2 ⟨rfl, F2, h, hs, hb⟩
    have H2 := Lib.hid h
    have HS2 := Lib.hid (show ∀ q, F2 q → F q ∨ wb.heap.size ≤ q from fun q hq => (hs q hq).imp id (fun h4 => Nat.le_trans BS.out.size h4))
    have HT2 := Lib.hid (show But F wb w2 from (But.of_below BS.out (fun q a c => absurd a (by omega))).trans hb)
    have X52 := Lib.hid (X51.out.step hs hb)
    have X72 := Lib.hid (X71.out.step hs hb)
    go_simp
    refine hK.out _ _ ⟨X52.out.1, X72.out.1⟩ (fun hh => ?_)
    have HH' := Lib.hid hh
    clear hh hK K HH h hs hb X51 X71 H1
    have HH := Lib.hid HH'.out
    clear HH'
    try simp only [List.getElem_toArray, List.getElem_cons_succ, List.getElem_cons_zero, Act.put, List.setIfInBounds_toArray, List.set_cons_zero, List.set_cons_succ]
    refine wpAnyH_take (i := 8) (v := ?va8) rfl (by kernel_rfl) (by kernel_rfl) (by kernel_rfl) (fun _ _ _ h => h) (Or.inl ⟨by rfl, fun w' _ => ?ya8⟩) HH.out ?_
    case ya8 => (go_simp; try with_reducible rfl)
    refine wpAnyH_ready (rs := [9]) (by kernel_rfl) (by simp) (AllReadyH.cons rfl (fun K hK => ?_) AllReadyH.nil)
    refine step_wp8 (by rfl) ?_
    refine wp_store_row 38 (.tmp 7) (.tmp 21) rfl b7 (bva z) rfl rfl 38 (bva z) X72.out.1 HI.out rfl (bva_one _) ?_
    obtain ⟨w9, hw9⟩ : ∃ w9, w9 = w2.setRow b7 (bva z) := ⟨_, rfl⟩
    have B9 := Lib.hid (show Blk w9 b7 (bva z) 38 from by rw [hw9]; exact setRow_heap _ _ _ _ _ _ X72.out.1)
    have T9 := Lib.hid (show But (fun q => q = b7) w2 w9 from by rw [hw9]; exact (But.refl _).setRow (S := fun q => q = b7) (.inl rfl) _)
    have B95 := Lib.hid (X52.out.1.but T9.out (by have := HB7.out; omega))
    change K _ (w2.setRow b7 (bva z))
    rw [← hw9]
    clear hw9
    refine hK.out _ _ ⟨B95.out, B9.out⟩ (fun hh => ?_)
    clear hh hK K HH
    try simp only [List.getElem_toArray, List.getElem_cons_succ, List.getElem_cons_zero, Act.put, List.setIfInBounds_toArray, List.set_cons_zero, List.set_cons_succ]
    refine wpAnyH_done (by kernel_rfl) ?_ _
    go_wp2_with fail
    refine bodyPost_ret (v := .tuple #[.int .i64 (S.write k x.n (secC x.c)).1, .agg (bva z)]) (results_tc8 Try.results16 _ _ b7 38 (bva z) _ rfl B9.out Try.underlying38 rfl HI.out) rfl ?_
    rw [HDE.out]
    exact ⟨by rw [← HZ.out], fin_do H0.out BB.out H2.out HS2.out HT2.out T9.out (by have := HB7.out; omega) (by have := HB2.out; have := HB7.out; omega)⟩
  by_cases hk1 : x.kind = 1
  ·
    have HDE := Lib.hid (show S.deed k x = ((S.flush k).1, zeroS, (S.flush k).2) from by unfold Sy.deed; rw [if_neg (show ¬ x.kind = 0 by omega), if_pos hk1])
    rw [hk1] at d1
    clear hk1 hk0
    go_wp2_with fail
    have hc := live_flush H.out k HK.out
    rw [← HGG.out] at hc
    refine hc.mono ?_
    rintro e2 w2 ⟨rfl, F2, h, hs, hb⟩
    have H2 := Lib.hid h
    have HS2 := Lib.hid hs
    have HT2 := Lib.hid hb
    have X72 := Lib.hid (X7.out.step hs hb)
    clear h hs hb hc d0 d1 d2 d3 d4
    go_wp2_with (show wpList _ _ _ ({ dst := some 26, op := .build 38 #[], type := _, pos := _, after := _, guard := _ } :: _) _ _; apply Classical.byContradiction; intro hneg)
    refine hneg ?_
    clear hneg
    refine wpList_build rfl 38 #[] rfl (v := .agg (bva z)) ?hbld ?_
    case hbld => (first | exact HBZ.out _ | (rw [Array.map_empty]; exact HBZ.out _) | (simp only [List.map_toArray, List.map_nil]; exact HBZ.out _))
    go_wp2_with (show wpList _ _ _ ({ dst := none, op := .store 38 (.tmp 7) (.tmp 26), type := _, pos := _, after := _, guard := _ } :: _) _ _; apply Classical.byContradiction; intro hneg)
    refine hneg ?_
    clear hneg
    refine wpList_store_row rfl 38 (.tmp 7) (.tmp 26) rfl b7 (bva z) rfl rfl 38 (bva z) X72.out.1 HI.out rfl (bva_one _) ?_
    obtain ⟨w9, hw9⟩ : ∃ w9, w9 = w2.setRow b7 (bva z) := ⟨_, rfl⟩
    have B9 := Lib.hid (show Blk w9 b7 (bva z) 38 from by rw [hw9]; exact setRow_heap _ _ _ _ _ _ X72.out.1)
    have T9 := Lib.hid (show But (fun q => q = b7) w2 w9 from by rw [hw9]; exact (But.refl _).setRow (S := fun q => q = b7) (.inl rfl) _)
    rw [← hw9]
    clear hw9
    go_wp2_with (refine wpList_build rfl 38 #[] rfl (v := .agg (bva z)) ?hbld ?_; case hbld => (first | exact HBZ.out _ | (rw [Array.map_empty]; exact HBZ.out _) | (simp only [List.map_toArray, List.map_nil]; exact HBZ.out _)))
    refine bodyPost_ret (v := .tuple #[.int .i64 (S.flush k).1, .agg (bva z)]) (results_tc8 Try.results16 _ _ b7 38 (bva z) _ rfl B9.out Try.underlying38 rfl HI.out) rfl ?_
    rw [HDE.out]
    exact ⟨by rw [← HZ.out], fin_do H0.out BB.out H2.out HS2.out HT2.out T9.out (by have := HB7.out; omega) (by have := HB2.out; have := HB7.out; omega)⟩
  by_cases hk2 : x.kind = 2
  ·
    have HDE := Lib.hid (show S.deed k x = (refuseN S.p (S.at k) x.n, readS S.p (S.at k) x.n, S) from by unfold Sy.deed; rw [if_neg (show ¬ x.kind = 0 by omega), if_neg (show ¬ x.kind = 1 by omega), if_pos hk2])
    rw [hk2] at d1
    clear hk2 hk0 hk1
    have HY3 := Lib.hid (readS_length (P := S.p) (H.out.sys.ok HK.out) x.n)
    obtain ⟨y, hy⟩ : ∃ y, y = readS S.p (S.at k) x.n := ⟨_, rfl⟩
    have HYE := Lib.hid hy
    rw [← hy] at HY3 HDE
    have HIY : Hid ((Try.prog.info? 38).map (·.size) = some (bva y).size) := by show _ = _; rw [bva_size, HY3.out]; exact info_sec
    clear hy
    go_wp2_with fail
    have hc := dread_any H.out.sys k HK.out x.n
    rw [← HGG.out, readV_eq, ← HYE.out] at hc
    refine hc.mono ?_
    clear hc
    rintro e2 w2 ⟨rfl, bw⟩
    have BR := Lib.hid bw
    have H2a := Lib.hid (H.out.below bw)
    have X7a := Lib.hid (X7.out.below bw)
    have HB8 := Lib.hid (show Blk (w2.alloc (.cells (bva z) 38)) w2.heap.size (bva z) 38 from heap_alloc_new _ _)
    clear bw d0 d1 d2 d3 d4
    go_wp2_with (show wpList _ _ _ ({ dst := none, op := .store 38 (.tmp 8) (.tmp 34), type := _, pos := _, after := _, guard := _ } :: _) _ _; apply Classical.byContradiction; intro hneg)
    refine hneg ?_
    clear hneg
    refine wpList_store_row rfl 38 (.tmp 8) (.tmp 34) rfl w2.heap.size (bva y) rfl rfl 38 (bva z) HB8.out HIY.out (by rw [bva_size, bva_size, HY3.out, HZ3.out]) (bva_one _) ?_
    obtain ⟨w4, hw4⟩ : ∃ w4, w4 = (w2.alloc (.cells (bva z) 38)).setRow w2.heap.size (bva y) := ⟨_, rfl⟩
    have HV := Lib.hid (show Blk w4 w2.heap.size (bva y) 38 from by rw [hw4]; exact setRow_heap _ _ _ _ _ _ HB8.out)
    have BV := Lib.hid (show Below w2.heap.size w2 w4 from by rw [hw4]; exact below_setRow ((Below.refl _ _).alloc (Nat.le_refl _) _) (Nat.le_refl _) _)
    rw [← hw4]
    clear hw4 HB8
    obtain ⟨b8, hb8⟩ : ∃ b8, b8 = w2.heap.size := ⟨_, rfl⟩
    rw [← hb8] at HV ⊢
    have HB8 := Lib.hid hb8
    clear hb8
    have BD := Lib.hid (show Below wb.heap.size wb w4.drew from (BR.out.trans (BV.out.mono BR.out.size)).drew)
    have Hb := Lib.hid (H.out.below BD.out)
    have X7b := Lib.hid (X7.out.below BD.out)
    have HSb := Lib.hid ((fun q hq => .inl hq) : ∀ q, F q → F q ∨ wb.heap.size ≤ q)
    have HTb := Lib.hid (show But F wb w4.drew from But.of_below BD.out (fun q a c => absurd a (by omega)))
    have NE := Lib.hid (show b8 ≠ b7 from by have := HB8.out; have := HB7.out; have := HB2.out; have := BR.out.size; omega)
    go_wp2_with fail
    refine wp_region_held_drew (S := fun w' => Blk w' b8 (bva y) 38) (by kernel_rfl) (HV.out.below (Below.refl _ _).drew) (fun hh => ?_)
    have HH := Lib.hid hh
    clear hh
    refine wpAnyH_take (i := 0) (v := ?vb0) rfl (by kernel_rfl) (by kernel_rfl) (by kernel_rfl) (fun _ _ _ h => h) (Or.inl ⟨by rfl, fun w' _ => ?yb0⟩) HH.out ?_
    case yb0 => (go_simp; try with_reducible rfl)
    refine wpAnyH_take (i := 1) (v := .agg (bva y)) rfl (by kernel_rfl) (by kernel_rfl) (by kernel_rfl) (fun _ _ _ h => h) (Or.inl ⟨by rfl, fun w' hw' => ?yb1⟩) HH.out ?_
    case yb1 => exact exec_load 38 (.tmp 8) rfl rfl hw' Try.underlying38 rfl HIY.out
    try simp only [List.getElem_toArray, List.getElem_cons_succ, List.getElem_cons_zero, Act.put, List.setIfInBounds_toArray, List.set_cons_zero, List.set_cons_succ]
    refine wpAnyH_take (i := 2) (v := ?vb2) rfl (by kernel_rfl) (by kernel_rfl) (by kernel_rfl) (fun _ _ _ h => h) (Or.inl ⟨by rfl, fun w' _ => ?yb2⟩) HH.out ?_
    case yb2 => (go_simp; try with_reducible rfl)
    refine wpAnyH_ready (rs := [3]) (by kernel_rfl) (by simp) (AllReadyH.cons rfl (fun K hK => ?_) AllReadyH.nil)
    refine step_wp8 (by rfl) ?_
    refine wp_store_row 38 (.tmp 7) (.tmp 37) rfl b7 (bva y) rfl rfl 38 (bva z) X7b.out.1 HIY.out (by rw [bva_size, bva_size, HY3.out, HZ3.out]) (bva_one _) ?_
    obtain ⟨w9, hw9⟩ : ∃ w9, w9 = w4.drew.setRow b7 (bva y) := ⟨_, rfl⟩
    have B9 := Lib.hid (show Blk w9 b7 (bva y) 38 from by rw [hw9]; exact setRow_heap _ _ _ _ _ _ X7b.out.1)
    have T9 := Lib.hid (show But (fun q => q = b7) w4.drew w9 from by rw [hw9]; exact (But.refl _).setRow (S := fun q => q = b7) (.inl rfl) _)
    have B98 := Lib.hid ((HV.out.below (Below.refl _ _).drew).but T9.out NE.out)
    change K _ (w4.drew.setRow b7 (bva y))
    rw [← hw9]
    clear hw9
    refine hK.out _ _ B98.out (fun hh => ?_)
    clear hh hK K HH
    try simp only [List.getElem_toArray, List.getElem_cons_succ, List.getElem_cons_zero, Act.put, List.setIfInBounds_toArray, List.set_cons_zero, List.set_cons_succ]
    refine wpAnyH_done (by kernel_rfl) ?_ _
    go_wp2_with fail
    refine bodyPost_ret (v := .tuple #[.int .i64 (refuseN S.p (S.at k) x.n), .agg (bva y)]) (results_tc8 Try.results16 _ _ b7 38 (bva y) _ rfl B9.out Try.underlying38 rfl HIY.out) rfl ?_
    rw [HDE.out]
    exact ⟨rfl, fin_do H0.out BB.out Hb.out HSb.out HTb.out T9.out (by have := HB7.out; omega) (by have := HB2.out; have := HB7.out; omega)⟩
  by_cases hk3 : x.kind = 3
  ·
    have HDE := Lib.hid (show S.deed k x = (0, zeroS, S.put k ((S.at k).tear x.n x.m)) from by unfold Sy.deed; rw [if_neg (show ¬ x.kind = 0 by omega), if_neg (show ¬ x.kind = 1 by omega), if_neg (show ¬ x.kind = 2 by omega), if_pos hk3])
    rw [hk3] at d1
    clear hk3 hk0 hk1 hk2
    go_wp2_with fail
    have hc := live_tear H.out k HK.out x.n x.m
    rw [← HGG.out] at hc
    refine hc.mono ?_
    rintro e2 w2 ⟨rfl, F2, h, hs, hb⟩
    have H2 := Lib.hid h
    have HS2 := Lib.hid hs
    have HT2 := Lib.hid hb
    have X72 := Lib.hid (X7.out.step hs hb)
    clear h hs hb hc d0 d1 d2 d3 d4
    go_wp2_with (show wpList _ _ _ ({ dst := some 83, op := .build 38 #[], type := _, pos := _, after := _, guard := _ } :: _) _ _; apply Classical.byContradiction; intro hneg)
    refine hneg ?_
    clear hneg
    refine wpList_build rfl 38 #[] rfl (v := .agg (bva z)) ?hbld ?_
    case hbld => (first | exact HBZ.out _ | (rw [Array.map_empty]; exact HBZ.out _) | (simp only [List.map_toArray, List.map_nil]; exact HBZ.out _))
    go_wp2_with (show wpList _ _ _ ({ dst := none, op := .store 38 (.tmp 7) (.tmp 83), type := _, pos := _, after := _, guard := _ } :: _) _ _; apply Classical.byContradiction; intro hneg)
    refine hneg ?_
    clear hneg
    refine wpList_store_row rfl 38 (.tmp 7) (.tmp 83) rfl b7 (bva z) rfl rfl 38 (bva z) X72.out.1 HI.out rfl (bva_one _) ?_
    obtain ⟨w9, hw9⟩ : ∃ w9, w9 = w2.setRow b7 (bva z) := ⟨_, rfl⟩
    have B9 := Lib.hid (show Blk w9 b7 (bva z) 38 from by rw [hw9]; exact setRow_heap _ _ _ _ _ _ X72.out.1)
    have T9 := Lib.hid (show But (fun q => q = b7) w2 w9 from by rw [hw9]; exact (But.refl _).setRow (S := fun q => q = b7) (.inl rfl) _)
    rw [← hw9]
    clear hw9
    go_wp2_with (refine wpList_build rfl 38 #[] rfl (v := .agg (bva z)) ?hbld ?_; case hbld => (first | exact HBZ.out _ | (rw [Array.map_empty]; exact HBZ.out _) | (simp only [List.map_toArray, List.map_nil]; exact HBZ.out _)))
    refine bodyPost_ret (v := .tuple #[.int .i64 0, .agg (bva z)]) (results_tc8 Try.results16 _ _ b7 38 (bva z) _ rfl B9.out Try.underlying38 rfl HI.out) rfl ?_
    rw [HDE.out]
    exact ⟨by rw [← HZ.out], fin_do H0.out BB.out H2.out HS2.out HT2.out T9.out (by have := HB7.out; omega) (by have := HB2.out; have := HB7.out; omega)⟩
  by_cases hk4 : x.kind = 4
  ·
    have HDE := Lib.hid (show S.deed k x = (0, zeroS, S.put k ((S.at k).lie ((x.c.toNat : Int) % 2 == 1))) from by unfold Sy.deed; rw [if_neg (show ¬ x.kind = 0 by omega), if_neg (show ¬ x.kind = 1 by omega), if_neg (show ¬ x.kind = 2 by omega), if_neg (show ¬ x.kind = 3 by omega), if_pos hk4])
    rw [hk4] at d1
    clear hk4 hk0 hk1 hk2 hk3
    go_wp2_with fail
    have hc : ∀ on, Calls Try.prog 51 #[.pointer (some ⟨g, 0, none⟩), .bool on] wb (RetL (.tuple #[]) w0 p gs (S.put k ((S.at k).lie on)) F wb) := fun on => by rw [HGG.out]; exact live_lie H.out k HK.out on
    refine (hc _).mono ?_
    rintro e2 w2 ⟨rfl, F2, h, hs, hb⟩
    have H2 := Lib.hid h
    have HS2 := Lib.hid hs
    have HT2 := Lib.hid hb
    have X72 := Lib.hid (X7.out.step hs hb)
    clear h hs hb hc d0 d1 d2 d3 d4
    go_wp2_with (show wpList _ _ _ ({ dst := some 83, op := .build 38 #[], type := _, pos := _, after := _, guard := _ } :: _) _ _; apply Classical.byContradiction; intro hneg)
    refine hneg ?_
    clear hneg
    refine wpList_build rfl 38 #[] rfl (v := .agg (bva z)) ?hbld ?_
    case hbld => (first | exact HBZ.out _ | (rw [Array.map_empty]; exact HBZ.out _) | (simp only [List.map_toArray, List.map_nil]; exact HBZ.out _))
    go_wp2_with (show wpList _ _ _ ({ dst := none, op := .store 38 (.tmp 7) (.tmp 83), type := _, pos := _, after := _, guard := _ } :: _) _ _; apply Classical.byContradiction; intro hneg)
    refine hneg ?_
    clear hneg
    refine wpList_store_row rfl 38 (.tmp 7) (.tmp 83) rfl b7 (bva z) rfl rfl 38 (bva z) X72.out.1 HI.out rfl (bva_one _) ?_
    obtain ⟨w9, hw9⟩ : ∃ w9, w9 = w2.setRow b7 (bva z) := ⟨_, rfl⟩
    have B9 := Lib.hid (show Blk w9 b7 (bva z) 38 from by rw [hw9]; exact setRow_heap _ _ _ _ _ _ X72.out.1)
    have T9 := Lib.hid (show But (fun q => q = b7) w2 w9 from by rw [hw9]; exact (But.refl _).setRow (S := fun q => q = b7) (.inl rfl) _)
    rw [← hw9]
    clear hw9
    go_wp2_with (refine wpList_build rfl 38 #[] rfl (v := .agg (bva z)) ?hbld ?_; case hbld => (first | exact HBZ.out _ | (rw [Array.map_empty]; exact HBZ.out _) | (simp only [List.map_toArray, List.map_nil]; exact HBZ.out _)))
    refine bodyPost_ret (v := .tuple #[.int .i64 0, .agg (bva z)]) (results_tc8 Try.results16 _ _ b7 38 (bva z) _ rfl B9.out Try.underlying38 rfl HI.out) rfl ?_
    rw [HDE.out]
    exact ⟨by rw [← HZ.out], fin_do H0.out BB.out H2.out HS2.out HT2.out T9.out (by have := HB7.out; omega) (by have := HB2.out; have := HB7.out; omega)⟩
  by_cases hk5 : x.kind = 5
  ·
    have HDE := Lib.hid (show S.deed k x = (0, zeroS, S.put k ((S.at k).out ((x.c.toNat : Int) % 2 == 1))) from by unfold Sy.deed; rw [if_neg (show ¬ x.kind = 0 by omega), if_neg (show ¬ x.kind = 1 by omega), if_neg (show ¬ x.kind = 2 by omega), if_neg (show ¬ x.kind = 3 by omega), if_neg (show ¬ x.kind = 4 by omega), if_pos hk5])
    rw [hk5] at d1
    clear hk5 hk0 hk1 hk2 hk3 hk4
    go_wp2_with fail
    have hc : ∀ on, Calls Try.prog 24 #[.pointer (some ⟨g, 0, none⟩), .bool on] wb (RetL (.tuple #[]) w0 p gs (S.put k ((S.at k).out on)) F wb) := fun on => by rw [HGG.out]; exact live_out H.out k HK.out on
    refine (hc _).mono ?_
    rintro e2 w2 ⟨rfl, F2, h, hs, hb⟩
    have H2 := Lib.hid h
    have HS2 := Lib.hid hs
    have HT2 := Lib.hid hb
    have X72 := Lib.hid (X7.out.step hs hb)
    clear h hs hb hc d0 d1 d2 d3 d4
    go_wp2_with (show wpList _ _ _ ({ dst := some 83, op := .build 38 #[], type := _, pos := _, after := _, guard := _ } :: _) _ _; apply Classical.byContradiction; intro hneg)
    refine hneg ?_
    clear hneg
    refine wpList_build rfl 38 #[] rfl (v := .agg (bva z)) ?hbld ?_
    case hbld => (first | exact HBZ.out _ | (rw [Array.map_empty]; exact HBZ.out _) | (simp only [List.map_toArray, List.map_nil]; exact HBZ.out _))
    go_wp2_with (show wpList _ _ _ ({ dst := none, op := .store 38 (.tmp 7) (.tmp 83), type := _, pos := _, after := _, guard := _ } :: _) _ _; apply Classical.byContradiction; intro hneg)
    refine hneg ?_
    clear hneg
    refine wpList_store_row rfl 38 (.tmp 7) (.tmp 83) rfl b7 (bva z) rfl rfl 38 (bva z) X72.out.1 HI.out rfl (bva_one _) ?_
    obtain ⟨w9, hw9⟩ : ∃ w9, w9 = w2.setRow b7 (bva z) := ⟨_, rfl⟩
    have B9 := Lib.hid (show Blk w9 b7 (bva z) 38 from by rw [hw9]; exact setRow_heap _ _ _ _ _ _ X72.out.1)
    have T9 := Lib.hid (show But (fun q => q = b7) w2 w9 from by rw [hw9]; exact (But.refl _).setRow (S := fun q => q = b7) (.inl rfl) _)
    rw [← hw9]
    clear hw9
    go_wp2_with (refine wpList_build rfl 38 #[] rfl (v := .agg (bva z)) ?hbld ?_; case hbld => (first | exact HBZ.out _ | (rw [Array.map_empty]; exact HBZ.out _) | (simp only [List.map_toArray, List.map_nil]; exact HBZ.out _)))
    refine bodyPost_ret (v := .tuple #[.int .i64 0, .agg (bva z)]) (results_tc8 Try.results16 _ _ b7 38 (bva z) _ rfl B9.out Try.underlying38 rfl HI.out) rfl ?_
    rw [HDE.out]
    exact ⟨by rw [← HZ.out], fin_do H0.out BB.out H2.out HS2.out HT2.out T9.out (by have := HB7.out; omega) (by have := HB2.out; have := HB7.out; omega)⟩
  by_cases hk6 : x.kind = 6
  ·
    have HDE := Lib.hid (show S.deed k x = (if hasByte (S.at k).st.length x.n x.m then 1 else 0, zeroS, S.rot k x.n x.m x.c) from by unfold Sy.deed; rw [if_neg (show ¬ x.kind = 0 by omega), if_neg (show ¬ x.kind = 1 by omega), if_neg (show ¬ x.kind = 2 by omega), if_neg (show ¬ x.kind = 3 by omega), if_neg (show ¬ x.kind = 4 by omega), if_neg (show ¬ x.kind = 5 by omega), if_pos hk6])
    rw [hk6] at d1
    clear hk6 hk0 hk1 hk2 hk3 hk4 hk5
    go_wp2_with fail
    have hc := live_rot H.out k HK.out x.n x.m x.c
    rw [← HGG.out] at hc
    refine hc.mono ?_
    rintro e2 w2 ⟨rfl, F2, h, hs, hb⟩
    have H2 := Lib.hid h
    have HS2 := Lib.hid hs
    have HT2 := Lib.hid hb
    have X72 := Lib.hid (X7.out.step hs hb)
    clear h hs hb hc d0 d1 d2 d3 d4
    cases hbt : hasByte (S.at k).st.length x.n x.m with
    | true =>
      rw [hbt, if_pos rfl] at HDE
      clear hbt
      go_wp2_with (show wpList _ _ _ ({ dst := some 72, op := .build 38 #[], type := _, pos := _, after := _, guard := _ } :: _) _ _; apply Classical.byContradiction; intro hneg)
      refine hneg ?_
      clear hneg
      refine wpList_build rfl 38 #[] rfl (v := .agg (bva z)) ?hbld ?_
      case hbld => (first | exact HBZ.out _ | (rw [Array.map_empty]; exact HBZ.out _) | (simp only [List.map_toArray, List.map_nil]; exact HBZ.out _))
      go_wp2_with (show wpList _ _ _ ({ dst := none, op := .store 38 (.tmp 7) (.tmp 72), type := _, pos := _, after := _, guard := _ } :: _) _ _; apply Classical.byContradiction; intro hneg)
      refine hneg ?_
      clear hneg
      refine wpList_store_row rfl 38 (.tmp 7) (.tmp 72) rfl b7 (bva z) rfl rfl 38 (bva z) X72.out.1 HI.out rfl (bva_one _) ?_
      obtain ⟨w9, hw9⟩ : ∃ w9, w9 = w2.setRow b7 (bva z) := ⟨_, rfl⟩
      have B9 := Lib.hid (show Blk w9 b7 (bva z) 38 from by rw [hw9]; exact setRow_heap _ _ _ _ _ _ X72.out.1)
      have T9 := Lib.hid (show But (fun q => q = b7) w2 w9 from by rw [hw9]; exact (But.refl _).setRow (S := fun q => q = b7) (.inl rfl) _)
      rw [← hw9]
      clear hw9
      go_wp2_with (refine wpList_build rfl 38 #[] rfl (v := .agg (bva z)) ?hbld ?_; case hbld => (first | exact HBZ.out _ | (rw [Array.map_empty]; exact HBZ.out _) | (simp only [List.map_toArray, List.map_nil]; exact HBZ.out _)))
      refine bodyPost_ret (v := .tuple #[.int .i64 1, .agg (bva z)]) (results_tc8 Try.results16 _ _ b7 38 (bva z) _ rfl B9.out Try.underlying38 rfl HI.out) rfl ?_
      rw [HDE.out]
      exact ⟨by rw [← HZ.out], fin_do H0.out BB.out H2.out HS2.out HT2.out T9.out (by have := HB7.out; omega) (by have := HB2.out; have := HB7.out; omega)⟩
    | false =>
      rw [hbt, if_neg (by decide)] at HDE
      clear hbt
      go_wp2_with (show wpList _ _ _ ({ dst := some 83, op := .build 38 #[], type := _, pos := _, after := _, guard := _ } :: _) _ _; apply Classical.byContradiction; intro hneg)
      refine hneg ?_
      clear hneg
      refine wpList_build rfl 38 #[] rfl (v := .agg (bva z)) ?hbld ?_
      case hbld => (first | exact HBZ.out _ | (rw [Array.map_empty]; exact HBZ.out _) | (simp only [List.map_toArray, List.map_nil]; exact HBZ.out _))
      go_wp2_with (show wpList _ _ _ ({ dst := none, op := .store 38 (.tmp 7) (.tmp 83), type := _, pos := _, after := _, guard := _ } :: _) _ _; apply Classical.byContradiction; intro hneg)
      refine hneg ?_
      clear hneg
      refine wpList_store_row rfl 38 (.tmp 7) (.tmp 83) rfl b7 (bva z) rfl rfl 38 (bva z) X72.out.1 HI.out rfl (bva_one _) ?_
      obtain ⟨w9, hw9⟩ : ∃ w9, w9 = w2.setRow b7 (bva z) := ⟨_, rfl⟩
      have B9 := Lib.hid (show Blk w9 b7 (bva z) 38 from by rw [hw9]; exact setRow_heap _ _ _ _ _ _ X72.out.1)
      have T9 := Lib.hid (show But (fun q => q = b7) w2 w9 from by rw [hw9]; exact (But.refl _).setRow (S := fun q => q = b7) (.inl rfl) _)
      rw [← hw9]
      clear hw9
      go_wp2_with (refine wpList_build rfl 38 #[] rfl (v := .agg (bva z)) ?hbld ?_; case hbld => (first | exact HBZ.out _ | (rw [Array.map_empty]; exact HBZ.out _) | (simp only [List.map_toArray, List.map_nil]; exact HBZ.out _)))
      refine bodyPost_ret (v := .tuple #[.int .i64 0, .agg (bva z)]) (results_tc8 Try.results16 _ _ b7 38 (bva z) _ rfl B9.out Try.underlying38 rfl HI.out) rfl ?_
      rw [HDE.out]
      exact ⟨by rw [← HZ.out], fin_do H0.out BB.out H2.out HS2.out HT2.out T9.out (by have := HB7.out; omega) (by have := HB2.out; have := HB7.out; omega)⟩
  by_cases hk7 : x.kind = 7
  ·
    have HDE := Lib.hid (show S.deed k x = (0, zeroS, S.fail x.n) from by unfold Sy.deed; rw [if_neg (show ¬ x.kind = 0 by omega), if_neg (show ¬ x.kind = 1 by omega), if_neg (show ¬ x.kind = 2 by omega), if_neg (show ¬ x.kind = 3 by omega), if_neg (show ¬ x.kind = 4 by omega), if_neg (show ¬ x.kind = 5 by omega), if_neg (show ¬ x.kind = 6 by omega), if_pos hk7])
    rw [hk7] at d1
    clear hk7 hk0 hk1 hk2 hk3 hk4 hk5 hk6
    go_wp2_with fail
    have hc := live_fail H.out x.n HXO.out.2.2.1.2
    refine hc.mono ?_
    rintro e2 w2 ⟨rfl, F2, h, hs, hb⟩
    have H2 := Lib.hid h
    have HS2 := Lib.hid hs
    have HT2 := Lib.hid hb
    have X72 := Lib.hid (X7.out.step hs hb)
    clear h hs hb hc d0 d1 d2 d3 d4
    go_wp2_with (show wpList _ _ _ ({ dst := some 83, op := .build 38 #[], type := _, pos := _, after := _, guard := _ } :: _) _ _; apply Classical.byContradiction; intro hneg)
    refine hneg ?_
    clear hneg
    refine wpList_build rfl 38 #[] rfl (v := .agg (bva z)) ?hbld ?_
    case hbld => (first | exact HBZ.out _ | (rw [Array.map_empty]; exact HBZ.out _) | (simp only [List.map_toArray, List.map_nil]; exact HBZ.out _))
    go_wp2_with (show wpList _ _ _ ({ dst := none, op := .store 38 (.tmp 7) (.tmp 83), type := _, pos := _, after := _, guard := _ } :: _) _ _; apply Classical.byContradiction; intro hneg)
    refine hneg ?_
    clear hneg
    refine wpList_store_row rfl 38 (.tmp 7) (.tmp 83) rfl b7 (bva z) rfl rfl 38 (bva z) X72.out.1 HI.out rfl (bva_one _) ?_
    obtain ⟨w9, hw9⟩ : ∃ w9, w9 = w2.setRow b7 (bva z) := ⟨_, rfl⟩
    have B9 := Lib.hid (show Blk w9 b7 (bva z) 38 from by rw [hw9]; exact setRow_heap _ _ _ _ _ _ X72.out.1)
    have T9 := Lib.hid (show But (fun q => q = b7) w2 w9 from by rw [hw9]; exact (But.refl _).setRow (S := fun q => q = b7) (.inl rfl) _)
    rw [← hw9]
    clear hw9
    go_wp2_with (refine wpList_build rfl 38 #[] rfl (v := .agg (bva z)) ?hbld ?_; case hbld => (first | exact HBZ.out _ | (rw [Array.map_empty]; exact HBZ.out _) | (simp only [List.map_toArray, List.map_nil]; exact HBZ.out _)))
    refine bodyPost_ret (v := .tuple #[.int .i64 0, .agg (bva z)]) (results_tc8 Try.results16 _ _ b7 38 (bva z) _ rfl B9.out Try.underlying38 rfl HI.out) rfl ?_
    rw [HDE.out]
    exact ⟨by rw [← HZ.out], fin_do H0.out BB.out H2.out HS2.out HT2.out T9.out (by have := HB7.out; omega) (by have := HB2.out; have := HB7.out; omega)⟩
  by_cases hk8 : x.kind = 8
  ·
    have HDE := Lib.hid (show S.deed k x = (0, zeroS, S.restart) from by unfold Sy.deed; rw [if_neg (show ¬ x.kind = 0 by omega), if_neg (show ¬ x.kind = 1 by omega), if_neg (show ¬ x.kind = 2 by omega), if_neg (show ¬ x.kind = 3 by omega), if_neg (show ¬ x.kind = 4 by omega), if_neg (show ¬ x.kind = 5 by omega), if_neg (show ¬ x.kind = 6 by omega), if_neg (show ¬ x.kind = 7 by omega), if_pos hk8])
    rw [hk8] at d1
    clear hk8 hk0 hk1 hk2 hk3 hk4 hk5 hk6 hk7
    go_wp2_with fail
    have hc := live_restart H.out
    refine hc.mono ?_
    rintro e2 w2 ⟨rfl, F2, h, hs, hb⟩
    have H2 := Lib.hid h
    have HS2 := Lib.hid hs
    have HT2 := Lib.hid hb
    have X72 := Lib.hid (X7.out.step hs hb)
    clear h hs hb hc d0 d1 d2 d3 d4
    go_wp2_with (show wpList _ _ _ ({ dst := some 83, op := .build 38 #[], type := _, pos := _, after := _, guard := _ } :: _) _ _; apply Classical.byContradiction; intro hneg)
    refine hneg ?_
    clear hneg
    refine wpList_build rfl 38 #[] rfl (v := .agg (bva z)) ?hbld ?_
    case hbld => (first | exact HBZ.out _ | (rw [Array.map_empty]; exact HBZ.out _) | (simp only [List.map_toArray, List.map_nil]; exact HBZ.out _))
    go_wp2_with (show wpList _ _ _ ({ dst := none, op := .store 38 (.tmp 7) (.tmp 83), type := _, pos := _, after := _, guard := _ } :: _) _ _; apply Classical.byContradiction; intro hneg)
    refine hneg ?_
    clear hneg
    refine wpList_store_row rfl 38 (.tmp 7) (.tmp 83) rfl b7 (bva z) rfl rfl 38 (bva z) X72.out.1 HI.out rfl (bva_one _) ?_
    obtain ⟨w9, hw9⟩ : ∃ w9, w9 = w2.setRow b7 (bva z) := ⟨_, rfl⟩
    have B9 := Lib.hid (show Blk w9 b7 (bva z) 38 from by rw [hw9]; exact setRow_heap _ _ _ _ _ _ X72.out.1)
    have T9 := Lib.hid (show But (fun q => q = b7) w2 w9 from by rw [hw9]; exact (But.refl _).setRow (S := fun q => q = b7) (.inl rfl) _)
    rw [← hw9]
    clear hw9
    go_wp2_with (refine wpList_build rfl 38 #[] rfl (v := .agg (bva z)) ?hbld ?_; case hbld => (first | exact HBZ.out _ | (rw [Array.map_empty]; exact HBZ.out _) | (simp only [List.map_toArray, List.map_nil]; exact HBZ.out _)))
    refine bodyPost_ret (v := .tuple #[.int .i64 0, .agg (bva z)]) (results_tc8 Try.results16 _ _ b7 38 (bva z) _ rfl B9.out Try.underlying38 rfl HI.out) rfl ?_
    rw [HDE.out]
    exact ⟨by rw [← HZ.out], fin_do H0.out BB.out H2.out HS2.out HT2.out T9.out (by have := HB7.out; omega) (by have := HB2.out; have := HB7.out; omega)⟩
  have HDE := Lib.hid (show S.deed k x = (0, zeroS, S) from by unfold Sy.deed; rw [if_neg hk0, if_neg hk1, if_neg hk2, if_neg hk3, if_neg hk4, if_neg hk5, if_neg hk6, if_neg hk7, if_neg hk8])
  have Hb := Lib.hid H.out
  have HSb := Lib.hid ((fun q hq => .inl hq) : ∀ q, F q → F q ∨ wb.heap.size ≤ q)
  have HTb := Lib.hid (But.refl wb : But F wb wb)
  have X7b := Lib.hid X7.out
  go_wp2_with (show wpList _ _ _ ({ dst := some 83, op := .build 38 #[], type := _, pos := _, after := _, guard := _ } :: _) _ _; apply Classical.byContradiction; intro hneg)
  refine hneg ?_
  clear hneg
  refine wpList_build rfl 38 #[] rfl (v := .agg (bva z)) ?hbld ?_
  case hbld => (first | exact HBZ.out _ | (rw [Array.map_empty]; exact HBZ.out _) | (simp only [List.map_toArray, List.map_nil]; exact HBZ.out _))
  go_wp2_with (show wpList _ _ _ ({ dst := none, op := .store 38 (.tmp 7) (.tmp 83), type := _, pos := _, after := _, guard := _ } :: _) _ _; apply Classical.byContradiction; intro hneg)
  refine hneg ?_
  clear hneg
  refine wpList_store_row rfl 38 (.tmp 7) (.tmp 83) rfl b7 (bva z) rfl rfl 38 (bva z) X7b.out.1 HI.out rfl (bva_one _) ?_
  obtain ⟨w9, hw9⟩ : ∃ w9, w9 = wb.setRow b7 (bva z) := ⟨_, rfl⟩
  have B9 := Lib.hid (show Blk w9 b7 (bva z) 38 from by rw [hw9]; exact setRow_heap _ _ _ _ _ _ X7b.out.1)
  have T9 := Lib.hid (show But (fun q => q = b7) wb w9 from by rw [hw9]; exact (But.refl _).setRow (S := fun q => q = b7) (.inl rfl) _)
  rw [← hw9]
  clear hw9
  go_wp2_with (refine wpList_build rfl 38 #[] rfl (v := .agg (bva z)) ?hbld ?_; case hbld => (first | exact HBZ.out _ | (rw [Array.map_empty]; exact HBZ.out _) | (simp only [List.map_toArray, List.map_nil]; exact HBZ.out _)))
  refine bodyPost_ret (v := .tuple #[.int .i64 0, .agg (bva z)]) (results_tc8 Try.results16 _ _ b7 38 (bva z) _ rfl B9.out Try.underlying38 rfl HI.out) rfl ?_
  rw [HDE.out]
  exact ⟨by rw [← HZ.out], fin_do H0.out BB.out Hb.out HSb.out HTb.out T9.out (by have := HB7.out; omega) (by have := HB2.out; have := HB7.out; omega)⟩
end Go.Proofs.Ytfofkjcdohmkpaa.Kd
/-
  What a device shows whose power failed behind writes of unlike sectors. No program.
-/
namespace Go.Proofs.Ytfofkjcdohmkpaa.Kd
/-- The writes of the first sectors, each full of its number and one. -/
def wr8 (n : Nat) : List (Nat × List UInt8) := (List.range' 0 n).map fun j => (j, secC (UInt8.ofNat (j + 1)))
def dev8 (k : Nat) (b : Int) (n : Nat) : Dv := ⟨List.replicate 12 zeroS, wr8 n, k, b, false, false⟩
/-- .. on power that fails behind so many operations. -/
def sys8 (l : Int) (k : Nat) (b : Int) (n : Nat) : Sy := ⟨⟨false, l⟩, [dev8 k b n]⟩
/-- .. and when it has failed. -/
def end8 (k : Nat) (b : Int) (n : Nat) : Sy := ⟨⟨true, -1⟩, [(dev8 k b n).fall]⟩
theorem wr8_snoc (n : Nat) : wr8 n ++ [(n, secC (UInt8.ofNat (n + 1)))] = wr8 (n + 1) := by
  unfold wr8; rw [List.range'_concat, List.map_append]; simp
theorem wr8_length (n : Nat) : (wr8 n).length = n := by simp [wr8]
theorem refuse8 {l : Int} {k : Nat} {b : Int} {n m : Nat} (hm : m < 12) : refuseN (sys8 l k b n).p ((sys8 l k b n).at 0) (m : Int) = 0 := by
  show (if (false || false) = true then (13 : Int) else if (m : Int) < 0 ∨ ((List.replicate 12 zeroS).length : Int) ≤ m then 2 else 0) = 0
  rw [if_neg (by simp), if_neg (by rw [List.length_replicate]; omega)]
theorem write8t {k : Nat} {b : Int} {n : Nat} (hn : n < 12) : (sys8 (-1) k b n).write 0 (n : Int) (secC (UInt8.ofNat (n + 1))) = (0, sys8 (-1) k b (n + 1)) := by
  rw [write_yes (refuse8 hn)]
  show (0, Sy.mk ⟨false, -1⟩ [⟨List.replicate 12 zeroS, wr8 n ++ [(n, secC (UInt8.ofNat (n + 1)))], k, b, false, false⟩]) = _
  rw [wr8_snoc]; rfl
theorem write80 {k : Nat} {b : Int} {n : Nat} (hn : n < 12) : (sys8 0 k b n).write 0 (n : Int) (secC (UInt8.ofNat (n + 1))) = (13, end8 k b (n + 1)) := by
  rw [write_yes (refuse8 hn)]
  show (13, Sy.mk ⟨true, -1⟩ [Dv.fall ⟨List.replicate 12 zeroS, wr8 n ++ [(n, secC (UInt8.ofNat (n + 1)))], k, b, false, false⟩]) = _
  rw [wr8_snoc]; rfl
theorem flush80 {k : Nat} {b : Int} {n : Nat} : (sys8 0 k b n).flush 0 = (13, end8 k b n) := rfl
theorem start8 {k : Nat} {b : Int} (hb : 0 ≤ b) : (S0.new 12).put 0 (((S0.new 12).at 0).tear (k : Int) b) = sys8 (-1) k (min b 128) 0 := by
  show Sy.mk ⟨false, -1⟩ [⟨List.replicate 12 zeroS, [], keptN k, bytesN b, false, false⟩] = _
  rw [show keptN (k : Int) = k by unfold keptN; omega, show bytesN b = min b 128 by unfold bytesN; omega]; rfl
theorem torn_get {b : Int} {s t : List UInt8} {j : Nat} (hs : s.length = 128) (_ : t.length = 128) (hj : j < 128) : (tornL b s t).getD j 0 = if (j : Int) < b then s.getD j 0 else t.getD j 0 := by
  unfold tornL
  rw [List.getD_eq_getElem?_getD, List.getD_eq_getElem?_getD, List.getD_eq_getElem?_getD]
  by_cases h : (j : Int) < b
  · rw [if_pos h, List.getElem?_append_left (by rw [List.length_take]; omega), List.getElem?_take, if_pos (by omega)]
  · rw [if_neg h, List.getElem?_append_right (by rw [List.length_take]; omega), List.getElem?_drop, List.length_take]
    congr 2; omega
theorem sec_get {c : UInt8} {j : Nat} (hj : j < 128) : (secC c).getD j 0 = c := by
  unfold secC; rw [List.getD_eq_getElem?_getD, List.getElem?_replicate, if_pos hj]; rfl
theorem zero_get {j : Nat} (hj : j < 128) : zeroS.getD j 0 = 0 := by
  unfold zeroS; rw [List.getD_eq_getElem?_getD, List.getElem?_replicate, if_pos hj]; rfl
theorem end8_st (k : Nat) (b : Int) (n : Nat) : ((end8 k b n).at 0).st = fallL k b 0 (wr8 n) (List.replicate 12 zeroS) := rfl
theorem end8_len (k : Nat) (b : Int) (n : Nat) : ((end8 k b n).at 0).st.length = 12 := by rw [end8_st, fall_length, List.length_replicate]
/-- What stands at a place. -/
theorem end8_get {k n i j : Nat} {b : Int} (hn : n ≤ 12) (hi : i < 12) (hj : j < 128) : (((end8 k b n).at 0).st.getD i zeroS).getD j 0 = if i < n ∧ (i < k ∨ i = k ∧ (j : Int) < b) then UInt8.ofNat (i + 1) else 0 := by
  have hz : (List.replicate 12 zeroS).getD i zeroS = zeroS := by rw [List.getD_eq_getElem?_getD, List.getElem?_replicate, if_pos hi]; rfl
  have h := fall_run k b (fun j => secC (UInt8.ofNat (j + 1))) n 0 (List.replicate 12 zeroS) (by rw [List.length_replicate]; omega) i (by rw [List.length_replicate]; exact hi)
  rw [end8_st, show fallL k b 0 (wr8 n) (List.replicate 12 zeroS) = fallL k b 0 ((List.range' 0 n).map fun j => (j, secC (UInt8.ofNat (j + 1)))) (List.replicate 12 zeroS) from rfl, h, hz]
  by_cases h1 : i < n
  · rw [if_pos ⟨by omega, by omega⟩]
    by_cases h2 : i < k
    · rw [if_pos (by omega), if_pos ⟨h1, .inl h2⟩, sec_get hj]
    · rw [if_neg (by omega)]
      by_cases h3 : i = k
      · rw [if_pos (by omega), torn_get (secC_length _) zeroS_length hj, sec_get hj, zero_get hj]
        by_cases h4 : (j : Int) < b
        · rw [if_pos h4, if_pos ⟨h1, .inr ⟨h3, h4⟩⟩]
        · rw [if_neg h4, if_neg (by rintro ⟨_, h | ⟨_, h⟩⟩ <;> omega)]
      · rw [if_neg (by omega), zero_get hj, if_neg (by rintro ⟨_, h | ⟨h, _⟩⟩ <;> omega)]
  · rw [if_neg (by omega), zero_get hj, if_neg (by rintro ⟨h, _⟩; omega)]
theorem end8_secs (k : Nat) (b : Int) (hb : 0 ≤ b ∧ b ≤ 128) (n : Nat) : ∀ s ∈ ((end8 k b n).at 0).st, s.length = 128 := by
  rw [end8_st]
  exact fall_ok _ _ _ _ _ hb (fun s hs => by rw [List.eq_of_mem_replicate hs]; exact zeroS_length) (fun x hx => by
    obtain ⟨j, _, rfl⟩ := List.mem_map.1 hx; exact secC_length _)
/-- The cell of a byte of a row of sectors. -/
theorem svs_byte {l : List (List UInt8)} (h : ∀ x ∈ l, x.length = 128) {i j : Nat} (hi : i < l.length) (hj : j < 128) : (svs l)[128 * i + j]? = some (.int .u8 (((l.getD i zeroS).getD j 0).toNat : Int)) := by
  have hl : (l[i]).length = 128 := h _ (List.getElem_mem hi)
  refine svs_get h hi ?_
  have h1 : l.getD i zeroS = l[i] := by rw [List.getD_eq_getElem?_getD, List.getElem?_eq_getElem hi]; rfl
  rw [h1, bv, List.getElem?_map, List.getElem?_eq_getElem (by omega), List.getD_eq_getElem?_getD, List.getElem?_eq_getElem (by omega)]; rfl
end Go.Proofs.Ytfofkjcdohmkpaa.Kd
/-
  What the reference's fall is made of: a whole sector that is stored, a write more that is seen.
-/
namespace Go.Proofs.Ytfofkjcdohmkpaa.Kd
open Go.RowKit Go.Maps
theorem fallL_snoc (kept bytes : Int) (x : Nat × List UInt8) : ∀ (ws : List (Nat × List UInt8)) (k : Nat) (st : List (List UInt8)), fallL kept bytes k (ws ++ [x]) st =
    (if ((k + ws.length : Nat) : Int) < kept then (fallL kept bytes k ws st).set x.1 x.2 else if ((k + ws.length : Nat) : Int) = kept then (fallL kept bytes k ws st).set x.1 (tornL bytes x.2 ((fallL kept bytes k ws st).getD x.1 zeroS)) else fallL kept bytes k ws st)
  | [], k, st => rfl
  | y :: ws, k, st => by
    rw [List.cons_append, fallL, fallL_snoc kept bytes x ws (k + 1), List.length_cons, fallL, show k + 1 + ws.length = k + (ws.length + 1) by omega]
/-- The writes that wait, up to the j-th, seen. -/
def Dv.fell (d : Dv) (j : Nat) : Dv := { d with st := fallL d.kept d.bytes 0 (d.wt.take j) d.st }
theorem fell_zero (d : Dv) : d.fell 0 = d := rfl
theorem fell_succ {d : Dv} {j : Nat} (hj : j < d.wt.length) : (d.fell (j + 1)).st =
    (if (j : Int) < d.kept then (d.fell j).st.set d.wt[j].1 d.wt[j].2 else if (j : Int) = d.kept then (d.fell j).st.set d.wt[j].1 (tornL d.bytes d.wt[j].2 ((d.fell j).st.getD d.wt[j].1 zeroS)) else (d.fell j).st) := by
  show fallL d.kept d.bytes 0 (d.wt.take (j + 1)) d.st = _
  rw [List.take_succ_eq_append_getElem hj, fallL_snoc, Nat.zero_add, List.length_take, Nat.min_eq_left (by omega)]; rfl
theorem fell_all {d : Dv} (h : d.gone = false) : d.fall = { d.fell d.wt.length with wt := [] } := by
  unfold Dv.fall Dv.fell
  rw [if_neg (by rw [h]; simp), List.take_length]
theorem fell_len (d : Dv) (j : Nat) : (d.fell j).st.length = d.st.length := fall_length _ _ _ _ _
theorem fell_st (d : Dv) (st : List (List UInt8)) (j : Nat) (h : (d.fell (j + 1)).st = st) : d.fell (j + 1) = { d.fell j with st := st } := by
  rw [← h]; rfl
/-- A whole sector is stored in a device's stable row. -/
theorem RdO.set8 {w : World} {g : Nat} {d : Dv} {G n c : Nat} {W : Option Addr} {m e : Nat} (h : RdO w g d (some ⟨G, 0, none⟩) n c W m e) {u : Nat} (hu : u < n) {s : List UInt8} (hs : s.length = 128) :
    RdO (w.setCells G (u * 128) (bv s)) g { d with st := d.st.set u s } (some ⟨G, 0, none⟩) n c W m e ∧ But (fun q => (Value.slice (some ⟨G, 0, none⟩) n c).ownBlock = some q) w (w.setCells G (u * 128) (bv s)) ∧ w.there G (u * 128) (bva s).size := by
  have hom := own_setMid (o := u * 128) (vs := bv s) h.st (by rw [bv_length, hs]; omega)
  have hbt : But (fun q => (Value.slice (some ⟨G, 0, none⟩) n c).ownBlock = some q) w (w.setCells G (u * 128) (bv s)) := (But.refl _).grown (grown_setCells _ _ _ _) (fun j hj => .inl hj)
  have hul : u < d.st.length := by rw [h.stn]; exact hu
  refine ⟨⟨h.blk.but hbt (fun hq => h.apart.1 g hq rfl), ?_, Own.but h.wt hbt (fun q hq hq' => h.apart.2.2 q hq' hq), ?_, h.wtn, ⟨set_ok h.ok.st hs u, ?_, h.ok.kept, h.ok.bytes, ?_⟩, h.idle⟩, hbt, ?_⟩
  · show (w.setCells G (u * 128) (bv s)).ownsRow 0 38 128 _ n (svs (d.st.set u s))
    rw [svs_splice h.ok.st hs hul]; exact hom.1
  · show (d.st.set u s).length = n
    rw [List.length_set]; exact h.stn
  · intro v hv
    show v.1 < (d.st.set u s).length ∧ _
    rw [List.length_set]; exact h.ok.wt v hv
  · show (d.st.set u s).length ≤ 4096
    rw [List.length_set]; exact h.ok.len
  · have h2 := hom.2
    rwa [show (bv s).length = (bva s).size by rw [bv_length, bva_size]] at h2
/-- A write that waits, read whole. -/
theorem RdO.wait8 {w : World} {g : Nat} {d : Dv} {A : Option Addr} {n c R m e : Nat} (h : RdO w g d A n c (some ⟨R, 0, none⟩) m e) {j : Nat} (hj : j < d.wt.length) :
    ∀ jj v, (wv d.wt[j])[jj]? = some v → w.cell? ((⟨R, j * 129, none⟩ : Addr).add jj) = some v := fun jj v hv => by
  obtain ⟨ad, e1, _, hc⟩ := (Rd.ownN h.wt) _ _ (wvs_get (fun x hx => (h.ok.wt x hx).2) hj hv)
  injection e1 with e1; subst e1
  rw [Addr.add_mid, Nat.zero_add] at hc
  rw [Addr.add_mid, Nat.mul_comm j 129]; exact hc
/-- A byte more is torn off. -/
theorem torn_set8 {t : Nat} {s y : List UInt8} (ht : t < 128) (hs : s.length = 128) (hy : y.length = 128) : (tornL (t : Int) s y).set t (s.getD t 0) = tornL ((t + 1 : Nat) : Int) s y := by
  have h1 : (tornL (t : Int) s y).length = 128 := torn_length hs hy (by omega)
  have h2 : (tornL ((t + 1 : Nat) : Int) s y).length = 128 := torn_length hs hy (by omega)
  apply List.ext_getElem (by rw [List.length_set, h1, h2])
  intro i hi1 hi2
  have hi : i < 128 := by omega
  have g1 : (tornL (t : Int) s y).getD i 0 = (tornL (t : Int) s y)[i]'(by omega) := by rw [List.getD_eq_getElem?_getD, List.getElem?_eq_getElem (by omega)]; rfl
  have g2 : (tornL ((t + 1 : Nat) : Int) s y).getD i 0 = (tornL ((t + 1 : Nat) : Int) s y)[i] := by rw [List.getD_eq_getElem?_getD, List.getElem?_eq_getElem (by omega)]; rfl
  rw [List.getElem_set, ← g1, ← g2, torn_get hs hy hi, torn_get hs hy hi]
  by_cases h : t = i
  · subst h; rw [if_pos rfl, if_pos (by omega)]
  · rw [if_neg h]
    by_cases h3 : (i : Int) < (t : Int)
    · rw [if_pos h3, if_pos (by omega)]
    · rw [if_neg h3, if_neg (by omega)]
theorem torn_zero {s y : List UInt8} : tornL 0 s y = y := by unfold tornL; simp
end Go.Proofs.Ytfofkjcdohmkpaa.Kd
