/-
  The contract of a device's Read.
-/
import Derived.Test.YtolbffcbamfbeaaKdFlush
namespace Go.Proofs.Ytolbffcbamfbeaa.Kd
open Go.RowKit Go.Maps
attribute [local go_sem ↓] Go.wp_at_zero Go.wp_at_succ
/-- What Read tells of a sector. -/
def readS (P : Pw) (d : Dv) (i : Int) : List UInt8 := if refuseN P d i = 0 then d.now i.toNat else zeroS
theorem readV_eq (P : Pw) (d : Dv) (i : Int) : readV P d i = .tuple #[.agg (bva (readS P d i)), .int .i64 (refuseN P d i)] := rfl
theorem readS_length {P : Pw} {d : Dv} (h : d.ok) (i : Int) : (readS P d i).length = 128 := by
  unfold readS; split
  · exact now_ok _ _ _ h.st (fun v hv => (h.wt v hv).2)
  · exact zeroS_length
set_option maxRecDepth 100000 in
set_option maxHeartbeats 6400000 in
theorem dread_any {w : World} {p : Nat} {gs : List Nat} {S : Sy} {F : Nat → Prop} (h : Sys w p gs S F) (k : Nat) (hk : k < S.ds.length) (i : Int) :
    Calls Try.prog 26 #[.pointer (some ⟨gs.getD k 0, 0, none⟩), .int .i64 i] w (RetB (readV S.p (S.at k) i) w) := by
  obtain ⟨bs, Fs, FA, fc, lf, h, _, _⟩ := h
  obtain ⟨A, n, c, W, m, e, M, D, hd, _⟩ := h.dev k hk
  obtain ⟨d, hdd⟩ : ∃ d, d = S.at k := ⟨_, rfl⟩
  obtain ⟨g, hgg⟩ : ∃ g, g = gs.getD k 0 := ⟨_, rfl⟩
  obtain ⟨P, hP⟩ : ∃ P, P = S.p := ⟨_, rfl⟩
  rw [← hdd, ← hgg] at hd
  rw [← hgg, ← hdd, ← hP]
  have hpb := h.pow.blk
  rw [← hP] at hpb
  obtain ⟨z, hz0⟩ : ∃ z : List UInt8, z = zeroS := ⟨_, rfl⟩
  have hz : ∀ W, (zeroValue 38).run Try.prog W = .ok (.agg (bva z)) W := fun _ => by rw [hz0]; kernel_rfl
  have HBZ := Lib.hid (show ∀ W, (Instr.build 38 #[]).run Try.prog W = .ok (.agg (bva z)) W from fun _ => by rw [hz0]; kernel_rfl)
  have hze : ∀ W, (zeroValue 3).run Try.prog W = .ok (.int .i64 0) W := fun _ => by kernel_rfl
  have HZE := Lib.hid hze
  have Z3 : Hid (z.length = 128) := by show _ = _; rw [hz0]; exact zeroS_length
  have HIZ : Hid ((Try.prog.info? 38).map (·.size) = some (bva z).size) := by show _ = _; rw [bva_size, Z3.out]; exact info_sec
  have Z0 := Lib.hid hz0
  have B0 := Lib.hid (show Below w.heap.size w (w.alloc (.cells (bva z) 38)) from (Below.refl _ w).alloc (Nat.le_refl _) _)
  have R0 := Lib.hid (show Blk (w.alloc (.cells (bva z) 38)) w.heap.size (bva z) 38 from heap_alloc_new _ _)
  have HD := Lib.hid (hd.below B0.out)
  have HDB := Lib.hid HD.out.blk
  have HPW := Lib.hid (hpb.below B0.out)
  have hrf : refuseN P d i = reachN P.off d.gone n i := reach_refuse hd.stn i
  clear h hd hdd hgg hP hpb hz0 hze
  by_cases hr : reachN P.off d.gone n i = 0
  · have h0 := refuse_zero (hrf.trans hr)
    obtain ⟨j, rfl⟩ := Int.eq_ofNat_of_zero_le h0.2.2.1
    have hjn : j < n := by have := HD.out.stn; omega
    have hjl : j < d.st.length := by have := HD.out.stn; omega
    have HR := Lib.hid hr
    have HRF := Lib.hid (show refuseN P d (j : Int) = 0 from hrf.trans hr)
    obtain ⟨y, hy⟩ : ∃ y, y = d.now j := ⟨_, rfl⟩
    have HYV := Lib.hid (show readV P d (j : Int) = .tuple #[.agg (bva y), .int .i64 0] by rw [readV_yes HRF.out, hy]; rfl)
    have Y3 : Hid (y.length = 128) := by show _ = _; rw [hy]; exact now_ok _ _ _ HD.out.ok.st (fun v hv => (HD.out.ok.wt v hv).2)
    have HIY : Hid ((Try.prog.info? 38).map (·.size) = some (bva y).size) := by show _ = _; rw [bva_size, Y3.out]; exact info_sec
    have HIYL : Hid ((Try.prog.info? 38).map (·.size) = some (bv y).length) := by show _ = _; rw [bv_length, Y3.out]; exact info_sec
    have j0 : (0 : Int) ≤ (j : Int) := by omega
    have j1 : (j : Int) < (n : Int) := by omega
    have jb : (j : Int) ≤ 4096 := by have := HD.out.ok.len; omega
    have HKI := Lib.hid (keyOf_int_mk (P := Try.prog) (k := 3) Try.underlying3 (wfI (z := (j : Int)) (by omega)))
    cases hl : lastL d.wt j with
    | none =>
      have HHS := Lib.hid (show Maps.has D (.int .i64 (j : Int)) = false by rw [HD.out.last.has j, hl]; rfl)
      obtain ⟨ad, hA, _, hce⟩ := rd_sec (Rd.ownN HD.out.st) HD.out.ok.st hjl
      have hys : y = d.st[j] := by rw [hy, Dv.now, last_none hl, List.getD_eq_getElem?_getD, List.getElem?_eq_getElem hjl]; rfl
      rw [← hys] at hce
      subst hA
      have CE := Lib.hid hce
      have c3 := HDB.out.cell 3
      have c1 := HDB.out.cell 1
      clear hl h0 hjn hjl hr hrf hy hys hce
      go_enter Try.func26, Try.ntmps26
      go_wp2_with (first
        | (refine (reaches_any P.off d.gone _ _ _ n c (j : Int) HPW.out HDB.out).mono ?_; rintro e' w' ⟨rfl, rfl⟩; rw [HR.out])
        | (at_lookup; refine wpList_lookup_own_ok_int _ rfl _ _ 72 rfl 3 3 .i64 lawI Try.underlying72 Try.underlying3 (HZE.out _) M m D rfl HD.out.map (.int .i64 (j : Int)) (.int .i64 (j : Int)) rfl HKI.out ?_; intro cv hat hwc; rw [HHS.out])
        | (refine wpList_load_at rfl 38 (.tmp 39) rfl (ad.add (j * 128)) rfl CE.out Try.underlying38 rfl HIYL.out ?_
           change wpList _ _ _ _ (Act.put _ _ (.agg (bva y))) _)
        | (refine wpList_store_row rfl 38 (.tmp 4) (.tmp 40) rfl w.heap.size (bva y) rfl rfl 38 (bva z) R0.out HIY.out (by rw [bva_size, bva_size, Y3.out, Z3.out]) (bva_one _) ?_))
      exact bodyPost_ret (v := .tuple #[.agg (bva y), .int .i64 0]) (results_ct8 Try.results26 _ _ w.heap.size 38 (bva y) _ rfl (setRow_heap _ _ _ _ _ _ R0.out) Try.underlying38 rfl HIY.out) rfl ⟨by rw [HYV.out], below_setRow B0.out (Nat.le_refl _) _⟩
    | some q =>
      have HHS := Lib.hid (show Maps.has D (.int .i64 (j : Int)) = true by rw [HD.out.last.has j, hl]; rfl)
      have HAT := Lib.hid (HD.out.last.at_ j q hl)
      obtain ⟨hq, hnq⟩ := last_some (st := d.st) hl
      obtain ⟨ad, hA, _, hx1, hce⟩ := rd_wait (Rd.ownN HD.out.wt) (fun v hv => (HD.out.ok.wt v hv).2) hq
      have hys : y = d.wt[q].2 := by rw [hy, Dv.now, hnq]
      rw [← hys] at hce
      subst hA
      have hcs : ∀ jj v, (bv y)[jj]? = some v → (w.alloc (.cells (bva z) 38)).cell? ((⟨(ad.add (q * 129)).block, (ad.add (q * 129)).off + 1, none⟩ : Addr).add jj) = some v := hce
      have CE := Lib.hid hcs
      have c3 := HDB.out.cell 3
      have c2 := HDB.out.cell 2
      have q0 : (0 : Int) ≤ (q : Int) := by omega
      have q1 : (q : Int) < (m : Int) := by have := HD.out.wtn; omega
      clear hl h0 hjn hjl hr hrf hy hys hce hcs hx1 hq hnq
      go_enter Try.func26, Try.ntmps26
      go_wp2_with (first
        | (refine (reaches_any P.off d.gone _ _ A n c (j : Int) HPW.out HDB.out).mono ?_; rintro e' w' ⟨rfl, rfl⟩; rw [HR.out])
        | (at_lookup; refine wpList_lookup_own_ok_int _ rfl _ _ 72 rfl 3 3 .i64 lawI Try.underlying72 Try.underlying3 (HZE.out _) M m D rfl HD.out.map (.int .i64 (j : Int)) (.int .i64 (j : Int)) rfl HKI.out ?_; intro cv hat hwc; rw [HHS.out]; have hcv : cv = (q : Int) := (by rw [HAT.out] at hat; injection hat with hat; injection hat with _ hat; exact hat.symm); subst hcv; clear hat hwc)
        | (refine wpList_load_at rfl 38 (.tmp 32) rfl (⟨(ad.add (q * 129)).block, (ad.add (q * 129)).off + 1, none⟩ : Addr) rfl CE.out Try.underlying38 rfl HIYL.out ?_
           change wpList _ _ _ _ (Act.put _ _ (.agg (bva y))) _)
        | (refine wpList_store_row rfl 38 (.tmp 4) (.tmp 33) rfl w.heap.size (bva y) rfl rfl 38 (bva z) R0.out HIY.out (by rw [bva_size, bva_size, Y3.out, Z3.out]) (bva_one _) ?_))
      exact bodyPost_ret (v := .tuple #[.agg (bva y), .int .i64 0]) (results_ct8 Try.results26 _ _ w.heap.size 38 (bva y) _ rfl (setRow_heap _ _ _ _ _ _ R0.out) Try.underlying38 rfl HIY.out) rfl ⟨by rw [HYV.out], below_setRow B0.out (Nat.le_refl _) _⟩
  · obtain ⟨x, hx⟩ : ∃ x, x = reachN P.off d.gone n i := ⟨_, rfl⟩
    have hx0 : (x == 0) = false := by rw [hx]; simpa using hr
    have HYV := Lib.hid (show readV P d i = .tuple #[.agg (bva z), .int .i64 x] by rw [readV_no (x := x) (hrf.trans hx.symm) (by rw [hx]; exact hr), Z0.out])
    have HXV := Lib.hid hx.symm
    clear hr hx hrf
    go_enter Try.func26, Try.ntmps26
    go_wp2_with (first
      | (refine (reaches_any P.off d.gone _ _ A n c i HPW.out HDB.out).mono ?_; rintro e' w' ⟨rfl, rfl⟩; rw [HXV.out])
      | (refine wpList_build rfl 38 #[] rfl (v := .agg (bva z)) ?hbld ?_; case hbld => exact HBZ.out _)
      | (refine wpList_store_row rfl 38 (.tmp 4) (.tmp 14) rfl w.heap.size (bva z) rfl rfl 38 (bva z) R0.out HIZ.out (by rfl) (bva_one _) ?_))
    exact bodyPost_ret (v := .tuple #[.agg (bva z), .int .i64 x]) (results_ct8 Try.results26 _ _ w.heap.size 38 (bva z) _ rfl (setRow_heap _ _ _ _ _ _ R0.out) Try.underlying38 rfl HIZ.out) rfl ⟨by rw [HYV.out], below_setRow B0.out (Nat.le_refl _) _⟩
end Go.Proofs.Ytolbffcbamfbeaa.Kd
