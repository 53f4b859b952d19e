/-
  The reference's device: how it lies in memory; the contract of its now.
-/
import Derived.Test.YtolbffcbamfbeaaKdRow
namespace Go.Proofs.Ytolbffcbamfbeaa.Kd
open Go.RowKit
attribute [local go_sem ↓] Go.wp_at_zero Go.wp_at_succ
/-- The cells of a row of waits. -/
def wv (x : Nat × List UInt8) : List Value := .int .i64 (x.1 : Int) :: bv x.2
def wvs : List (Nat × List UInt8) → List Value
  | [] => []
  | x :: l => wv x ++ wvs l
theorem wv_length {x : Nat × List UInt8} (h : x.2.length = 128) : (wv x).length = 129 := by rw [wv, List.length_cons, bv_length, h]
theorem wvs_append (a b : List (Nat × List UInt8)) : wvs (a ++ b) = wvs a ++ wvs b := by
  induction a with
  | nil => rfl
  | cons x l ih => simp [wvs, ih]
theorem wvs_length {l : List (Nat × List UInt8)} (h : ∀ x ∈ l, x.2.length = 128) : (wvs l).length = l.length * 129 := by
  induction l with
  | nil => rfl
  | cons x l ih =>
    rw [wvs, List.length_append, wv_length (h x (by simp)), ih (fun y hy => h y (by simp [hy])), List.length_cons]; omega
theorem wvs_get {l : List (Nat × List UInt8)} (h : ∀ x ∈ l, x.2.length = 128) {k : Nat} (hk : k < l.length) {j : Nat} {v : Value} (hv : (wv l[k])[j]? = some v) : (wvs l)[129 * k + j]? = some v := by
  induction l generalizing k with
  | nil => simp at hk
  | cons x l ih =>
    have h8 : (wv x).length = 129 := wv_length (h x (by simp))
    cases k with
    | zero =>
      have hj : j < 129 := by rw [← h8]; exact (List.getElem?_eq_some_iff.1 hv).1
      rw [wvs, Nat.mul_zero, Nat.zero_add, List.getElem?_append_left (by omega)]
      exact hv
    | succ k =>
      rw [wvs, List.getElem?_append_right (by omega), h8, show 129 * (k + 1) + j - 129 = 129 * k + j by omega]
      exact ih (fun y hy => h y (by simp [hy])) (by simpa using hk) (by simpa using hv)
theorem rd_wait {B : Nat} {w : World} {A : Option Addr} {l : List (Nat × List UInt8)} (h : Rd B w A (wvs l)) (hl : ∀ x ∈ l, x.2.length = 128) {k : Nat} (hk : k < l.length) :
    ∃ ad, A = some ad ∧ ad.block < B ∧ (w.cell? (ad.add (k * 129)) = some (.int .i64 (l[k].1 : Int))) ∧ ∀ j v, (bv l[k].2)[j]? = some v → w.cell? (((ad.add (k * 129)).add 1).add j) = some v := by
  have h0 : (wv l[k])[0]? = some (.int .i64 (l[k].1 : Int)) := rfl
  obtain ⟨ad, hA, hb, hc⟩ := h (129 * k + 0) _ (wvs_get hl hk h0)
  refine ⟨ad, hA, hb, by rw [Nat.mul_comm]; exact hc, fun j v hv => ?_⟩
  obtain ⟨ad', hA', _, hc⟩ := h (129 * k + (j + 1)) v (wvs_get hl hk (by rw [wv, List.getElem?_cons_succ]; exact hv))
  rw [hA] at hA'
  injection hA' with hA'
  rw [hA', add_twice8, add_twice8, Nat.mul_comm k 129, show 129 * k + (1 + j) = 129 * k + (j + 1) by omega]
  exact hc
/-- A device of the reference, as it can be read. -/
structure RdD (B : Nat) (w : World) (g : Nat) (d : Dv) (A : Option Addr) (n c : Nat) (W : Option Addr) (m e : Nat) : Prop where
  blk : Blk w g #[.slice A n c, .slice W m e, .int .i64 d.kept, .int .i64 d.bytes, .bool d.lies, .bool d.gone] 46
  st : Rd B w A (svs d.st)
  wt : Rd B w W (wvs d.wt)
  stn : d.st.length = n
  wtn : d.wt.length = m
  ok : d.ok
  few : m ≤ maxLen
theorem RdD.below {B g n c m e : Nat} {w w' : World} {d : Dv} {A W : Option Addr} (h : RdD B w g d A n c W m e) (hb : Below w.heap.size w w') (hB : B ≤ w.heap.size) : RdD B w' g d A n c W m e :=
  ⟨h.blk.below hb, h.st.below (hb.mono hB), h.wt.below (hb.mono hB), h.stn, h.wtn, h.ok, h.few⟩
theorem now_take {d : Dv} {k n : Nat} (hk : k < d.wt.length) : nowL d.st (d.wt.take (k + 1)) n = if d.wt[k].1 = n then d.wt[k].2 else nowL d.st (d.wt.take k) n := by
  rw [List.take_succ_eq_append_getElem hk]
  exact now_snoc _ _ _ _ _
theorem blk_old8 {w : World} {g : Nat} {cs : Array Value} {t : TypeId} {A : Obj} (h : Blk w g cs t) : Blk (w.alloc A) g cs t := (heap_alloc_old _ _ h.lt).trans h
theorem blk_row8 {w : World} {g g' : Nat} {cs cs' : Array Value} {t : TypeId} (h : Blk w g cs t) (hg : g ≠ g') : Blk (w.setRow g' cs') g cs t := by unfold Blk; rw [setRow_other _ _ _ _ hg]; exact h
set_option maxRecDepth 100000 in
set_option maxHeartbeats 3200000 in
theorem rnow_any {g n c m e : Nat} {d : Dv} {A W : Option Addr} {w : World} (h : RdD w.heap.size w g d A n c W m e) (i : Nat) (hi : i < n) :
    Calls Try.prog 49 #[.pointer (some ⟨g, 0, none⟩), .int .i64 (i : Int)] w (RetB (.agg (bva (d.now i))) w) := by
  obtain ⟨z, hz0⟩ : ∃ z : List UInt8, z = List.replicate 128 0 := ⟨_, rfl⟩
  have hz : ∀ W, (zeroValue 38).run Try.prog W = .ok (.agg (bva z)) W := fun _ => by rw [hz0]; kernel_rfl
  have Z3 : Hid (z.length = 128) := by show _ = _; rw [hz0, List.length_replicate]
  have H := Lib.hid h
  have hil : i < d.st.length := by rw [h.stn]; exact hi
  obtain ⟨ad, hA, hbl, hce⟩ := rd_sec h.st h.ok.st hil
  subst hA
  obtain ⟨s, hs⟩ : ∃ s, s = nowL d.st [] i := ⟨_, rfl⟩
  have hse : s = d.st[i] := by rw [hs, flush_nil, List.getD_eq_getElem?_getD, List.getElem?_eq_getElem hil]; rfl
  have hs3 : s.length = 128 := by rw [hse]; exact h.ok.st _ (List.getElem_mem hil)
  rw [← hse] at hce
  have HSV := Lib.hid hs
  have HS3 := Lib.hid hs3
  have HI : Hid ((Try.prog.info? 38).map (·.size) = some (bv s).length) := by rw [bv_length, hs3]; exact info_sec
  have HIA : Hid ((Try.prog.info? 38).map (·.size) = some (bva s).size) := by rw [bva_size, hs3]; exact info_sec
  have B0 := Lib.hid (show Below w.heap.size w (w.alloc (.cells (bva z) 38)) from (Below.refl _ w).alloc (Nat.le_refl _) _)
  have h1 := h.below B0.out (Nat.le_refl _)
  have c0 := h1.blk.cell 0
  have c1 := h1.blk.cell 1
  obtain ⟨ad', hA', _, hce1⟩ := rd_sec h1.st h.ok.st hil
  injection hA' with hA'
  subst hA'
  rw [← hse] at hce1
  have i0 : (0 : Int) ≤ (i : Int) := by omega
  have i1 : (i : Int) < (n : Int) := by omega
  have CE := Lib.hid hce1
  have R0 := Lib.hid (show Blk (w.alloc (.cells (bva z) 38)) w.heap.size (bva z) 38 from heap_alloc_new _ _)
  clear hz0 h h1 hs hse hs3 hce hce1 hil
  go_enter Try.func49, Try.ntmps49
  go_wp2_with (first
    | (refine wpList_load_at rfl 38 (.tmp 12) rfl (ad.add (i * 128)) rfl CE.out Try.underlying38 rfl HI.out ?_
       change wpList _ _ _ _ (Act.put _ _ (.agg (bva s))) _)
    | (refine wpList_store_row rfl 38 (.tmp 5) (.tmp 13) rfl (w.heap.size + 1) (bva s) rfl rfl 38 (bva z) (by have h := heap_alloc_new (w.alloc (.cells (bva z) 38)) (.cells (bva z) 38); rwa [World.size_alloc] at h) HIA.out (by rw [bva_size, bva_size, HS3.out, Z3.out]) (bva_one _) ?_
       generalize hwx : World.setRow _ _ _ = wx
       have x1 : Blk wx w.heap.size (bva z) 38 := by rw [← hwx]; exact blk_row8 (blk_old8 R0.out) (by omega)
       have x2 : Blk wx (w.heap.size + 1) (bva s) 38 := by rw [← hwx]; exact setRow_heap _ _ _ _ _ _ (by have h := heap_alloc_new (w.alloc (.cells (bva z) 38)) (.cells (bva z) 38); rwa [World.size_alloc] at h)
       have x3 : Below w.heap.size w wx := by rw [← hwx]; exact below_setRow (B0.out.alloc (by simp) _) (by omega) _
       have X1 := Lib.hid x1
       have X2 := Lib.hid x2
       have X3 := Lib.hid x3
       clear hwx x1 x2 x3 R0 B0 c0 c1 CE))
  go_loopw [6] (fun x wr => ∃ k, k ≤ m ∧ x = .int .i64 (k : Nat) ∧ Blk wr w.heap.size (bva z) 38 ∧ Blk wr (w.heap.size + 1) (bva (nowL d.st (d.wt.take k) i)) 38 ∧ Below w.heap.size w wr) (fun x _ => m - (intOf x).toNat)
  case atStart => exact ⟨0, by omega, rfl, X1.out, by rw [List.take_zero, ← HSV.out]; exact X2.out, X3.out⟩
  case round =>
    clear X1 X2 X3
    obtain ⟨k, hk, rfl, hx1, hx2, hbw⟩ := hrel
    have X1 := Lib.hid hx1
    have HB := Lib.hid hbw
    obtain ⟨y, hy⟩ : ∃ y, y = nowL d.st (d.wt.take k) i := ⟨_, rfl⟩
    rw [← hy] at hx2
    have X2 := Lib.hid hx2
    have HY := Lib.hid hy
    have Y3 : Hid (y.length = 128) := by show _ = _; rw [hy]; exact now_ok _ _ _ H.out.ok.st (fun v hv => (H.out.ok.wt v (List.mem_of_mem_take hv)).2)
    have HIY : Hid ((Try.prog.info? 38).map (·.size) = some (bva y).size) := by show _ = _; rw [bva_size, Y3.out]; exact info_sec
    have h2 := H.out.below hbw (Nat.le_refl _)
    have c0 := h2.blk.cell 0
    have c1 := h2.blk.cell 1
    clear hx1 hx2 hy
    by_cases hlt : k < m
    · have hkl : k < d.wt.length := by rw [H.out.wtn]; exact hlt
      obtain ⟨bd, hB, _, hcn, hcs⟩ := rd_wait h2.wt (fun v hv => (H.out.ok.wt v hv).2) hkl
      subst hB
      obtain ⟨t, ht⟩ : ∃ t, t = d.wt[k].2 := ⟨_, rfl⟩
      obtain ⟨u, hu⟩ : ∃ u, u = d.wt[k].1 := ⟨_, rfl⟩
      rw [← hu] at hcn
      rw [← ht] at hcs
      have T3 : Hid (t.length = 128) := by show _ = _; rw [ht]; exact (H.out.ok.wt _ (List.getElem_mem hkl)).2
      have HIT : Hid ((Try.prog.info? 38).map (·.size) = some (bv t).length) := by show _ = _; rw [bv_length, T3.out]; exact info_sec
      have HITA : Hid ((Try.prog.info? 38).map (·.size) = some (bva t).size) := by show _ = _; rw [bva_size, T3.out]; exact info_sec
      have HNX := Lib.hid (show nowL d.st (d.wt.take (k + 1)) i = if u = i then t else y by rw [now_take hkl, hu, ht, HY.out])
      have CS := Lib.hid (show ∀ j v, (bv t)[j]? = some v → wr.cell? ((⟨(bd.add (k * 129)).block, (bd.add (k * 129)).off + 1, none⟩ : Addr).add j) = some v from hcs)
      have k0 : (0 : Int) ≤ (k : Int) := by omega
      have k1 : (k : Int) < (m : Int) := by omega
      have ek : IntKind.i64.wrap ((k : Int) + 1) = ((k + 1 : Nat) : Int) := by have := H.out.few; unfold maxLen at this; rw [IntWalk.i64_in _ (by omega)]; omega
      clear hcs hu ht h2
      by_cases hui : u = i
      · have hd : ((u : Int) == (i : Int)) = true := by simp; omega
        have HUI := Lib.hid hui
        clear hui
        go_wp2_with (first
          | (refine wpList_load_at rfl 38 (.tmp 39) rfl (⟨(bd.add (k * 129)).block, (bd.add (k * 129)).off + 1, none⟩ : Addr) rfl CS.out Try.underlying38 rfl HIT.out ?_
             change wpList _ _ _ _ (Act.put _ _ (.agg (bva t))) _)
          | (refine wpList_store_row rfl 38 (.tmp 5) (.tmp 40) rfl (w.heap.size + 1) (bva t) rfl rfl 38 (bva y) X2.out HITA.out (by rw [bva_size, bva_size, T3.out, Y3.out]) (bva_one _) ?_
             generalize hwx : World.setRow _ _ _ = wx
             have y1 : Blk wx w.heap.size (bva z) 38 := by rw [← hwx]; exact blk_row8 X1.out (by omega)
             have y2 : Blk wx (w.heap.size + 1) (bva t) 38 := by rw [← hwx]; exact setRow_heap _ _ _ _ _ _ X2.out
             have y3 : Below w.heap.size w wx := by rw [← hwx]; exact below_setRow HB.out (by omega) _
             have Z1 := Lib.hid y1
             have Z2 := Lib.hid y2
             have Z4 := Lib.hid y3
             clear hwx y1 y2 y3 X1 X2 HB c0 c1 CS hcn hbw))
        go_roundw
        case rel => exact ⟨k + 1, by omega, by go_num, Z1.out, by rw [HNX.out, if_pos HUI.out]; exact Z2.out, Z4.out⟩
        case measure => simp [intOf]; omega
      · have hd : ((u : Int) == (i : Int)) = false := by simp; omega
        have HUI := Lib.hid hui
        clear hui
        go_wp2_with fail
        go_roundw
        case rel => exact ⟨k + 1, by omega, by go_num, X1.out, by rw [HNX.out, if_neg HUI.out]; exact X2.out, HB.out⟩
        case measure => simp [intOf]; omega
    · obtain rfl : m = k := by omega
      have hyn : y = d.now i := by rw [HY.out, List.take_of_length_le (by rw [H.out.wtn]; omega)]; rfl
      have HYN := Lib.hid hyn
      clear hyn h2
      go_wp2_with (first
        | (refine wpList_load_row rfl 38 (.tmp 5) rfl (w.heap.size + 1) rfl 38 (bva y) (0, 0) _ X2.out Try.underlying38 rfl HIY.out ?_)
        | (refine wpList_store_row rfl 38 (.tmp 4) (.tmp 41) rfl w.heap.size (bva y) rfl rfl 38 (bva z) X1.out HIY.out (by rw [bva_size, bva_size, Y3.out, Z3.out]) (bva_one _) ?_))
      exact bodyPost_ret (v := .agg (bva y)) (results_cell_row Try.results49 _ _ w.heap.size 38 (bva y) (0, 0) _ rfl (setRow_heap _ _ _ _ _ _ X1.out) Try.underlying38 rfl HIY.out) rfl ⟨by rw [HYN.out], below_setRow HB.out (by omega) _⟩
end Go.Proofs.Ytolbffcbamfbeaa.Kd
