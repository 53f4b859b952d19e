/-
  The contract of the device's New.
-/
import Derived.Test.YtolbffcbamfbeaaKdDump
import Derived.Deep.DeepCutAuto
namespace Go.Proofs.Ytolbffcbamfbeaa.Kd
open Go.RowKit Go.Maps
attribute [local go_sem ↓] Go.wp_at_zero Go.wp_at_succ
/-- So many sectors. -/
def clampN (x : Int) : Nat := (min (max x 0) 4096).toNat
def newDv (n : Nat) : Dv := ⟨List.replicate n zeroS, [], 0, 0, false, false⟩
def Sy.new (S : Sy) (x : Int) : Sy := ⟨S.p, S.ds ++ [newDv (clampN x)]⟩
def newCells (A : Option Addr) (n c p : Nat) (WV MV : Value) : Array Value := #[.pointer (some ⟨p, 0, none⟩), .slice A n c, WV, MV, .int .i64 0, .int .i64 0, .bool false, .bool false]
theorem bv_zero8 (k : Nat) : bv (List.replicate k 0) = List.replicate k (.int .u8 0) := by
  simp [bv]
theorem svs_zero : ∀ (n : Nat), svs (List.replicate n zeroS) = List.replicate (n * 128) (.int .u8 0)
  | 0 => rfl
  | n + 1 => by
    rw [List.replicate_succ, svs, svs_zero n, zeroS, bv_zero8, List.replicate_append_replicate]
    congr 1; omega
theorem made_svs (n : Nat) : (madeCells (bva zeroS) (n * 128)).toList = svs (List.replicate n zeroS) := by
  rw [svs_zero]
  refine List.eq_replicate_iff.2 ⟨by rw [Array.length_toList, size_madeCells], fun v hv => ?_⟩
  rw [Array.mem_toList_iff] at hv
  unfold madeCells at hv
  rw [Array.mem_map] at hv
  obtain ⟨i, _, rfl⟩ := hv
  have hz : bva zeroS = Array.replicate 128 (.int .u8 0) := by rw [bva, zeroS, bv_zero8]; exact List.toArray_replicate ..
  have hs : (bva zeroS).size = 128 := by rw [hz]; simp
  rw [getElem!_pos (bva zeroS) _ (by rw [hs]; exact Nat.mod_lt _ (by omega))]
  simp only [hz, Array.getElem_replicate]
theorem below_of_grown8 {w w' : World} (hg : w.grownBy w' none) : Below w.heap.size w w' := ⟨hg.os, hg.tape, hg.output, hg.size, fun k hk => hg.block k hk (by simp)⟩
/-- It returns a new device, of which, and of the others, the power's devices are S. -/
def RetNew (p : Nat) (gs : List Nat) (S : Sy) (F : Nat → Prop) (w : World) (e : Ending) (w' : World) : Prop :=
  ∃ g, e = .returned (.pointer (some ⟨g, 0, none⟩)) ∧ ∃ F', Sys w' p (gs ++ [g]) S F' ∧ (∀ q, F' q → F q ∨ w.heap.size ≤ q) ∧ But F w w'
theorem info_func : (Try.prog.info? 1).map (fun i => (i.zero, i.size, i.bytes)) = some (some .nilFunc, 1, 8) := by kernel_rfl
theorem funcsElt : EltN Try.prog 68 1 .nilFunc 1 8 := ⟨Try.underlying68, info_func, rfl, by omega, by omega⟩
theorem getD_left8 {α : Type} {l : List α} {x z : α} {i : Nat} (h : i < l.length) : (l ++ [x]).getD i z = l.getD i z := by
  rw [List.getD_eq_getElem?_getD, List.getD_eq_getElem?_getD, List.getElem?_append_left h]
theorem getD_last8 {α : Type} {l : List α} {x z : α} : (l ++ [x]).getD l.length z = x := by
  rw [List.getD_eq_getElem?_getD, List.getElem?_append_right (Nat.le_refl _)]; simp
/-- A device more. -/
theorem sys_grow {w w' : World} {p : Nat} {gs bs : List Nat} {S : Sy} {Fs : Nat → Nat → Prop} {F G : Nat → Prop} {FA FA' : Option Addr} {fc fc' g b : Nat} {lf : Int} {d : Dv} (h : SysR w p gs bs S Fs FA fc lf) (hF : ∀ q, SysF p bs Fs FA fc S.ds.length q → F q) (hl : ∀ q, F q → q < w.heap.size)
    (hT : But (fun q => q = p ∨ (Value.slice FA bs.length fc).ownBlock = some q) w w') (hP : PowR w' p S.p (bs ++ [b]) FA' fc' lf) (hd : DevAt w' p g d G)
    (hG : ∀ q, G q → w.heap.size ≤ q ∧ q < w'.heap.size ∧ q ≠ b ∧ ∀ k, (Value.slice FA' (bs ++ [b]).length fc').ownBlock = some k → q ≠ k) (hb : Blk w' b #[.pointer (some ⟨g, 0, none⟩)] 30) (hbn : w.heap.size ≤ b)
    (hr : ∀ q, (Value.slice FA' (bs ++ [b]).length fc').ownBlock = some q → (Value.slice FA bs.length fc).ownBlock = some q ∨ w.heap.size ≤ q) :
    ∃ F', Sys w' p (gs ++ [g]) ⟨S.p, S.ds ++ [d]⟩ F' ∧ (∀ q, F' q → F q ∨ w.heap.size ≤ q) ∧ But F w w' := by
  have hN : (S.ds ++ [d]).length = S.ds.length + 1 := by simp
  have hpl := h.pow.blk.lt
  have hbl : ∀ j, j < S.ds.length → bs.getD j 0 < w.heap.size := fun j hj => (h.box j hj).lt
  have hgl : ∀ j, j < S.ds.length → (gs ++ [g]).getD j 0 = gs.getD j 0 := fun j hj => getD_left8 (by rw [h.gl]; exact hj)
  have hbl2 : ∀ j, j < S.ds.length → (bs ++ [b]).getD j 0 = bs.getD j 0 := fun j hj => getD_left8 (by rw [h.bl]; exact hj)
  have hgN : (gs ++ [g]).getD S.ds.length 0 = g := by rw [← h.gl]; exact getD_last8
  have hbN : (bs ++ [b]).getD S.ds.length 0 = b := by rw [← h.bl]; exact getD_last8
  have hat : ∀ j, j < S.ds.length → (Sy.mk S.p (S.ds ++ [d])).at j = S.at j := fun j hj => getD_left8 hj
  have hatN : (Sy.mk S.p (S.ds ++ [d])).at S.ds.length = d := getD_last8
  have hS : ∀ i, i < S.ds.length → ∀ q, Fs i q → ¬ (q = p ∨ (Value.slice FA bs.length fc).ownBlock = some q) := fun i hi q hq => by
    have := h.other i q hi hq
    rintro (e | e)
    · exact this.1 e
    · exact this.2.1 q e rfl
  have hbS : ∀ j, j < S.ds.length → ¬ (bs.getD j 0 = p ∨ (Value.slice FA bs.length fc).ownBlock = some (bs.getD j 0)) := fun j hj => by
    have hbj : w.heap[bs.getD j 0]? = some (.cells _ 30 (0, 0)) := h.box j hj
    rintro (e | e)
    · have hp : w.heap[p]? = some (.cells _ 70 (0, 0)) := h.pow.blk
      rw [e, hp] at hbj; injection hbj with hbj; injection hbj with _ hbj; exact absurd hbj (by decide)
    · rcases h.pow.row.2 with ⟨e1, _⟩ | ⟨g', cap, cur, e1, _, h2, _⟩
      · rw [e1] at e; cases e
      · rw [e1] at e; injection e with e; rw [← e, h2] at hbj; injection hbj with hbj; injection hbj with _ hbj; exact absurd hbj (by decide)
  refine ⟨grow F w w', ⟨bs ++ [b], fun i => if i < S.ds.length then Fs i else G, FA', fc', lf, ⟨hP, by simp [h.gl], by simp [h.bl], ?_, ?_, ?_, ?_, ?_⟩, ?_, ?_⟩, ?_, ?_⟩
  · intro i hi
    by_cases e : i < S.ds.length
    · show DevAt w' p ((gs ++ [g]).getD i 0) _ (if i < S.ds.length then Fs i else G)
      rw [if_pos e, hgl i e, hat i e]
      exact (h.dev i e).but hT (fun q h1 h2 => hS i e q h1 h2)
    · have : i = S.ds.length := by have : i < S.ds.length + 1 := by rw [← hN]; exact hi
                                   omega
      subst this
      show DevAt w' p ((gs ++ [g]).getD S.ds.length 0) _ (if S.ds.length < S.ds.length then _ else G)
      rw [if_neg e, hgN, hatN]
      exact hd
  · intro i hi
    by_cases e : i < S.ds.length
    · rw [hgl i e, hbl2 i e]
      exact (h.box i e).but hT (hbS i e)
    · have : i = S.ds.length := by have : i < S.ds.length + 1 := by rw [← hN]; exact hi
                                   omega
      subst this
      rw [hgN, hbN]
      exact hb
  · intro i j q hi hj hne h1 h2
    have hi' : i < S.ds.length + 1 := by rw [← hN]; exact hi
    have hj' : j < S.ds.length + 1 := by rw [← hN]; exact hj
    by_cases ei : i < S.ds.length
    · replace h1 : Fs i q := by have h := h1; simp only [if_pos ei] at h; exact h
      by_cases ej : j < S.ds.length
      · replace h2 : Fs j q := by have h := h2; simp only [if_pos ej] at h; exact h
        exact h.apart i j q ei ej hne h1 h2
      · replace h2 : G q := by have h := h2; simp only [if_neg ej] at h; exact h
        have := h.lt i q ei h1; have := (hG q h2).1; omega
    · replace h1 : G q := by have h := h1; simp only [if_neg ei] at h; exact h
      by_cases ej : j < S.ds.length
      · replace h2 : Fs j q := by have h := h2; simp only [if_pos ej] at h; exact h
        have := h.lt j q ej h2; have := (hG q h1).1; omega
      · omega
  · intro i q hi hq
    by_cases ei : i < S.ds.length
    · replace hq : Fs i q := by have h := hq; simp only [if_pos ei] at h; exact h
      exact Nat.lt_of_lt_of_le (h.lt i q ei hq) hT.size
    · replace hq : G q := by have h := hq; simp only [if_neg ei] at h; exact h
      exact (hG q hq).2.1
  · intro i q hi hq
    by_cases ei : i < S.ds.length
    · replace hq : Fs i q := by have h := hq; simp only [if_pos ei] at h; exact h
      have ho := h.other i q ei hq
      have hlt := h.lt i q ei hq
      refine ⟨ho.1, fun k hk => ?_, fun j hj => ?_⟩
      · rcases hr k hk with h1 | h1
        · exact ho.2.1 k h1
        · omega
      · have hj' : j < S.ds.length + 1 := by rw [← hN]; exact hj
        by_cases ej : j < S.ds.length
        · rw [hbl2 j ej]; exact ho.2.2 j ej
        · have : j = S.ds.length := by omega
          subst this
          rw [hbN]; omega
    · replace hq : G q := by have h := hq; simp only [if_neg ei] at h; exact h
      have hg := hG q hq
      refine ⟨by omega, hg.2.2.2, fun j hj => ?_⟩
      have hj' : j < S.ds.length + 1 := by rw [← hN]; exact hj
      by_cases ej : j < S.ds.length
      · rw [hbl2 j ej]; have := hbl j ej; omega
      · have : j = S.ds.length := by omega
        subst this
        rw [hbN]; exact hg.2.2.1
  · rintro q (hq | hq | ⟨j, hj, hq⟩ | ⟨i, hi, hq⟩)
    · exact .inl (hF q (.inl hq))
    · rcases hr q hq with h1 | h1
      · exact .inl (hF q (.inr (.inl h1)))
      · exact .inr ⟨h1, (hP.row.lt q hq).2⟩
    · have hj' : j < S.ds.length + 1 := by rw [← hN]; exact hj
      by_cases ej : j < S.ds.length
      · rw [hbl2 j ej] at hq; exact .inl (hF q (.inr (.inr (.inl ⟨j, ej, hq⟩))))
      · have : j = S.ds.length := by omega
        subst this
        rw [hbN] at hq; subst hq; exact .inr ⟨hbn, hb.lt⟩
    · by_cases ei : i < S.ds.length
      · replace hq : Fs i q := by have h := hq; simp only [if_pos ei] at h; exact h
        exact .inl (hF q (.inr (.inr (.inr ⟨i, ei, hq⟩))))
      · replace hq : G q := by have h := hq; simp only [if_neg ei] at h; exact h
        exact .inr ⟨(hG q hq).1, (hG q hq).2.1⟩
  · rintro q (hq | hq)
    · exact Nat.lt_of_lt_of_le (hl q hq) hT.size
    · exact hq.2
  · rintro q (hq | hq)
    · exact .inl hq
    · exact .inr hq.1
  · refine hT.mono (fun q hq => ?_)
    rcases hq with hq | hq
    · exact hF q (.inl hq)
    · exact hF q (.inr (.inl hq))
set_option maxRecDepth 100000 in
set_option maxHeartbeats 3200000 in
theorem new_some {w : World} {p : Nat} {gs : List Nat} {S : Sy} {F : Nat → Prop} (h : Sys w p gs S F) (hds : S.ds.length < 1000) (x : Int) :
    Calls Try.prog 14 #[.int .i64 x, .pointer (some ⟨p, 0, none⟩)] w (RetNew p gs (S.new x) F w) := by
  obtain ⟨bs, Fs, FA, fc, lf, h, hF, hl⟩ := h
  have H := Lib.hid h
  obtain ⟨n, hn⟩ : ∃ n, n = clampN x := ⟨_, rfl⟩
  have HMM := Lib.hid (show n = (min (max x 0) 4096).toNat from hn)
  have hnb : n ≤ 4096 := by rw [hn]; unfold clampN; omega
  obtain ⟨i0, hi, hz0, hz1, hz2⟩ := info_parts info_secW
  have HN := Lib.hid hn
  have HBD := Lib.hid (show ∀ (A : Option Addr) (W : World), (Instr.build 74 #[(0, .pointer (some ⟨p, 0, none⟩)), (1, .slice A n n)]).run Try.prog W = .ok (.agg (newCells A n n p (.slice none 0 0) (.map none))) W from fun A W => by kernel_rfl)
  have HBN := Lib.hid (show bs.length < 1000 by rw [h.bl]; exact hds)
  clear h hn hds
  go_enter Try.func14, Try.ntmps14
  go_upto_region 3 with fail
  go_cut [0] (fun s0 wx => s0 = .int .i64 (n : Int) ∧ wx = w)
  case first =>
    go_wp2_with fail
    all_goals (go_meet; exact ⟨congrArg (Value.int .i64) (by have := HMM.out; omega), rfl⟩)
  case rest =>
    obtain ⟨rfl, rfl⟩ := hcut
    go_wp2_with (first
      | (at_make; refine wpList_make_full _ rfl _ _ _ rfl 0 38 i0 _ 128 Try.underlying43 hi hz0 hz1 .i64 .i64 _ _ n rfl rfl rfl rfl ?_ ?_ ?_ ?_; (rw [hz2]; omega); (unfold maxLen; omega); (exact Nat.zero_le _); intro w1 hown hg
         have HO1 := Lib.hid hown
         have HG1 := Lib.hid (below_of_grown8 hg)
         clear hown hg)
      | (refine wpList_build rfl 74 #[(0, .tmp 12), (1, .tmp 14)] rfl (v := .agg (newCells (some ⟨wc.heap.size, 0, none⟩) n n p (.slice none 0 0) (.map none))) ?hbld ?_; case hbld => (simp only [List.map_toArray, List.map_cons, List.map_nil]; exact HBD.out _ _)))
    obtain ⟨w3, hw3⟩ : ∃ w3, w3 = (w1.alloc (.cells (newCells (some ⟨wc.heap.size, 0, none⟩) n n p (.slice none 0 0) (.map none)) 74)).alloc (.cells #[.pointer (some ⟨w1.heap.size, 0, none⟩)] 30) := ⟨_, rfl⟩
    have e3 : Blk w3 w1.heap.size (newCells (some ⟨wc.heap.size, 0, none⟩) n n p (.slice none 0 0) (.map none)) 74 := by rw [hw3]; exact (heap_alloc_old _ _ (by simp)).trans (heap_alloc_new _ _)
    have e4 : Blk w3 (w1.heap.size + 1) #[.pointer (some ⟨w1.heap.size, 0, none⟩)] 30 := by
      rw [hw3]
      have h := heap_alloc_new (w1.alloc (.cells (newCells (some ⟨wc.heap.size, 0, none⟩) n n p (.slice none 0 0) (.map none)) 74)) (.cells #[.pointer (some ⟨w1.heap.size, 0, none⟩)] 30)
      rwa [World.size_alloc] at h
    have e5 : Below w1.heap.size w1 w3 := by rw [hw3]; exact ((Below.refl _ _).alloc (Nat.le_refl _) _).alloc (by simp) _
    have e6 : w3.heap.size = w1.heap.size + 2 := by rw [hw3]; simp
    have E3 := Lib.hid e3
    have E4 := Lib.hid e4
    have E5 := Lib.hid e5
    have E6 := Lib.hid e6
    rw [← hw3]
    clear hw3 e3 e4 e5 e6
    unfold newCells at E3
    refine (empty_any _ _ _ _ _ _ _ _ E3.out).mono ?_
    rintro e2 w4 ⟨rfl, hb2, hm2, ht2⟩
    have G4 := Lib.hid hb2
    have M4 := Lib.hid hm2
    have T4 := Lib.hid ht2
    have P4 := Lib.hid ((H.out.pow.below HG1.out |>.below E5.out).but T4.out (fun e => by have h1 := H.out.pow.blk.lt; have h2 := HG1.out.size; omega) (fun k hk e => by have h1 := (H.out.pow.row.lt k hk).2; have h2 := HG1.out.size; omega))
    have B4 := Lib.hid (E4.out.but T4.out (by omega))
    have cf := P4.out.blk.cell 2
    have cb := B4.out.cell 0
    have P5 := Lib.hid (P4.out.below (show Below w4.heap.size w4 (w4.alloc (.cells #[cloV (w1.heap.size + 1)] 1)) from (Below.refl _ _).alloc (Nat.le_refl _) _))
    have R5 := Lib.hid (show Rd (w4.alloc (.cells #[cloV (w1.heap.size + 1)] 1)).heap.size (w4.alloc (.cells #[cloV (w1.heap.size + 1)] 1)) (some ⟨w4.heap.size, 0, none⟩) [cloV (w1.heap.size + 1)] from by
      have hb5 : Blk (w4.alloc (.cells #[cloV (w1.heap.size + 1)] 1)) w4.heap.size #[cloV (w1.heap.size + 1)] 1 := heap_alloc_new _ _
      intro q v hv
      exact ⟨_, rfl, hb5.lt, by rw [Addr.add_mid, hb5.cell, Nat.zero_add]; simpa using hv⟩)
    clear hb2 hm2 ht2
    go_wp2_with (at_builtin; apply Classical.byContradiction; intro hneg)
    refine hneg ?_; clear hneg
    refine wpList_appN _ rfl (.tmp 23) (.tmp 25) 68 rfl funcsElt (base := 0) (v := .slice FA bs.length fc) rfl P5.out.row (m := 1) rfl R5.out rfl (by intro v hv; rw [List.mem_singleton] at hv; subst hv; rfl) (by have := HBN.out; omega) (Nat.zero_le _) ?_
    intro A6 c6 w6 ho6 hg6 hl6
    have HO6 := Lib.hid ho6
    have T6 := Lib.hid (show But (fun q => (Value.slice FA bs.length fc).ownBlock = some q) w4 w6 from ((But.refl w4).alloc _).grown hg6 (fun q hq => .inl hq))
    have HL6 := Lib.hid (show ∀ q, (Value.slice A6 (bs.length + 1) c6).ownBlock = some q → (Value.slice FA bs.length fc).ownBlock = some q ∨ w4.heap.size ≤ q from fun q hq => by
      rcases hl6 with h1 | h1
      · exact .inl (h1.symm.trans hq)
      · rw [hq] at h1; injection h1 with h1; subst h1; exact .inr (by simp))
    have B6 := Lib.hid (P4.out.blk.but T6.out (fun hq => H.out.row_ne p hq rfl))
    have cf6 := B6.out.cell 2
    have ff6 := B6.out.free 2
    have cb6 := (B4.out.but T6.out (fun hq => by have h1 := (H.out.pow.row.lt _ hq).2; have h2 := HG1.out.size; omega)).cell 0
    clear ho6 hg6 hl6 cf cb
    go_wp2_with fail
    go_ret
    have hwc1 := HG1.out.size
    have hwc0 : wc.heap.size < w1.heap.size := (HO1.out.lt _ rfl).2
    have hw3 := E6.out
    have hw4 := T4.out.size
    have hw6 := T6.out.size
    have hp0 := H.out.pow.blk.lt
    have hrow : ∀ q, (Value.slice FA bs.length fc).ownBlock = some q → q < wc.heap.size := fun q hq => (H.out.pow.row.lt q hq).2
    have hlen : (bs ++ [w1.heap.size + 1]).length = bs.length + 1 := by simp
    have hm3 : w3.heap.size < w4.heap.size := M4.out.lt
    have T7 : But (fun q => q = p) w6 (w6.setCell ⟨p, 2, none⟩ (.slice A6 (bs.length + 1) c6)) := but_one _
    have t3 : But (fun q => q = p ∨ (Value.slice FA bs.length fc).ownBlock = some q) wc w3 := But.of_below (B := wc.heap.size) (HG1.out.trans ((E5.out).mono (by omega))) (fun k h1 h2 => by omega)
    have t4 : But (fun q => q = p ∨ (Value.slice FA bs.length fc).ownBlock = some q) wc w4 := but_step t3 T4.out (fun q hq => .inr (by omega))
    have t6 : But (fun q => q = p ∨ (Value.slice FA bs.length fc).ownBlock = some q) wc w6 := t4.trans (T6.out.mono (fun q hq => .inr hq))
    have t7 := t6.trans (T7.mono (T := fun q => q = p ∨ (Value.slice FA bs.length fc).ownBlock = some q) (fun q hq => .inl hq))
    have hnew : ∀ q, (Value.slice A6 (bs.length + 1) c6).ownBlock = some q → q ≠ p := fun q hq e => by
      subst e
      have hb6 : w6.heap[q]? = some (.cells _ 70 (0, 0)) := B6.out
      rcases HO6.out.2 with ⟨e1, _⟩ | ⟨g', cap, cur, e1, _, h2, _⟩
      · rw [e1] at hq; cases hq
      · rw [e1] at hq; injection hq with hq; replace hq : g' = q := hq; rw [hq] at h2; rw [h2] at hb6; injection hb6 with hb6; injection hb6 with _ hb6; exact absurd hb6 (by decide)
    have hg4 : ∀ {cs ty} {k : Nat}, Blk w4 k cs ty → (∀ q, (Value.slice FA bs.length fc).ownBlock = some q → k ≠ q) → k ≠ p → Blk (w6.setCell ⟨p, 2, none⟩ (.slice A6 (bs.length + 1) c6)) k cs ty := fun hb h1 h2 => (hb.but T6.out (fun hq => h1 _ hq rfl)).but T7 h2
    have G7 := hg4 G4.out (fun q hq => by have := hrow q hq; omega) (by omega)
    have B7 := hg4 B4.out (fun q hq => by have := hrow q hq; omega) (by omega)
    have M7 := imap_but (imap_but M4.out T6.out (fun hq => by have := hrow _ hq; omega)) T7 (by omega)
    have O7 : (w6.setCell ⟨p, 2, none⟩ (.slice A6 (bs.length + 1) c6)).ownsRow 0 38 128 (.slice (some ⟨wc.heap.size, 0, none⟩) n n) n (svs (List.replicate n zeroS)) := by
      have h1 := HO1.out
      rw [show (madeCells (Value.agg (bva zeroS)).cells (n * 128)).toList = svs (List.replicate n zeroS) from made_svs n] at h1
      exact Own.but (Own.but (Own.but (own_belowN h1 E5.out) T4.out (fun q hq => by injection hq with hq; replace hq : wc.heap.size = q := hq; omega)) T6.out (fun q hq hq' => by injection hq with hq; replace hq : wc.heap.size = q := hq; have := hrow q hq'; omega)) T7 (fun q hq => by injection hq with hq; replace hq : wc.heap.size = q := hq; omega)
    have hdv : DevR (w6.setCell ⟨p, 2, none⟩ (.slice A6 (bs.length + 1) c6)) p w1.heap.size (newDv n) (some ⟨wc.heap.size, 0, none⟩) n n none 0 0 w3.heap.size (.map []) :=
      ⟨G7, O7, ⟨rfl, .inl ⟨rfl, rfl⟩⟩, M7, last_empty, by show (List.replicate n zeroS).length = n; simp, rfl, ⟨fun s hs => by rw [List.eq_of_mem_replicate hs]; exact zeroS_length, fun x hx => absurd hx List.not_mem_nil, by show (0 : Int) ≤ 0; omega, by show (0 : Int) ≤ 0 ∧ (0 : Int) ≤ 128; omega, by show (List.replicate n zeroS).length ≤ 4096; simpa using hnb⟩, fun e => by cases e⟩
    have hPn : PowR (w6.setCell ⟨p, 2, none⟩ (.slice A6 (bs.length + 1) c6)) p S.p (bs ++ [w1.heap.size + 1]) A6 c6 lf :=
      ⟨by rw [hlen]; exact blk_setN8 B6.out 2 _, by rw [hlen, List.map_append]; exact Own.but HO6.out T7 (fun q hq => hnew q hq), P4.out.same, P4.out.lo, P4.out.hi, P4.out.left⟩
    have hfin := sys_grow H.out hF hl t7 hPn ⟨_, _, _, _, _, _, _, _, hdv, fun q hq => hq⟩ (fun q hq => ?hG) B7 (by omega) (fun q hq => by rw [hlen] at hq; rcases HL6.out q hq with h1 | h1; exact .inl h1; exact .inr (by omega))
    case hG =>
      have hs7 := T7.size
      have hq2 : q = w1.heap.size ∨ q = w3.heap.size ∨ q = wc.heap.size := by
        rcases hq with h1 | h1 | h1 | h1
        · exact .inl h1
        · exact .inr (.inl h1)
        · injection h1 with h1; exact .inr (.inr h1.symm)
        · cases h1
      have hwc : wc.heap.size < w1.heap.size := (HO1.out.lt _ rfl).2
      refine ⟨by omega, by omega, by omega, fun k hk => ?_⟩
      rw [hlen] at hk
      rcases HL6.out k hk with h1 | h1
      · have := hrow k h1; omega
      · omega
    refine ⟨w1.heap.size, rfl, ?_⟩
    rw [Sy.new, ← HN.out]
    exact hfin
end Go.Proofs.Ytolbffcbamfbeaa.Kd
