/-
  The contract of the device's NewPower; of New of a nil power.
-/
import Derived.Test.YtolbffcbamfbeaaKdNew
namespace Go.Proofs.Ytolbffcbamfbeaa.Kd
open Go.RowKit Go.Maps
attribute [local go_sem ↓] Go.wp_at_zero Go.wp_at_succ
def S0 : Sy := ⟨⟨false, -1⟩, []⟩
theorem newPower_sys {w : World} : Calls Try.prog 13 #[] w (fun e w' => ∃ p, e = .returned (.pointer (some ⟨p, 0, none⟩)) ∧ ∃ F, Sys w' p [] S0 F ∧ (∀ q, F q → w.heap.size ≤ q) ∧ Below w.heap.size w w') := by
  refine newPower_any.mono ?_
  rintro e w' ⟨rfl, hb, hbl⟩
  refine ⟨_, rfl, fun q => q = w.heap.size, ⟨[], fun _ _ => False, none, 0, -1, ⟨⟨hb, ⟨rfl, .inl ⟨rfl, rfl⟩⟩, fun _ => rfl, by omega, by omega, by show (-1 : Int) ≤ -1; omega⟩, rfl, rfl, fun i hi => (by cases hi), fun i hi => (by cases hi), fun i j q hi => (by cases hi), fun i q hi => (by cases hi), fun i q hi => (by cases hi)⟩, ?_, ?_⟩, fun q hq => by omega, hbl⟩
  · rintro q (h | h | ⟨j, hj, _⟩ | ⟨i, hi, _⟩)
    · exact h
    · cases h
    · cases hj
    · cases hi
  · rintro q rfl
    exact hb.lt
set_option maxRecDepth 100000 in
set_option maxHeartbeats 3200000 in
theorem new_nil0 {w0 : World} (x : Int) :
    Calls Try.prog 14 #[.int .i64 x, .pointer none] w0 (fun e w' => ∃ p w F, Sys w p [] S0 F ∧ (∀ q, F q → w0.heap.size ≤ q) ∧ Below w0.heap.size w0 w ∧ RetNew p [] (S0.new x) F w e w') := by
  obtain ⟨n, hn⟩ : ∃ n, n = clampN x := ⟨_, rfl⟩
  have HMM := Lib.hid (show n = (min (max x 0) 4096).toNat from hn)
  have hnb : n ≤ 4096 := by rw [hn]; unfold clampN; omega
  obtain ⟨i0, hi, hz0, hz1, hz2⟩ := info_parts info_secW
  have HN := Lib.hid hn
  clear hn
  go_enter Try.func14, Try.ntmps14
  go_upto_region 3 with (
    refine newPower_sys.mono ?_
    rintro e w ⟨p, rfl, F, hs, hF0, hb0⟩
    have HS := Lib.hid hs
    have HF0 := Lib.hid hF0
    have HB0 := Lib.hid hb0
    clear hs hF0 hb0)
  obtain ⟨S, hS⟩ : ∃ S, S = S0 := ⟨_, rfl⟩
  obtain ⟨gs, hgs⟩ : ∃ gs : List Nat, gs = [] := ⟨_, rfl⟩
  have hsys : Sys w p gs S F := by rw [hS, hgs]; exact HS.out
  have HS0 := Lib.hid hS
  have HGS := Lib.hid hgs
  obtain ⟨bs, Fs, FA, fc, lf, h, hF, hl⟩ := hsys
  have H := Lib.hid h
  have HBD := Lib.hid (show ∀ (A : Option Addr) (W : World), (Instr.build 74 #[(0, .pointer (some ⟨p, 0, none⟩)), (1, .slice A n n)]).run Try.prog W = .ok (.agg (newCells A n n p (.slice none 0 0) (.map none))) W from fun A W => by kernel_rfl)
  have HBN := Lib.hid (show bs.length < 1000 by rw [h.bl, hS]; show 0 < 1000; omega)
  clear h hS hgs
  go_cut [0] (fun s0 wx => s0 = .int .i64 (n : Int) ∧ wx = w)
  case first =>
    go_wp2_with fail
    all_goals (go_meet; exact ⟨congrArg (Value.int .i64) (by have := HMM.out; omega), rfl⟩)
  case rest =>
    obtain ⟨rfl, rfl⟩ := hcut
    go_wp2_with (first
      | (at_make; refine wpList_make_full _ rfl _ _ _ rfl 0 38 i0 _ 128 Try.underlying43 hi hz0 hz1 .i64 .i64 _ _ n rfl rfl rfl rfl ?_ ?_ ?_ ?_; (rw [hz2]; omega); (unfold maxLen; omega); (exact Nat.zero_le _); intro w1 hown hg
         have HO1 := Lib.hid hown
         have HG1 := Lib.hid (below_of_grown8 hg)
         clear hown hg)
      | (refine wpList_build rfl 74 #[(0, .tmp 12), (1, .tmp 14)] rfl (v := .agg (newCells (some ⟨wc.heap.size, 0, none⟩) n n p (.slice none 0 0) (.map none))) ?hbld ?_; case hbld => (simp only [List.map_toArray, List.map_cons, List.map_nil]; exact HBD.out _ _)))
    obtain ⟨w3, hw3⟩ : ∃ w3, w3 = (w1.alloc (.cells (newCells (some ⟨wc.heap.size, 0, none⟩) n n p (.slice none 0 0) (.map none)) 74)).alloc (.cells #[.pointer (some ⟨w1.heap.size, 0, none⟩)] 30) := ⟨_, rfl⟩
    have e3 : Blk w3 w1.heap.size (newCells (some ⟨wc.heap.size, 0, none⟩) n n p (.slice none 0 0) (.map none)) 74 := by rw [hw3]; exact (heap_alloc_old _ _ (by simp)).trans (heap_alloc_new _ _)
    have e4 : Blk w3 (w1.heap.size + 1) #[.pointer (some ⟨w1.heap.size, 0, none⟩)] 30 := by
      rw [hw3]
      have h := heap_alloc_new (w1.alloc (.cells (newCells (some ⟨wc.heap.size, 0, none⟩) n n p (.slice none 0 0) (.map none)) 74)) (.cells #[.pointer (some ⟨w1.heap.size, 0, none⟩)] 30)
      rwa [World.size_alloc] at h
    have e5 : Below w1.heap.size w1 w3 := by rw [hw3]; exact ((Below.refl _ _).alloc (Nat.le_refl _) _).alloc (by simp) _
    have e6 : w3.heap.size = w1.heap.size + 2 := by rw [hw3]; simp
    have E3 := Lib.hid e3
    have E4 := Lib.hid e4
    have E5 := Lib.hid e5
    have E6 := Lib.hid e6
    rw [← hw3]
    clear hw3 e3 e4 e5 e6
    unfold newCells at E3
    refine (empty_any _ _ _ _ _ _ _ _ E3.out).mono ?_
    rintro e2 w4 ⟨rfl, hb2, hm2, ht2⟩
    have G4 := Lib.hid hb2
    have M4 := Lib.hid hm2
    have T4 := Lib.hid ht2
    have P4 := Lib.hid ((H.out.pow.below HG1.out |>.below E5.out).but T4.out (fun e => by have h1 := H.out.pow.blk.lt; have h2 := HG1.out.size; omega) (fun k hk e => by have h1 := (H.out.pow.row.lt k hk).2; have h2 := HG1.out.size; omega))
    have B4 := Lib.hid (E4.out.but T4.out (by omega))
    have cf := P4.out.blk.cell 2
    have cb := B4.out.cell 0
    have P5 := Lib.hid (P4.out.below (show Below w4.heap.size w4 (w4.alloc (.cells #[cloV (w1.heap.size + 1)] 1)) from (Below.refl _ _).alloc (Nat.le_refl _) _))
    have R5 := Lib.hid (show Rd (w4.alloc (.cells #[cloV (w1.heap.size + 1)] 1)).heap.size (w4.alloc (.cells #[cloV (w1.heap.size + 1)] 1)) (some ⟨w4.heap.size, 0, none⟩) [cloV (w1.heap.size + 1)] from by
      have hb5 : Blk (w4.alloc (.cells #[cloV (w1.heap.size + 1)] 1)) w4.heap.size #[cloV (w1.heap.size + 1)] 1 := heap_alloc_new _ _
      intro q v hv
      exact ⟨_, rfl, hb5.lt, by rw [Addr.add_mid, hb5.cell, Nat.zero_add]; simpa using hv⟩)
    clear hb2 hm2 ht2
    go_wp2_with (at_builtin; apply Classical.byContradiction; intro hneg)
    refine hneg ?_; clear hneg
    refine wpList_appN _ rfl (.tmp 23) (.tmp 25) 68 rfl funcsElt (base := 0) (v := .slice FA bs.length fc) rfl P5.out.row (m := 1) rfl R5.out rfl (by intro v hv; rw [List.mem_singleton] at hv; subst hv; rfl) (by have := HBN.out; omega) (Nat.zero_le _) ?_
    intro A6 c6 w6 ho6 hg6 hl6
    have HO6 := Lib.hid ho6
    have T6 := Lib.hid (show But (fun q => (Value.slice FA bs.length fc).ownBlock = some q) w4 w6 from ((But.refl w4).alloc _).grown hg6 (fun q hq => .inl hq))
    have HL6 := Lib.hid (show ∀ q, (Value.slice A6 (bs.length + 1) c6).ownBlock = some q → (Value.slice FA bs.length fc).ownBlock = some q ∨ w4.heap.size ≤ q from fun q hq => by
      rcases hl6 with h1 | h1
      · exact .inl (h1.symm.trans hq)
      · rw [hq] at h1; injection h1 with h1; subst h1; exact .inr (by simp))
    have B6 := Lib.hid (P4.out.blk.but T6.out (fun hq => H.out.row_ne p hq rfl))
    have cf6 := B6.out.cell 2
    have ff6 := B6.out.free 2
    have cb6 := (B4.out.but T6.out (fun hq => by have h1 := (H.out.pow.row.lt _ hq).2; have h2 := HG1.out.size; omega)).cell 0
    clear ho6 hg6 hl6 cf cb
    go_wp2_with fail
    go_ret
    have hwc1 := HG1.out.size
    have hwc0 : wc.heap.size < w1.heap.size := (HO1.out.lt _ rfl).2
    have hw3 := E6.out
    have hw4 := T4.out.size
    have hw6 := T6.out.size
    have hp0 := H.out.pow.blk.lt
    have hrow : ∀ q, (Value.slice FA bs.length fc).ownBlock = some q → q < wc.heap.size := fun q hq => (H.out.pow.row.lt q hq).2
    have hlen : (bs ++ [w1.heap.size + 1]).length = bs.length + 1 := by simp
    have hm3 : w3.heap.size < w4.heap.size := M4.out.lt
    have T7 : But (fun q => q = p) w6 (w6.setCell ⟨p, 2, none⟩ (.slice A6 (bs.length + 1) c6)) := but_one _
    have t3 : But (fun q => q = p ∨ (Value.slice FA bs.length fc).ownBlock = some q) wc w3 := But.of_below (B := wc.heap.size) (HG1.out.trans ((E5.out).mono (by omega))) (fun k h1 h2 => by omega)
    have t4 : But (fun q => q = p ∨ (Value.slice FA bs.length fc).ownBlock = some q) wc w4 := but_step t3 T4.out (fun q hq => .inr (by omega))
    have t6 : But (fun q => q = p ∨ (Value.slice FA bs.length fc).ownBlock = some q) wc w6 := t4.trans (T6.out.mono (fun q hq => .inr hq))
    have t7 := t6.trans (T7.mono (T := fun q => q = p ∨ (Value.slice FA bs.length fc).ownBlock = some q) (fun q hq => .inl hq))
    have hnew : ∀ q, (Value.slice A6 (bs.length + 1) c6).ownBlock = some q → q ≠ p := fun q hq e => by
      subst e
      have hb6 : w6.heap[q]? = some (.cells _ 70 (0, 0)) := B6.out
      rcases HO6.out.2 with ⟨e1, _⟩ | ⟨g', cap, cur, e1, _, h2, _⟩
      · rw [e1] at hq; cases hq
      · rw [e1] at hq; injection hq with hq; replace hq : g' = q := hq; rw [hq] at h2; rw [h2] at hb6; injection hb6 with hb6; injection hb6 with _ hb6; exact absurd hb6 (by decide)
    have hg4 : ∀ {cs ty} {k : Nat}, Blk w4 k cs ty → (∀ q, (Value.slice FA bs.length fc).ownBlock = some q → k ≠ q) → k ≠ p → Blk (w6.setCell ⟨p, 2, none⟩ (.slice A6 (bs.length + 1) c6)) k cs ty := fun hb h1 h2 => (hb.but T6.out (fun hq => h1 _ hq rfl)).but T7 h2
    have G7 := hg4 G4.out (fun q hq => by have := hrow q hq; omega) (by omega)
    have B7 := hg4 B4.out (fun q hq => by have := hrow q hq; omega) (by omega)
    have M7 := imap_but (imap_but M4.out T6.out (fun hq => by have := hrow _ hq; omega)) T7 (by omega)
    have O7 : (w6.setCell ⟨p, 2, none⟩ (.slice A6 (bs.length + 1) c6)).ownsRow 0 38 128 (.slice (some ⟨wc.heap.size, 0, none⟩) n n) n (svs (List.replicate n zeroS)) := by
      have h1 := HO1.out
      rw [show (madeCells (Value.agg (bva zeroS)).cells (n * 128)).toList = svs (List.replicate n zeroS) from made_svs n] at h1
      exact Own.but (Own.but (Own.but (own_belowN h1 E5.out) T4.out (fun q hq => by injection hq with hq; replace hq : wc.heap.size = q := hq; omega)) T6.out (fun q hq hq' => by injection hq with hq; replace hq : wc.heap.size = q := hq; have := hrow q hq'; omega)) T7 (fun q hq => by injection hq with hq; replace hq : wc.heap.size = q := hq; omega)
    have hdv : DevR (w6.setCell ⟨p, 2, none⟩ (.slice A6 (bs.length + 1) c6)) p w1.heap.size (newDv n) (some ⟨wc.heap.size, 0, none⟩) n n none 0 0 w3.heap.size (.map []) :=
      ⟨G7, O7, ⟨rfl, .inl ⟨rfl, rfl⟩⟩, M7, last_empty, by show (List.replicate n zeroS).length = n; simp, rfl, ⟨fun s hs => by rw [List.eq_of_mem_replicate hs]; exact zeroS_length, fun x hx => absurd hx List.not_mem_nil, by show (0 : Int) ≤ 0; omega, by show (0 : Int) ≤ 0 ∧ (0 : Int) ≤ 128; omega, by show (List.replicate n zeroS).length ≤ 4096; simpa using hnb⟩, fun e => by cases e⟩
    have hPn : PowR (w6.setCell ⟨p, 2, none⟩ (.slice A6 (bs.length + 1) c6)) p S.p (bs ++ [w1.heap.size + 1]) A6 c6 lf :=
      ⟨by rw [hlen]; exact blk_setN8 B6.out 2 _, by rw [hlen, List.map_append]; exact Own.but HO6.out T7 (fun q hq => hnew q hq), P4.out.same, P4.out.lo, P4.out.hi, P4.out.left⟩
    have hfin := sys_grow H.out hF hl t7 hPn ⟨_, _, _, _, _, _, _, _, hdv, fun q hq => hq⟩ (fun q hq => ?hG) B7 (by omega) (fun q hq => by rw [hlen] at hq; rcases HL6.out q hq with h1 | h1; exact .inl h1; exact .inr (by omega))
    case hG =>
      have hs7 := T7.size
      have hq2 : q = w1.heap.size ∨ q = w3.heap.size ∨ q = wc.heap.size := by
        rcases hq with h1 | h1 | h1 | h1
        · exact .inl h1
        · exact .inr (.inl h1)
        · injection h1 with h1; exact .inr (.inr h1.symm)
        · cases h1
      have hwc : wc.heap.size < w1.heap.size := (HO1.out.lt _ rfl).2
      refine ⟨by omega, by omega, by omega, fun k hk => ?_⟩
      rw [hlen] at hk
      rcases HL6.out k hk with h1 | h1
      · have := hrow k h1; omega
      · omega
    refine ⟨p, wc, F, HS.out, HF0.out, HB0.out, w1.heap.size, rfl, ?_⟩
    rw [HS0.out, HGS.out] at hfin
    rw [Sy.new, ← HN.out]
    exact hfin
/-- New of a nil power: one of its own. -/
theorem new_nil {w : World} (x : Int) : Calls Try.prog 14 #[.int .i64 x, .pointer none] w (fun e w' => ∃ p g, e = .returned (.pointer (some ⟨g, 0, none⟩)) ∧ ∃ F, Sys w' p [g] (S0.new x) F ∧ (∀ q, F q → w.heap.size ≤ q) ∧ Below w.heap.size w w') := by
  refine (new_nil0 x).mono ?_
  rintro e w' ⟨p, w1, F, _, h2, h3, g, rfl, F', h4, h5, h6⟩
  refine ⟨p, g, rfl, F', h4, fun q hq => ?_, h3.trans (h6.below (fun k hk hq => ?_) h3.size)⟩
  · rcases h5 q hq with h | h
    · exact h2 q h
    · exact Nat.le_trans h3.size h
  · have := h2 k hq; omega
end Go.Proofs.Ytolbffcbamfbeaa.Kd
