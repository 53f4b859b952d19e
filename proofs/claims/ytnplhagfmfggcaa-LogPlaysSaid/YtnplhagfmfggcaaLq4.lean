/-
  Texts of this seat, one behind the other: MiNew, MiMd, MiMd2, MiMd3, MuMd, MuMd2, MuMd3, MiLaw, MuLaw, SxGood, SxGd, LoIf, LoGo, LoSeen, ScWalk, ScStep, ScAll, ScMd, ScStart, LoLaw, MuDevs, LoZero, LoNewL, LoMade, LoOne, LoRef2.
-/
import Derived.Deep.RegionHeld
import Derived.Test.YtnplhagfmfggcaaLq3
/-
  The contract of mirror.New.
-/
namespace Go.Proofs.Ytnplhagfmfggcaa.Mi
open Go.RowKit Kd
attribute [local go_sem ↓] Go.wp_at_zero Go.wp_at_succ
section
variable {C : Duo} {G : Gd} {g : Nat} {w w1 w' : World} {s : Mr C} {A B : Option Addr} {n c m e : Nat} {F1 F : Nat → Prop}
def Mr.row (s : Mr C) (i : Nat) (l : List Bool) : Mr C := if i = 0 then ⟨s.d, l, s.b⟩ else ⟨s.d, s.a, l⟩
/-- A new row of what is stale. -/
theorem ml_setrow (hR : ∀ A n c B m e, G.R A n c B m e) (h : (ML C G g).At w s F) (hb : Below w.heap.size w w1) {q k i : Nat} {l : List Bool} (ho : w1.ownsRow w.heap.size 4 1 (.slice (some ⟨q, 0, none⟩) k k) k (bs l)) (hl : l.length = k) (hi : i < 2) :
    Mv (ML C G g) w F (w1.setCell ⟨g, 2 + i, none⟩ (.slice (some ⟨q, 0, none⟩) k k)) (s.row i l) (fun x => F x ∨ x = q) := by
  obtain ⟨A, n, c, B, m, e, F1, h, h1, h2⟩ := h
  have hlt := h.lt
  have hq := (ho.lt q rfl)
  have h0 : MrR C G g w1 s A n c B m e F1 := h.but (T := fun _ => False) (but_below hb) (fun _ _ h => h)
  have hT : But (fun x => x = g) w1 (w1.setCell ⟨g, 2 + i, none⟩ (.slice (some ⟨q, 0, none⟩) k k)) := but_one _
  have hgw : g < w.heap.size := h.blk.lt
  have ho0 : w1.ownsRow 0 4 1 (.slice (some ⟨q, 0, none⟩) k k) k (bs l) := ⟨ho.1, by
    rcases ho.2 with h3 | ⟨g', cap, cur, h3, _, h4⟩
    · exact .inl h3
    · exact .inr ⟨g', cap, cur, h3, Nat.zero_le _, h4⟩⟩
  have hfin : ∀ x, (F x ∨ x = q) → x < (w1.setCell ⟨g, 2 + i, none⟩ (.slice (some ⟨q, 0, none⟩) k k)).heap.size := by
    rintro x (hx | rfl)
    · exact Nat.lt_of_lt_of_le (h2 x hx) (Nat.le_trans hb.size hT.size)
    · exact Nat.lt_of_lt_of_le hq.2 hT.size
  have hnew : ∀ x, (F x ∨ x = q) → F x ∨ w.heap.size ≤ x := by
    rintro x (hx | rfl)
    · exact .inl hx
    · exact .inr hq.1
  have hbt : But F w (w1.setCell ⟨g, 2 + i, none⟩ (.slice (some ⟨q, 0, none⟩) k k)) := (but_below hb).trans (hT.mono (fun x hx => h1 x (.inl hx)))
  have hoT := Own.but ho0 hT (fun x hx hx' => by injection hx with hx; replace hx : q = x := hx; omega)
  have hdT := C.L.but h0.d hT (fun x hx hx' => h.ag (hx' ▸ hx))
  have hgb : ∀ x ∈ G.l, Blk (w1.setCell ⟨g, 2 + i, none⟩ (.slice (some ⟨q, 0, none⟩) k k)) x.1 x.2.1 x.2.2 ∧ ¬ F1 x.1 := fun x hx => ⟨(h0.gb x hx).1.but hT (fun hx' => h0.box_ne hx h0.blk (.inr rfl) hx'), (h0.gb x hx).2⟩
  rcases two hi with rfl | rfl
  · refine ⟨⟨some ⟨q, 0, none⟩, k, k, B, m, e, F1, ⟨blk_setN8 h0.blk 2 _, hoT, Own.but h0.b hT (fun x hx hx' => h.rows.2 x hx hx'), hl, h.bn, hdT, h.ag, ?_, h.ab, ?_, hR _ _ _ _ _ _, hgb⟩, ?_, hfin⟩, hnew, hbt⟩
    · intro x hx hf
      injection hx with hx; replace hx : q = x := hx
      have := C.L.lt h.d x hf; omega
    · intro x hx hx'
      injection hx with hx; replace hx : q = x := hx
      have := hlt x (.inr (.inr (.inl hx'))); omega
    · rintro x (hx | hx | hx | hx)
      · exact .inl (h1 x (.inl hx))
      · injection hx with hx; exact .inr hx.symm
      · exact .inl (h1 x (.inr (.inr (.inl hx))))
      · exact .inl (h1 x (.inr (.inr (.inr hx))))
  · refine ⟨⟨A, n, c, some ⟨q, 0, none⟩, k, k, F1, ⟨blk_setN8 h0.blk 3 _, Own.but h0.a hT (fun x hx hx' => h.rows.1 x hx hx'), hoT, h.an, hl, hdT, h.ag, h.aa, ?_, ?_, hR _ _ _ _ _ _, hgb⟩, ?_, hfin⟩, hnew, hbt⟩
    · intro x hx hf
      injection hx with hx; replace hx : q = x := hx
      have := C.L.lt h.d x hf; omega
    · intro x hx hx'
      injection hx' with hx'; replace hx' : q = x := hx'
      have := hlt x (.inr (.inl hx)); omega
    · rintro x (hx | hx | hx | hx)
      · exact .inl (h1 x (.inl hx))
      · exact .inl (h1 x (.inr (.inl hx)))
      · injection hx with hx; exact .inr hx.symm
      · exact .inl (h1 x (.inr (.inr (.inr hx))))
/-- How many places a mirror has; a new one. -/
def Duo.places (C : Duo) (d : C.L.St) : Nat := min (C.len d 0) (C.len d 1)
def newM (C : Duo) (d : C.L.St) : Mr C := ⟨d, List.replicate (C.places d) (!(C.there d 0)), List.replicate (C.places d) (!(C.there d 1))⟩
theorem ml_new (hR : ∀ A n c B m e, G.R A n c B m e) {d : C.L.St} (h : C.L.At w d F1) (hG : ∀ x ∈ G.l, Blk w x.1 x.2.1 x.2.2 ∧ ¬ F1 x.1) (hw1 : w1 = w.alloc (.cells (mrC C G none 0 0 none 0 0) 194)) : (ML C G w.heap.size).At w1 ⟨d, [], []⟩ (fun x => (F1 x ∨ ∃ y ∈ G.l, x = y.1) ∨ x = w.heap.size) := by
  have hb : Below w.heap.size w w1 := by rw [hw1]; exact (Below.refl _ _).alloc (Nat.le_refl _) _
  refine ⟨none, 0, 0, none, 0, 0, F1, ⟨by rw [hw1]; exact heap_alloc_new _ _, ⟨rfl, .inl ⟨rfl, rfl⟩⟩, ⟨rfl, .inl ⟨rfl, rfl⟩⟩, rfl, rfl, C.L.below h hb, fun hf => by have := C.L.lt h _ hf; omega, fun q hq => (by cases hq), fun q hq => (by cases hq), fun q hq => (by cases hq), hR _ _ _ _ _ _, fun x hx => ⟨(hG x hx).1.below hb, (hG x hx).2⟩⟩, ?_, ?_⟩
  · rintro x (hx | hx | hx | hx | hx)
    · exact .inr hx
    · cases hx
    · cases hx
    · exact .inl (.inl hx)
    · exact .inl (.inr hx)
  · rintro x ((hx | ⟨y, hy, rfl⟩) | rfl)
    · exact Nat.lt_of_lt_of_le (C.L.lt h x hx) hb.size
    · exact Nat.lt_of_lt_of_le (hG y hy).1.lt hb.size
    · rw [hw1]; simp
theorem ml_len (h : (ML C G g).At w s F) {i : Nat} (hi : i < 2) : Calls Try.prog 20 #[.pointer (C.ptr i)] w (RetB (.int .i64 (C.len s.d i : Int)) w) := by
  obtain ⟨F1, hd, _⟩ := ml_dev h
  exact C.clen hd hi
theorem ml_lenle (h : (ML C G g).At w s F) {i : Nat} (hi : i < 2) : C.len s.d i ≤ 4096 := by
  obtain ⟨F1, hd, _⟩ := ml_dev h
  exact C.len_le hd hi
theorem ml_rowcell (h : (ML C G g).At w s F) {i : Nat} (hi : i < 2) : (∃ v, w.cell? ⟨g, 2 + i, none⟩ = some v) ∧ w.frozen? ⟨g, 2 + i, none⟩ = false ∧ g < w.heap.size := by
  obtain ⟨A, n, c, B, m, e, F1, h, _⟩ := h
  rcases two hi with rfl | rfl
  · exact ⟨⟨_, h.blk.cell 2⟩, h.blk.free 2, h.blk.lt⟩
  · exact ⟨⟨_, h.blk.cell 3⟩, h.blk.free 3, h.blk.lt⟩
theorem own_moreN {w : World} {base base' n size : Nat} {e : TypeId} {v : Value} {xs : List Value} (h : w.ownsRow base e size v n xs) (hb : base' ≤ base) : w.ownsRow base' e size v n xs :=
  ⟨h.1, h.2.imp id (fun ⟨g, cap, cur, h1, h2, h3⟩ => ⟨g, cap, cur, h1, Nat.le_trans hb h2, h3⟩)⟩
theorem gd_cell (G : Gd) : G.v.oneCell' = true := by unfold Gd.v; split <;> rfl
theorem gd_form (G : Gd) : G.v = .nilFunc ∨ ∃ k c, G.v = .func (.func k) #[] c := by
  unfold Gd.v; split
  · exact .inl rfl
  · exact .inr ⟨_, _, rfl⟩
theorem build_mir (p q : Option Addr) (gv : Value) (hg : gv = .nilFunc ∨ ∃ k c, gv = .func (.func k) #[] c) (W : World) : (Instr.build 194 #[(0, .agg #[.pointer p, .pointer q]), (2, gv)]).run Try.prog W = .ok (.agg #[.pointer p, .pointer q, .slice none 0 0, .slice none 0 0, gv]) W := by
  rcases hg with rfl | ⟨k, c, rfl⟩ <;> kernel_rfl
theorem build_two (p q : Option Addr) (W : World) : (Instr.build 190 #[(0, .pointer p), (1, .pointer q)]).run Try.prog W = .ok (.agg #[.pointer p, .pointer q]) W := by kernel_rfl
set_option maxRecDepth 100000 in
set_option maxHeartbeats 12800000 in
theorem new_anyG (hR : ∀ A n c B m e, G.R A n c B m e) {d : C.L.St} (h : C.L.At w d F1) (hG : ∀ x ∈ G.l, Blk w x.1 x.2.1 x.2.2 ∧ ¬ F1 x.1) {FF : Nat → Prop} (hFF : FF = fun x => F1 x ∨ ∃ y ∈ G.l, x = y.1) :
    Calls Try.prog 74 #[.pointer (C.ptr 0), .pointer (C.ptr 1), G.v] w (fun e w' => ∃ g F', e = .returned (.pointer (some ⟨g, 0, none⟩)) ∧ (ML C G g).At w' (newM C d) F' ∧ (∀ q, F' q → FF q ∨ w.heap.size ≤ q) ∧ But FF w w') := by
  obtain ⟨w1, hw1⟩ : ∃ w1, w1 = w.alloc (.cells (mrC C G none 0 0 none 0 0) 194) := ⟨_, rfl⟩
  have H := Lib.hid h
  have HA := Lib.hid (show (ML C G w.heap.size).At w1 ⟨d, [], []⟩ (fun x => FF x ∨ x = w.heap.size) from by rw [hFF]; exact ml_new hR h hG hw1)
  have HR := Lib.hid hR
  obtain ⟨p, hp⟩ : ∃ p, p = C.ptr 0 := ⟨_, rfl⟩
  obtain ⟨q, hq⟩ : ∃ q, q = C.ptr 1 := ⟨_, rfl⟩
  have hgf := gd_form G
  obtain ⟨gv, hgv⟩ : ∃ gv, gv = G.v := ⟨_, rfl⟩
  have HL0 := Lib.hid (show ∀ W s' F', (ML C G w.heap.size).At W s' F' → s'.d = d → Calls Try.prog 20 #[.pointer p] W (RetB (.int .i64 (C.len d 0 : Int)) W) from fun W s' F' h hd => by rw [hp, ← hd]; exact ml_len h (by omega))
  have HL1 := Lib.hid (show ∀ W s' F', (ML C G w.heap.size).At W s' F' → s'.d = d → Calls Try.prog 20 #[.pointer q] W (RetB (.int .i64 (C.len d 1 : Int)) W) from fun W s' F' h hd => by rw [hq, ← hd]; exact ml_len h (by omega))
  have HLE := Lib.hid (show C.places d ≤ 4096 from Nat.le_trans (Nat.min_le_left _ _) (C.len_le h (i := 0) (by omega)))
  have HBM := Lib.hid (build_mir p q gv (by rw [hgv]; exact hgf))
  have HB2 := Lib.hid (build_two p q)
  have HMC : mrC C G none 0 0 none 0 0 = #[.pointer p, .pointer q, .slice none 0 0, .slice none 0 0, gv] := by rw [mrC, hp, hq, hgv]
  rw [HMC] at hw1
  rw [← hp, ← hq, ← hgv]
  have BW1 := Lib.hid (show Below w.heap.size w w1 from by rw [hw1]; exact (Below.refl _ _).alloc (Nat.le_refl _) _)
  obtain ⟨g, hg⟩ : ∃ g, g = w.heap.size := ⟨_, rfl⟩
  rw [← hg] at HA HL0 HL1
  have HG := Lib.hid hg
  obtain ⟨x, hx⟩ : ∃ x, x = C.there d 0 := ⟨_, rfl⟩
  obtain ⟨y, hy⟩ : ∃ y, y = C.there d 1 := ⟨_, rfl⟩
  obtain ⟨k, hk⟩ : ∃ k, k = C.places d := ⟨_, rfl⟩
  have HN := Lib.hid (show newM C d = ⟨d, List.replicate k (!x), List.replicate k (!y)⟩ by rw [newM, hx, hy, hk])
  obtain ⟨la, hla⟩ : ∃ la, la = C.len d 0 := ⟨_, rfl⟩
  obtain ⟨lb, hlb⟩ : ∃ lb, lb = C.len d 1 := ⟨_, rfl⟩
  rw [← hla] at HL0
  rw [← hlb] at HL1
  have HKM := Lib.hid (show (if lb < la then (lb : Int) else (la : Int)) = (k : Int) by rw [hk, Duo.places, ← hla, ← hlb]; split <;> omega)
  rw [← hk] at HLE
  have HET := Lib.hid (each_there HA.out)
  rw [show (Mr.d (⟨d, [], []⟩ : Mr C)) = d from rfl, ← hx, ← hy] at HET
  rw [HN.out]
  clear hp hq hgf hgv HMC h hG hFF hR hx hy hk hla hlb HN
  go_enter Try.func74, Try.ntmps74
  go_wp2_with (first
    | (refine wpList_build rfl 190 #[(0, .tmp 10), (1, .tmp 11)] rfl (v := .agg #[.pointer p, .pointer q]) ?hbld ?_; case hbld => (simp only [List.map_toArray, List.map_cons, List.map_nil]; exact HB2.out _))
    | (refine wpList_build rfl 194 #[(0, .tmp 12), (2, .tmp 13)] rfl (v := .agg #[.pointer p, .pointer q, .slice none 0 0, .slice none 0 0, gv]) ?hbld ?_; case hbld => (simp only [List.map_toArray, List.map_cons, List.map_nil]; exact HBM.out _)))
  rw [← hw1, ← hg]
  clear hw1 hg
  refine HET.out.mono ?_
  rintro e w2 ⟨rfl, F2, hm2⟩
  have M2 := Lib.hid hm2
  clear hm2 HET HB2 HBM
  go_wp2_with fail
  go_loopw [19] (fun i wr => ∃ (j : Nat) (F' : Nat → Prop) (s' : Mr C), i = .int .i64 j ∧ Mv (ML C G g) w1 (fun x => FF x ∨ x = g) wr s' F' ∧ s'.d = d ∧ ((j = 0 ∧ s' = ⟨d, [], []⟩) ∨ (j = 1 ∧ s' = ⟨d, List.replicate k (!x), []⟩) ∨ (j = 2 ∧ s' = ⟨d, List.replicate k (!x), List.replicate k (!y)⟩))) (fun i _ => 2 - (intOf i).toNat)
  case atStart => exact ⟨0, F2, _, rfl, M2.out, rfl, .inl ⟨rfl, rfl⟩⟩
  case round =>
    clear M2
    obtain ⟨j, F', s', rfl, hm, hsd, hj⟩ := hrel
    have M := Lib.hid hm
    have HSD := Lib.hid hsd
    clear hm hsd
    rcases hj with ⟨rfl, hs⟩ | ⟨rfl, hs⟩ | ⟨rfl, hs⟩
    · skip
      have HS := Lib.hid hs
      clear hs
      go_wp2_with (refine wpList_execg8 (o := { dst := some 22, op := .index 185 (.tmp 18) (.tmp 19), type := _, pos := _, after := _, guard := _ }) (v := .bool x) (w' := wr) rfl ?hix ?_; case hix => kernel_rfl)
      refine wp_region_held_drew (S := fun _ => True) (by kernel_rfl) trivial (fun hh => ?_)
      have HH := Lib.hid hh
      clear hh
      refine wpAnyH_take (i := 0) (v := ?vN00) rfl (by kernel_rfl) (by kernel_rfl) (by kernel_rfl) (fun _ _ _ h => h) (Or.inl ⟨by rfl, fun w' _ => ?yN00⟩) HH.out ?_
      case yN00 => (go_simp; try with_reducible rfl)
      refine wpAnyH_take (i := 1) (v := ?vN01) rfl (by kernel_rfl) (by kernel_rfl) (by kernel_rfl) (fun _ _ _ h => h) (Or.inl ⟨by rfl, fun w' _ => ?yN01⟩) HH.out ?_
      case yN01 => (go_simp; try with_reducible rfl)
      try simp only [List.getElem_toArray, List.getElem_cons_succ, List.getElem_cons_zero, Act.put, List.setIfInBounds_toArray, List.set_cons_zero, List.set_cons_succ]
      refine wpAnyH_take (i := 2) (v := ?vN02) rfl (by kernel_rfl) (by kernel_rfl) (by kernel_rfl) (fun _ _ _ h => h) (Or.inl ⟨by rfl, fun w' _ => ?yN02⟩) HH.out ?_
      case yN02 => (go_simp; try with_reducible rfl)
      refine wpAnyH_take (i := 3) (v := ?vN03) rfl (by kernel_rfl) (by kernel_rfl) (by kernel_rfl) (fun _ _ _ h => h) (Or.inl ⟨by rfl, fun w' _ => ?yN03⟩) HH.out ?_
      case yN03 => (go_simp; try with_reducible rfl)
      refine wpAnyH_take (i := 5) (v := ?vN05) rfl (by kernel_rfl) (by kernel_rfl) (by kernel_rfl) (fun _ _ _ h => h) (Or.inl ⟨by rfl, fun w' _ => ?yN05⟩) HH.out ?_
      case yN05 => (go_simp; try with_reducible rfl)
      try simp only [List.getElem_toArray, List.getElem_cons_succ, List.getElem_cons_zero, Act.put, List.setIfInBounds_toArray, List.set_cons_zero, List.set_cons_succ]
      refine wpAnyH_take (i := 7) (v := ?vN07) rfl (by kernel_rfl) (by kernel_rfl) (by kernel_rfl) (fun _ _ _ h => h) (Or.inl ⟨by rfl, fun w' _ => ?yN07⟩) HH.out ?_
      case yN07 => (go_simp; try with_reducible rfl)
      refine wpAnyH_take (i := 11) (v := ?vN011) rfl (by kernel_rfl) (by kernel_rfl) (by kernel_rfl) (fun _ _ _ h => h) (Or.inl ⟨by rfl, fun w' _ => ?yN011⟩) HH.out ?_
      case yN011 => (go_simp; try with_reducible rfl)
      refine wpAnyH_take (i := 12) (v := ?vN012) rfl (by kernel_rfl) (by kernel_rfl) (by kernel_rfl) (fun _ _ _ h => h) (Or.inl ⟨by rfl, fun w' _ => ?yN012⟩) HH.out ?_
      case yN012 => (go_simp; try with_reducible rfl)
      try simp only [List.getElem_toArray, List.getElem_cons_succ, List.getElem_cons_zero, Act.put, List.setIfInBounds_toArray, List.set_cons_zero, List.set_cons_succ]
      refine wpAnyH_ready (rs := [4, 6]) (by kernel_rfl) (by simp) (AllReadyH.cons rfl (fun K hK => ?_) (AllReadyH.cons rfl (fun K hK => ?_) AllReadyH.nil))
      · skip
        go_simp
        refine hK.out _ _ trivial (fun hh => ?_)
        have HH' := Lib.hid hh
        clear hh hK K HH
        have HH := Lib.hid HH'.out
        clear HH'
        have B1 := Lib.hid (show Below wr.heap.size wr (World.alloc wr.drew (.cells #[.bool (!x)] 4)) from ((Below.refl wr.heap.size wr).drew).alloc ((Below.refl wr.heap.size wr).drew).size _)
        have X1 := Lib.hid (show Blk (World.alloc wr.drew (.cells #[.bool (!x)] 4)) wr.drew.heap.size #[.bool (!x)] 4 from heap_alloc_new _ _)
        try simp only [List.getElem_toArray, List.getElem_cons_succ, List.getElem_cons_zero, Act.put, List.setIfInBounds_toArray, List.set_cons_zero, List.set_cons_succ]
        refine wpAnyH_ready (rs := [6]) (by kernel_rfl) (by simp) (AllReadyH.cons rfl (fun K hK => ?_) AllReadyH.nil)
        go_simp
        refine (HL0.out _ _ _ ((ML C G g).below M.out.at_ (B1.out)) HSD.out).mono ?_
        rintro e v2 ⟨rfl, bw⟩
        have B2 := Lib.hid ((B1.out).trans (bw.mono (B1.out).size))
        have X2 := Lib.hid (Blk.below (X1.out) bw)
        clear bw
        go_simp
        refine hK.out _ _ trivial (fun hh => ?_)
        have HH' := Lib.hid hh
        clear hh hK K HH
        have HH := Lib.hid HH'.out
        clear HH'
        try simp only [List.getElem_toArray, List.getElem_cons_succ, List.getElem_cons_zero, Act.put, List.setIfInBounds_toArray, List.set_cons_zero, List.set_cons_succ]
        refine wpAnyH_ready (rs := [8]) (by kernel_rfl) (by simp) (AllReadyH.cons rfl (fun K hK => ?_) AllReadyH.nil)
        go_simp
        refine (HL1.out _ _ _ ((ML C G g).below M.out.at_ (B2.out)) HSD.out).mono ?_
        rintro e v3 ⟨rfl, bw⟩
        have B3 := Lib.hid ((B2.out).trans (bw.mono (B2.out).size))
        have X3 := Lib.hid (Blk.below (X2.out) bw)
        clear bw
        go_simp
        refine hK.out _ _ trivial (fun hh => ?_)
        have HH' := Lib.hid hh
        clear hh hK K HH
        have HH := Lib.hid HH'.out
        clear HH'
        try simp only [List.getElem_toArray, List.getElem_cons_succ, List.getElem_cons_zero, Act.put, List.setIfInBounds_toArray, List.set_cons_zero, List.set_cons_succ]
        refine wpAnyH_take (i := 9) (v := .int .i64 (k : Int)) rfl (by kernel_rfl) (by kernel_rfl) (by kernel_rfl) (fun _ _ _ h => h) (Or.inl ⟨by rfl, fun w' hw' => ?ym39⟩) HH.out ?_
        case ym39 => (go_simp; exact HKM.out)
        try simp only [List.getElem_toArray, List.getElem_cons_succ, List.getElem_cons_zero, Act.put, List.setIfInBounds_toArray, List.set_cons_zero, List.set_cons_succ]
        refine wpAnyH_ready (rs := [10]) (by kernel_rfl) (by simp) (AllReadyH.cons rfl (fun K hK => ?_) AllReadyH.nil)
        go_simp
        refine (repeat_any (a := ⟨wr.drew.heap.size, 0, none⟩) ((X3.out).cell 0) k HLE.out).mono ?_
        rintro e v9 ⟨q9, rfl, ho9, bw9⟩
        have HS9 := Lib.hid (ml_setrow HR.out M.out.at_ ((B3.out).trans (bw9.mono (B3.out).size)) (own_moreN ho9 (B3.out).size) (List.length_replicate ..) (i := 0) (by omega))
        obtain ⟨⟨u9, c9⟩, f9, _⟩ := ml_rowcell ((ML C G g).below M.out.at_ ((B3.out).trans (bw9.mono (B3.out).size))) (i := 0) (by omega)
        have c9' : v9.cell? ⟨g, 2, none⟩ = some u9 := c9
        have f9' : v9.frozen? ⟨g, 2, none⟩ = false := f9
        clear bw9 ho9 c9 f9
        go_simp
        refine hK.out _ _ trivial (fun hh => ?_)
        have HH' := Lib.hid hh
        clear hh hK K HH
        have HH := Lib.hid HH'.out
        clear HH'
        try simp only [List.getElem_toArray, List.getElem_cons_succ, List.getElem_cons_zero, Act.put, List.setIfInBounds_toArray, List.set_cons_zero, List.set_cons_succ]
        refine wpAnyH_take (i := 13) (v := ?vz313) rfl (by kernel_rfl) (by kernel_rfl) (by kernel_rfl) (fun _ _ _ h => h) (Or.inl ⟨by rfl, fun w' _ => ?yz313⟩) HH.out ?_
        case yz313 => (go_simp; try with_reducible rfl)
        try simp only [List.getElem_toArray, List.getElem_cons_succ, List.getElem_cons_zero, Act.put, List.setIfInBounds_toArray, List.set_cons_zero, List.set_cons_succ]
        refine wpAnyH_ready (rs := [14]) (by kernel_rfl) (by simp) (AllReadyH.cons rfl (fun K hK => ?_) AllReadyH.nil)
        go_simp
        refine hK.out _ _ trivial (fun hh => ?_)
        have HH' := Lib.hid hh
        clear hh hK K HH
        have HH := Lib.hid HH'.out
        clear HH'
        refine wpAnyH_done (by kernel_rfl) ?_ _
        go_wp2_with fail
        go_roundw
        case rel => exact ⟨1, _, _, rfl, M.out.trans HS9.out, HSD.out, .inr (.inl ⟨rfl, by rw [HS.out]; rfl⟩)⟩
        case measure => simp [intOf]
      · skip
        go_simp
        refine (HL0.out _ _ _ ((ML C G g).below M.out.at_ ((Below.refl wr.heap.size wr).drew)) HSD.out).mono ?_
        rintro e v4 ⟨rfl, bw⟩
        have B4 := Lib.hid (((Below.refl wr.heap.size wr).drew).trans (bw.mono ((Below.refl wr.heap.size wr).drew).size))
        clear bw
        go_simp
        refine hK.out _ _ trivial (fun hh => ?_)
        have HH' := Lib.hid hh
        clear hh hK K HH
        have HH := Lib.hid HH'.out
        clear HH'
        try simp only [List.getElem_toArray, List.getElem_cons_succ, List.getElem_cons_zero, Act.put, List.setIfInBounds_toArray, List.set_cons_zero, List.set_cons_succ]
        refine wpAnyH_ready (rs := [4, 8]) (by kernel_rfl) (by simp) (AllReadyH.cons rfl (fun K hK => ?_) (AllReadyH.cons rfl (fun K hK => ?_) AllReadyH.nil))
        · skip
          go_simp
          refine hK.out _ _ trivial (fun hh => ?_)
          have HH' := Lib.hid hh
          clear hh hK K HH
          have HH := Lib.hid HH'.out
          clear HH'
          have B5 := Lib.hid (show Below wr.heap.size wr (World.alloc v4 (.cells #[.bool (!x)] 4)) from (B4.out).alloc (B4.out).size _)
          have X5 := Lib.hid (show Blk (World.alloc v4 (.cells #[.bool (!x)] 4)) v4.heap.size #[.bool (!x)] 4 from heap_alloc_new _ _)
          try simp only [List.getElem_toArray, List.getElem_cons_succ, List.getElem_cons_zero, Act.put, List.setIfInBounds_toArray, List.set_cons_zero, List.set_cons_succ]
          refine wpAnyH_ready (rs := [8]) (by kernel_rfl) (by simp) (AllReadyH.cons rfl (fun K hK => ?_) AllReadyH.nil)
          go_simp
          refine (HL1.out _ _ _ ((ML C G g).below M.out.at_ (B5.out)) HSD.out).mono ?_
          rintro e v6 ⟨rfl, bw⟩
          have B6 := Lib.hid ((B5.out).trans (bw.mono (B5.out).size))
          have X6 := Lib.hid (Blk.below (X5.out) bw)
          clear bw
          go_simp
          refine hK.out _ _ trivial (fun hh => ?_)
          have HH' := Lib.hid hh
          clear hh hK K HH
          have HH := Lib.hid HH'.out
          clear HH'
          try simp only [List.getElem_toArray, List.getElem_cons_succ, List.getElem_cons_zero, Act.put, List.setIfInBounds_toArray, List.set_cons_zero, List.set_cons_succ]
          refine wpAnyH_take (i := 9) (v := .int .i64 (k : Int)) rfl (by kernel_rfl) (by kernel_rfl) (by kernel_rfl) (fun _ _ _ h => h) (Or.inl ⟨by rfl, fun w' hw' => ?ym69⟩) HH.out ?_
          case ym69 => (go_simp; exact HKM.out)
          try simp only [List.getElem_toArray, List.getElem_cons_succ, List.getElem_cons_zero, Act.put, List.setIfInBounds_toArray, List.set_cons_zero, List.set_cons_succ]
          refine wpAnyH_ready (rs := [10]) (by kernel_rfl) (by simp) (AllReadyH.cons rfl (fun K hK => ?_) AllReadyH.nil)
          go_simp
          refine (repeat_any (a := ⟨v4.heap.size, 0, none⟩) ((X6.out).cell 0) k HLE.out).mono ?_
          rintro e v9 ⟨q9, rfl, ho9, bw9⟩
          have HS9 := Lib.hid (ml_setrow HR.out M.out.at_ ((B6.out).trans (bw9.mono (B6.out).size)) (own_moreN ho9 (B6.out).size) (List.length_replicate ..) (i := 0) (by omega))
          obtain ⟨⟨u9, c9⟩, f9, _⟩ := ml_rowcell ((ML C G g).below M.out.at_ ((B6.out).trans (bw9.mono (B6.out).size))) (i := 0) (by omega)
          have c9' : v9.cell? ⟨g, 2, none⟩ = some u9 := c9
          have f9' : v9.frozen? ⟨g, 2, none⟩ = false := f9
          clear bw9 ho9 c9 f9
          go_simp
          refine hK.out _ _ trivial (fun hh => ?_)
          have HH' := Lib.hid hh
          clear hh hK K HH
          have HH := Lib.hid HH'.out
          clear HH'
          try simp only [List.getElem_toArray, List.getElem_cons_succ, List.getElem_cons_zero, Act.put, List.setIfInBounds_toArray, List.set_cons_zero, List.set_cons_succ]
          refine wpAnyH_take (i := 13) (v := ?vz613) rfl (by kernel_rfl) (by kernel_rfl) (by kernel_rfl) (fun _ _ _ h => h) (Or.inl ⟨by rfl, fun w' _ => ?yz613⟩) HH.out ?_
          case yz613 => (go_simp; try with_reducible rfl)
          try simp only [List.getElem_toArray, List.getElem_cons_succ, List.getElem_cons_zero, Act.put, List.setIfInBounds_toArray, List.set_cons_zero, List.set_cons_succ]
          refine wpAnyH_ready (rs := [14]) (by kernel_rfl) (by simp) (AllReadyH.cons rfl (fun K hK => ?_) AllReadyH.nil)
          go_simp
          refine hK.out _ _ trivial (fun hh => ?_)
          have HH' := Lib.hid hh
          clear hh hK K HH
          have HH := Lib.hid HH'.out
          clear HH'
          refine wpAnyH_done (by kernel_rfl) ?_ _
          go_wp2_with fail
          go_roundw
          case rel => exact ⟨1, _, _, rfl, M.out.trans HS9.out, HSD.out, .inr (.inl ⟨rfl, by rw [HS.out]; rfl⟩)⟩
          case measure => simp [intOf]
        · skip
          go_simp
          refine (HL1.out _ _ _ ((ML C G g).below M.out.at_ (B4.out)) HSD.out).mono ?_
          rintro e v7 ⟨rfl, bw⟩
          have B7 := Lib.hid ((B4.out).trans (bw.mono (B4.out).size))
          clear bw
          go_simp
          refine hK.out _ _ trivial (fun hh => ?_)
          have HH' := Lib.hid hh
          clear hh hK K HH
          have HH := Lib.hid HH'.out
          clear HH'
          try simp only [List.getElem_toArray, List.getElem_cons_succ, List.getElem_cons_zero, Act.put, List.setIfInBounds_toArray, List.set_cons_zero, List.set_cons_succ]
          refine wpAnyH_take (i := 9) (v := .int .i64 (k : Int)) rfl (by kernel_rfl) (by kernel_rfl) (by kernel_rfl) (fun _ _ _ h => h) (Or.inl ⟨by rfl, fun w' hw' => ?ym79⟩) HH.out ?_
          case ym79 => (go_simp; exact HKM.out)
          try simp only [List.getElem_toArray, List.getElem_cons_succ, List.getElem_cons_zero, Act.put, List.setIfInBounds_toArray, List.set_cons_zero, List.set_cons_succ]
          refine wpAnyH_ready (rs := [4]) (by kernel_rfl) (by simp) (AllReadyH.cons rfl (fun K hK => ?_) AllReadyH.nil)
          go_simp
          refine hK.out _ _ trivial (fun hh => ?_)
          have HH' := Lib.hid hh
          clear hh hK K HH
          have HH := Lib.hid HH'.out
          clear HH'
          have B8 := Lib.hid (show Below wr.heap.size wr (World.alloc v7 (.cells #[.bool (!x)] 4)) from (B7.out).alloc (B7.out).size _)
          have X8 := Lib.hid (show Blk (World.alloc v7 (.cells #[.bool (!x)] 4)) v7.heap.size #[.bool (!x)] 4 from heap_alloc_new _ _)
          try simp only [List.getElem_toArray, List.getElem_cons_succ, List.getElem_cons_zero, Act.put, List.setIfInBounds_toArray, List.set_cons_zero, List.set_cons_succ]
          refine wpAnyH_ready (rs := [10]) (by kernel_rfl) (by simp) (AllReadyH.cons rfl (fun K hK => ?_) AllReadyH.nil)
          go_simp
          refine (repeat_any (a := ⟨v7.heap.size, 0, none⟩) ((X8.out).cell 0) k HLE.out).mono ?_
          rintro e v9 ⟨q9, rfl, ho9, bw9⟩
          have HS9 := Lib.hid (ml_setrow HR.out M.out.at_ ((B8.out).trans (bw9.mono (B8.out).size)) (own_moreN ho9 (B8.out).size) (List.length_replicate ..) (i := 0) (by omega))
          obtain ⟨⟨u9, c9⟩, f9, _⟩ := ml_rowcell ((ML C G g).below M.out.at_ ((B8.out).trans (bw9.mono (B8.out).size))) (i := 0) (by omega)
          have c9' : v9.cell? ⟨g, 2, none⟩ = some u9 := c9
          have f9' : v9.frozen? ⟨g, 2, none⟩ = false := f9
          clear bw9 ho9 c9 f9
          go_simp
          refine hK.out _ _ trivial (fun hh => ?_)
          have HH' := Lib.hid hh
          clear hh hK K HH
          have HH := Lib.hid HH'.out
          clear HH'
          try simp only [List.getElem_toArray, List.getElem_cons_succ, List.getElem_cons_zero, Act.put, List.setIfInBounds_toArray, List.set_cons_zero, List.set_cons_succ]
          refine wpAnyH_take (i := 13) (v := ?vz813) rfl (by kernel_rfl) (by kernel_rfl) (by kernel_rfl) (fun _ _ _ h => h) (Or.inl ⟨by rfl, fun w' _ => ?yz813⟩) HH.out ?_
          case yz813 => (go_simp; try with_reducible rfl)
          try simp only [List.getElem_toArray, List.getElem_cons_succ, List.getElem_cons_zero, Act.put, List.setIfInBounds_toArray, List.set_cons_zero, List.set_cons_succ]
          refine wpAnyH_ready (rs := [14]) (by kernel_rfl) (by simp) (AllReadyH.cons rfl (fun K hK => ?_) AllReadyH.nil)
          go_simp
          refine hK.out _ _ trivial (fun hh => ?_)
          have HH' := Lib.hid hh
          clear hh hK K HH
          have HH := Lib.hid HH'.out
          clear HH'
          refine wpAnyH_done (by kernel_rfl) ?_ _
          go_wp2_with fail
          go_roundw
          case rel => exact ⟨1, _, _, rfl, M.out.trans HS9.out, HSD.out, .inr (.inl ⟨rfl, by rw [HS.out]; rfl⟩)⟩
          case measure => simp [intOf]
    · skip
      have HS := Lib.hid hs
      clear hs
      go_wp2_with (refine wpList_execg8 (o := { dst := some 22, op := .index 185 (.tmp 18) (.tmp 19), type := _, pos := _, after := _, guard := _ }) (v := .bool y) (w' := wr) rfl ?hix ?_; case hix => kernel_rfl)
      refine wp_region_held_drew (S := fun _ => True) (by kernel_rfl) trivial (fun hh => ?_)
      have HH := Lib.hid hh
      clear hh
      refine wpAnyH_take (i := 0) (v := ?vN10) rfl (by kernel_rfl) (by kernel_rfl) (by kernel_rfl) (fun _ _ _ h => h) (Or.inl ⟨by rfl, fun w' _ => ?yN10⟩) HH.out ?_
      case yN10 => (go_simp; try with_reducible rfl)
      refine wpAnyH_take (i := 1) (v := ?vN11) rfl (by kernel_rfl) (by kernel_rfl) (by kernel_rfl) (fun _ _ _ h => h) (Or.inl ⟨by rfl, fun w' _ => ?yN11⟩) HH.out ?_
      case yN11 => (go_simp; try with_reducible rfl)
      try simp only [List.getElem_toArray, List.getElem_cons_succ, List.getElem_cons_zero, Act.put, List.setIfInBounds_toArray, List.set_cons_zero, List.set_cons_succ]
      refine wpAnyH_take (i := 2) (v := ?vN12) rfl (by kernel_rfl) (by kernel_rfl) (by kernel_rfl) (fun _ _ _ h => h) (Or.inl ⟨by rfl, fun w' _ => ?yN12⟩) HH.out ?_
      case yN12 => (go_simp; try with_reducible rfl)
      refine wpAnyH_take (i := 3) (v := ?vN13) rfl (by kernel_rfl) (by kernel_rfl) (by kernel_rfl) (fun _ _ _ h => h) (Or.inl ⟨by rfl, fun w' _ => ?yN13⟩) HH.out ?_
      case yN13 => (go_simp; try with_reducible rfl)
      refine wpAnyH_take (i := 5) (v := ?vN15) rfl (by kernel_rfl) (by kernel_rfl) (by kernel_rfl) (fun _ _ _ h => h) (Or.inl ⟨by rfl, fun w' _ => ?yN15⟩) HH.out ?_
      case yN15 => (go_simp; try with_reducible rfl)
      try simp only [List.getElem_toArray, List.getElem_cons_succ, List.getElem_cons_zero, Act.put, List.setIfInBounds_toArray, List.set_cons_zero, List.set_cons_succ]
      refine wpAnyH_take (i := 7) (v := ?vN17) rfl (by kernel_rfl) (by kernel_rfl) (by kernel_rfl) (fun _ _ _ h => h) (Or.inl ⟨by rfl, fun w' _ => ?yN17⟩) HH.out ?_
      case yN17 => (go_simp; try with_reducible rfl)
      refine wpAnyH_take (i := 11) (v := ?vN111) rfl (by kernel_rfl) (by kernel_rfl) (by kernel_rfl) (fun _ _ _ h => h) (Or.inl ⟨by rfl, fun w' _ => ?yN111⟩) HH.out ?_
      case yN111 => (go_simp; try with_reducible rfl)
      refine wpAnyH_take (i := 12) (v := ?vN112) rfl (by kernel_rfl) (by kernel_rfl) (by kernel_rfl) (fun _ _ _ h => h) (Or.inl ⟨by rfl, fun w' _ => ?yN112⟩) HH.out ?_
      case yN112 => (go_simp; try with_reducible rfl)
      try simp only [List.getElem_toArray, List.getElem_cons_succ, List.getElem_cons_zero, Act.put, List.setIfInBounds_toArray, List.set_cons_zero, List.set_cons_succ]
      refine wpAnyH_ready (rs := [4, 6]) (by kernel_rfl) (by simp) (AllReadyH.cons rfl (fun K hK => ?_) (AllReadyH.cons rfl (fun K hK => ?_) AllReadyH.nil))
      · skip
        go_simp
        refine hK.out _ _ trivial (fun hh => ?_)
        have HH' := Lib.hid hh
        clear hh hK K HH
        have HH := Lib.hid HH'.out
        clear HH'
        have B9 := Lib.hid (show Below wr.heap.size wr (World.alloc wr.drew (.cells #[.bool (!y)] 4)) from ((Below.refl wr.heap.size wr).drew).alloc ((Below.refl wr.heap.size wr).drew).size _)
        have X9 := Lib.hid (show Blk (World.alloc wr.drew (.cells #[.bool (!y)] 4)) wr.drew.heap.size #[.bool (!y)] 4 from heap_alloc_new _ _)
        try simp only [List.getElem_toArray, List.getElem_cons_succ, List.getElem_cons_zero, Act.put, List.setIfInBounds_toArray, List.set_cons_zero, List.set_cons_succ]
        refine wpAnyH_ready (rs := [6]) (by kernel_rfl) (by simp) (AllReadyH.cons rfl (fun K hK => ?_) AllReadyH.nil)
        go_simp
        refine (HL0.out _ _ _ ((ML C G g).below M.out.at_ (B9.out)) HSD.out).mono ?_
        rintro e v10 ⟨rfl, bw⟩
        have B10 := Lib.hid ((B9.out).trans (bw.mono (B9.out).size))
        have X10 := Lib.hid (Blk.below (X9.out) bw)
        clear bw
        go_simp
        refine hK.out _ _ trivial (fun hh => ?_)
        have HH' := Lib.hid hh
        clear hh hK K HH
        have HH := Lib.hid HH'.out
        clear HH'
        try simp only [List.getElem_toArray, List.getElem_cons_succ, List.getElem_cons_zero, Act.put, List.setIfInBounds_toArray, List.set_cons_zero, List.set_cons_succ]
        refine wpAnyH_ready (rs := [8]) (by kernel_rfl) (by simp) (AllReadyH.cons rfl (fun K hK => ?_) AllReadyH.nil)
        go_simp
        refine (HL1.out _ _ _ ((ML C G g).below M.out.at_ (B10.out)) HSD.out).mono ?_
        rintro e v11 ⟨rfl, bw⟩
        have B11 := Lib.hid ((B10.out).trans (bw.mono (B10.out).size))
        have X11 := Lib.hid (Blk.below (X10.out) bw)
        clear bw
        go_simp
        refine hK.out _ _ trivial (fun hh => ?_)
        have HH' := Lib.hid hh
        clear hh hK K HH
        have HH := Lib.hid HH'.out
        clear HH'
        try simp only [List.getElem_toArray, List.getElem_cons_succ, List.getElem_cons_zero, Act.put, List.setIfInBounds_toArray, List.set_cons_zero, List.set_cons_succ]
        refine wpAnyH_take (i := 9) (v := .int .i64 (k : Int)) rfl (by kernel_rfl) (by kernel_rfl) (by kernel_rfl) (fun _ _ _ h => h) (Or.inl ⟨by rfl, fun w' hw' => ?ym119⟩) HH.out ?_
        case ym119 => (go_simp; exact HKM.out)
        try simp only [List.getElem_toArray, List.getElem_cons_succ, List.getElem_cons_zero, Act.put, List.setIfInBounds_toArray, List.set_cons_zero, List.set_cons_succ]
        refine wpAnyH_ready (rs := [10]) (by kernel_rfl) (by simp) (AllReadyH.cons rfl (fun K hK => ?_) AllReadyH.nil)
        go_simp
        refine (repeat_any (a := ⟨wr.drew.heap.size, 0, none⟩) ((X11.out).cell 0) k HLE.out).mono ?_
        rintro e v9 ⟨q9, rfl, ho9, bw9⟩
        have HS9 := Lib.hid (ml_setrow HR.out M.out.at_ ((B11.out).trans (bw9.mono (B11.out).size)) (own_moreN ho9 (B11.out).size) (List.length_replicate ..) (i := 1) (by omega))
        obtain ⟨⟨u9, c9⟩, f9, _⟩ := ml_rowcell ((ML C G g).below M.out.at_ ((B11.out).trans (bw9.mono (B11.out).size))) (i := 1) (by omega)
        have c9' : v9.cell? ⟨g, 3, none⟩ = some u9 := c9
        have f9' : v9.frozen? ⟨g, 3, none⟩ = false := f9
        clear bw9 ho9 c9 f9
        go_simp
        refine hK.out _ _ trivial (fun hh => ?_)
        have HH' := Lib.hid hh
        clear hh hK K HH
        have HH := Lib.hid HH'.out
        clear HH'
        try simp only [List.getElem_toArray, List.getElem_cons_succ, List.getElem_cons_zero, Act.put, List.setIfInBounds_toArray, List.set_cons_zero, List.set_cons_succ]
        refine wpAnyH_take (i := 13) (v := ?vz1113) rfl (by kernel_rfl) (by kernel_rfl) (by kernel_rfl) (fun _ _ _ h => h) (Or.inl ⟨by rfl, fun w' _ => ?yz1113⟩) HH.out ?_
        case yz1113 => (go_simp; try with_reducible rfl)
        try simp only [List.getElem_toArray, List.getElem_cons_succ, List.getElem_cons_zero, Act.put, List.setIfInBounds_toArray, List.set_cons_zero, List.set_cons_succ]
        refine wpAnyH_ready (rs := [14]) (by kernel_rfl) (by simp) (AllReadyH.cons rfl (fun K hK => ?_) AllReadyH.nil)
        go_simp
        refine hK.out _ _ trivial (fun hh => ?_)
        have HH' := Lib.hid hh
        clear hh hK K HH
        have HH := Lib.hid HH'.out
        clear HH'
        refine wpAnyH_done (by kernel_rfl) ?_ _
        go_wp2_with fail
        go_roundw
        case rel => exact ⟨2, _, _, rfl, M.out.trans HS9.out, HSD.out, .inr (.inr ⟨rfl, by rw [HS.out]; rfl⟩)⟩
        case measure => simp [intOf]
      · skip
        go_simp
        refine (HL0.out _ _ _ ((ML C G g).below M.out.at_ ((Below.refl wr.heap.size wr).drew)) HSD.out).mono ?_
        rintro e v12 ⟨rfl, bw⟩
        have B12 := Lib.hid (((Below.refl wr.heap.size wr).drew).trans (bw.mono ((Below.refl wr.heap.size wr).drew).size))
        clear bw
        go_simp
        refine hK.out _ _ trivial (fun hh => ?_)
        have HH' := Lib.hid hh
        clear hh hK K HH
        have HH := Lib.hid HH'.out
        clear HH'
        try simp only [List.getElem_toArray, List.getElem_cons_succ, List.getElem_cons_zero, Act.put, List.setIfInBounds_toArray, List.set_cons_zero, List.set_cons_succ]
        refine wpAnyH_ready (rs := [4, 8]) (by kernel_rfl) (by simp) (AllReadyH.cons rfl (fun K hK => ?_) (AllReadyH.cons rfl (fun K hK => ?_) AllReadyH.nil))
        · skip
          go_simp
          refine hK.out _ _ trivial (fun hh => ?_)
          have HH' := Lib.hid hh
          clear hh hK K HH
          have HH := Lib.hid HH'.out
          clear HH'
          have B13 := Lib.hid (show Below wr.heap.size wr (World.alloc v12 (.cells #[.bool (!y)] 4)) from (B12.out).alloc (B12.out).size _)
          have X13 := Lib.hid (show Blk (World.alloc v12 (.cells #[.bool (!y)] 4)) v12.heap.size #[.bool (!y)] 4 from heap_alloc_new _ _)
          try simp only [List.getElem_toArray, List.getElem_cons_succ, List.getElem_cons_zero, Act.put, List.setIfInBounds_toArray, List.set_cons_zero, List.set_cons_succ]
          refine wpAnyH_ready (rs := [8]) (by kernel_rfl) (by simp) (AllReadyH.cons rfl (fun K hK => ?_) AllReadyH.nil)
          go_simp
          refine (HL1.out _ _ _ ((ML C G g).below M.out.at_ (B13.out)) HSD.out).mono ?_
          rintro e v14 ⟨rfl, bw⟩
          have B14 := Lib.hid ((B13.out).trans (bw.mono (B13.out).size))
          have X14 := Lib.hid (Blk.below (X13.out) bw)
          clear bw
          go_simp
          refine hK.out _ _ trivial (fun hh => ?_)
          have HH' := Lib.hid hh
          clear hh hK K HH
          have HH := Lib.hid HH'.out
          clear HH'
          try simp only [List.getElem_toArray, List.getElem_cons_succ, List.getElem_cons_zero, Act.put, List.setIfInBounds_toArray, List.set_cons_zero, List.set_cons_succ]
          refine wpAnyH_take (i := 9) (v := .int .i64 (k : Int)) rfl (by kernel_rfl) (by kernel_rfl) (by kernel_rfl) (fun _ _ _ h => h) (Or.inl ⟨by rfl, fun w' hw' => ?ym149⟩) HH.out ?_
          case ym149 => (go_simp; exact HKM.out)
          try simp only [List.getElem_toArray, List.getElem_cons_succ, List.getElem_cons_zero, Act.put, List.setIfInBounds_toArray, List.set_cons_zero, List.set_cons_succ]
          refine wpAnyH_ready (rs := [10]) (by kernel_rfl) (by simp) (AllReadyH.cons rfl (fun K hK => ?_) AllReadyH.nil)
          go_simp
          refine (repeat_any (a := ⟨v12.heap.size, 0, none⟩) ((X14.out).cell 0) k HLE.out).mono ?_
          rintro e v9 ⟨q9, rfl, ho9, bw9⟩
          have HS9 := Lib.hid (ml_setrow HR.out M.out.at_ ((B14.out).trans (bw9.mono (B14.out).size)) (own_moreN ho9 (B14.out).size) (List.length_replicate ..) (i := 1) (by omega))
          obtain ⟨⟨u9, c9⟩, f9, _⟩ := ml_rowcell ((ML C G g).below M.out.at_ ((B14.out).trans (bw9.mono (B14.out).size))) (i := 1) (by omega)
          have c9' : v9.cell? ⟨g, 3, none⟩ = some u9 := c9
          have f9' : v9.frozen? ⟨g, 3, none⟩ = false := f9
          clear bw9 ho9 c9 f9
          go_simp
          refine hK.out _ _ trivial (fun hh => ?_)
          have HH' := Lib.hid hh
          clear hh hK K HH
          have HH := Lib.hid HH'.out
          clear HH'
          try simp only [List.getElem_toArray, List.getElem_cons_succ, List.getElem_cons_zero, Act.put, List.setIfInBounds_toArray, List.set_cons_zero, List.set_cons_succ]
          refine wpAnyH_take (i := 13) (v := ?vz1413) rfl (by kernel_rfl) (by kernel_rfl) (by kernel_rfl) (fun _ _ _ h => h) (Or.inl ⟨by rfl, fun w' _ => ?yz1413⟩) HH.out ?_
          case yz1413 => (go_simp; try with_reducible rfl)
          try simp only [List.getElem_toArray, List.getElem_cons_succ, List.getElem_cons_zero, Act.put, List.setIfInBounds_toArray, List.set_cons_zero, List.set_cons_succ]
          refine wpAnyH_ready (rs := [14]) (by kernel_rfl) (by simp) (AllReadyH.cons rfl (fun K hK => ?_) AllReadyH.nil)
          go_simp
          refine hK.out _ _ trivial (fun hh => ?_)
          have HH' := Lib.hid hh
          clear hh hK K HH
          have HH := Lib.hid HH'.out
          clear HH'
          refine wpAnyH_done (by kernel_rfl) ?_ _
          go_wp2_with fail
          go_roundw
          case rel => exact ⟨2, _, _, rfl, M.out.trans HS9.out, HSD.out, .inr (.inr ⟨rfl, by rw [HS.out]; rfl⟩)⟩
          case measure => simp [intOf]
        · skip
          go_simp
          refine (HL1.out _ _ _ ((ML C G g).below M.out.at_ (B12.out)) HSD.out).mono ?_
          rintro e v15 ⟨rfl, bw⟩
          have B15 := Lib.hid ((B12.out).trans (bw.mono (B12.out).size))
          clear bw
          go_simp
          refine hK.out _ _ trivial (fun hh => ?_)
          have HH' := Lib.hid hh
          clear hh hK K HH
          have HH := Lib.hid HH'.out
          clear HH'
          try simp only [List.getElem_toArray, List.getElem_cons_succ, List.getElem_cons_zero, Act.put, List.setIfInBounds_toArray, List.set_cons_zero, List.set_cons_succ]
          refine wpAnyH_take (i := 9) (v := .int .i64 (k : Int)) rfl (by kernel_rfl) (by kernel_rfl) (by kernel_rfl) (fun _ _ _ h => h) (Or.inl ⟨by rfl, fun w' hw' => ?ym159⟩) HH.out ?_
          case ym159 => (go_simp; exact HKM.out)
          try simp only [List.getElem_toArray, List.getElem_cons_succ, List.getElem_cons_zero, Act.put, List.setIfInBounds_toArray, List.set_cons_zero, List.set_cons_succ]
          refine wpAnyH_ready (rs := [4]) (by kernel_rfl) (by simp) (AllReadyH.cons rfl (fun K hK => ?_) AllReadyH.nil)
          go_simp
          refine hK.out _ _ trivial (fun hh => ?_)
          have HH' := Lib.hid hh
          clear hh hK K HH
          have HH := Lib.hid HH'.out
          clear HH'
          have B16 := Lib.hid (show Below wr.heap.size wr (World.alloc v15 (.cells #[.bool (!y)] 4)) from (B15.out).alloc (B15.out).size _)
          have X16 := Lib.hid (show Blk (World.alloc v15 (.cells #[.bool (!y)] 4)) v15.heap.size #[.bool (!y)] 4 from heap_alloc_new _ _)
          try simp only [List.getElem_toArray, List.getElem_cons_succ, List.getElem_cons_zero, Act.put, List.setIfInBounds_toArray, List.set_cons_zero, List.set_cons_succ]
          refine wpAnyH_ready (rs := [10]) (by kernel_rfl) (by simp) (AllReadyH.cons rfl (fun K hK => ?_) AllReadyH.nil)
          go_simp
          refine (repeat_any (a := ⟨v15.heap.size, 0, none⟩) ((X16.out).cell 0) k HLE.out).mono ?_
          rintro e v9 ⟨q9, rfl, ho9, bw9⟩
          have HS9 := Lib.hid (ml_setrow HR.out M.out.at_ ((B16.out).trans (bw9.mono (B16.out).size)) (own_moreN ho9 (B16.out).size) (List.length_replicate ..) (i := 1) (by omega))
          obtain ⟨⟨u9, c9⟩, f9, _⟩ := ml_rowcell ((ML C G g).below M.out.at_ ((B16.out).trans (bw9.mono (B16.out).size))) (i := 1) (by omega)
          have c9' : v9.cell? ⟨g, 3, none⟩ = some u9 := c9
          have f9' : v9.frozen? ⟨g, 3, none⟩ = false := f9
          clear bw9 ho9 c9 f9
          go_simp
          refine hK.out _ _ trivial (fun hh => ?_)
          have HH' := Lib.hid hh
          clear hh hK K HH
          have HH := Lib.hid HH'.out
          clear HH'
          try simp only [List.getElem_toArray, List.getElem_cons_succ, List.getElem_cons_zero, Act.put, List.setIfInBounds_toArray, List.set_cons_zero, List.set_cons_succ]
          refine wpAnyH_take (i := 13) (v := ?vz1613) rfl (by kernel_rfl) (by kernel_rfl) (by kernel_rfl) (fun _ _ _ h => h) (Or.inl ⟨by rfl, fun w' _ => ?yz1613⟩) HH.out ?_
          case yz1613 => (go_simp; try with_reducible rfl)
          try simp only [List.getElem_toArray, List.getElem_cons_succ, List.getElem_cons_zero, Act.put, List.setIfInBounds_toArray, List.set_cons_zero, List.set_cons_succ]
          refine wpAnyH_ready (rs := [14]) (by kernel_rfl) (by simp) (AllReadyH.cons rfl (fun K hK => ?_) AllReadyH.nil)
          go_simp
          refine hK.out _ _ trivial (fun hh => ?_)
          have HH' := Lib.hid hh
          clear hh hK K HH
          have HH := Lib.hid HH'.out
          clear HH'
          refine wpAnyH_done (by kernel_rfl) ?_ _
          go_wp2_with fail
          go_roundw
          case rel => exact ⟨2, _, _, rfl, M.out.trans HS9.out, HSD.out, .inr (.inr ⟨rfl, by rw [HS.out]; rfl⟩)⟩
          case measure => simp [intOf]
    · have HS := Lib.hid hs
      clear hs
      go_wp2_with fail
      go_ret
      refine ⟨g, F', rfl, by rw [← HS.out]; exact M.out.at_, fun q hq => ?_, ?_⟩
      · rcases M.out.new q hq with (h1 | h1) | h1
        · exact .inl h1
        · exact .inr (by rw [h1, HG.out]; exact Nat.le_refl _)
        · exact .inr (Nat.le_trans BW1.out.size h1)
      · exact but_step (but_below (T := FF) BW1.out) M.out.but (fun q hq => hq.imp id (fun e => by rw [e, HG.out]; exact Nat.le_refl _))
theorem new_any (hR : ∀ A n c B m e, G.R A n c B m e) {d : C.L.St} (h : C.L.At w d F1) (hl : G.l = [] := by rfl) :
    Calls Try.prog 74 #[.pointer (C.ptr 0), .pointer (C.ptr 1), G.v] w (fun e w' => ∃ g F', e = .returned (.pointer (some ⟨g, 0, none⟩)) ∧ (ML C G g).At w' (newM C d) F' ∧ (∀ q, F' q → F1 q ∨ w.heap.size ≤ q) ∧ But F1 w w') := by
  have hF : (fun x => F1 x ∨ ∃ y ∈ G.l, x = y.1) = F1 := funext fun x => propext ⟨fun hx => hx.elim id (fun ⟨y, hy, _⟩ => by rw [hl] at hy; cases hy), .inl⟩
  exact new_anyG hR h (fun x hx => by rw [hl] at hx; cases hx) hF.symm
end
end Go.Proofs.Ytnplhagfmfggcaa.Mi
/-
  A mirror of two devices of powers of their own that never fail, as the document tells of it: two lists, which of them are there, what is stale. No program.
-/
namespace Go.Proofs.Ytnplhagfmfggcaa.Mi
open Kd
structure Md where
  l0 : List (List UInt8)
  l1 : List (List UInt8)
  o0 : Bool
  o1 : Bool
  a : List Bool
  b : List Bool
def Md.l (x : Md) (i : Nat) : List (List UInt8) := if i = 0 then x.l0 else x.l1
def Md.o (x : Md) (i : Nat) : Bool := if i = 0 then x.o0 else x.o1
def Md.st (x : Md) (i : Nat) : List Bool := if i = 0 then x.a else x.b
def Md.setL (x : Md) (i k : Nat) (y : List UInt8) : Md := if i = 0 then { x with l0 := x.l0.set k y } else { x with l1 := x.l1.set k y }
def Md.put (x : Md) (i k : Nat) (v : Bool) : Md := if i = 0 then { x with a := x.a.set k v } else { x with b := x.b.set k v }
/-- A sector is written to a device, if it is there. -/
def Md.wd (x : Md) (i k : Nat) (y : List UInt8) : Md := if x.o i then x else x.setL i k y
def Md.has (x : Md) (n : Int) : Bool := decide (0 ≤ n) && decide (n < x.a.length)
section
variable {p1 g1 p2 g2 : Nat}
abbrev Two (p1 g1 p2 g2 : Nat) : Duo := duo (uno p1 g1) (uno p2 g2)
structure Sees (s : Mr (Two p1 g1 p2 g2)) (x : Md) (m : Nat) : Prop where
  d0 : See s.d.1 x.l0 x.o0 m
  d1 : See s.d.2 x.l1 x.o1 m
  a : s.a = x.a
  b : s.b = x.b
  n0 : x.l0.length = x.a.length
  n1 : x.l1.length = x.a.length
  nb : x.b.length = x.a.length
variable {s : Mr (Two p1 g1 p2 g2)} {x : Md} {m : Nat} {G : Gd}
theorem Sees.more (h : Sees s x m) {m' : Nat} (hm : m ≤ m') : Sees s x m' := ⟨h.d0.more hm, h.d1.more hm, h.a, h.b, h.n0, h.n1, h.nb⟩
theorem Sees.ok (h : Sees s x m) : s.ok x.a.length := ⟨by rw [h.a], by rw [h.b]; exact h.nb⟩
theorem Sees.st (h : Sees s x m) (i : Nat) : s.st i = x.st i := by
  unfold Mr.st Md.st; split
  · exact h.a
  · exact h.b
theorem Sees.most (h : Sees s x m) : (Two p1 g1 p2 g2).most s.d ≤ m := by
  have h0 := h.d0.few
  have h1 := h.d1.few
  show max (mostS s.d.1) (mostS s.d.2) ≤ m
  unfold mostS
  rw [if_pos h.d0.ds, if_pos h.d1.ds]
  omega
theorem Sees.has (h : Sees s x m) (n : Int) : Mi.has s n = x.has n := by rw [Mi.has, Md.has, h.a]
theorem Sees.rd (h : Sees s x m) {i : Nat} (hi : i < 2) (n : Int) :
    (Two p1 g1 p2 g2).rd s.d i n = (if x.o i then 13 else if n < 0 ∨ (x.a.length : Int) ≤ n then 2 else 0, if x.o i = false ∧ 0 ≤ n ∧ n < (x.a.length : Int) then (x.l i).getD n.toNat zeroS else zeroS) := by
  rcases two hi with rfl | rfl
  · show (refuseN s.d.1.p (s.d.1.at 0) n, readS s.d.1.p (s.d.1.at 0) n) = _
    rw [h.d0.refuse, h.d0.read, h.n0]; rfl
  · show (refuseN s.d.2.p (s.d.2.at 0) n, readS s.d.2.p (s.d.2.at 0) n) = _
    rw [h.d1.refuse, h.d1.read, h.n1]; rfl
theorem Sees.there (h : Sees s x m) {i : Nat} (hi : i < 2) : (Two p1 g1 p2 g2).there s.d i = !(x.o i) := by
  have hp : ((Two p1 g1 p2 g2).ptr i).isSome = true := by rcases two hi with rfl | rfl <;> rfl
  rw [Duo.there, hp, h.rd hi]
  cases x.o i
  · show (true && ((if false = true then (13 : Int) else if (0 : Int) < 0 ∨ (x.a.length : Int) ≤ 0 then 2 else 0) != 13)) = true
    rw [if_neg (by simp)]
    split <;> rfl
  · rfl
/-- A place's reading. -/
theorem Sees.rd_at (h : Sees s x m) {i k : Nat} (hi : i < 2) (hk : k < x.a.length) : (Two p1 g1 p2 g2).rd s.d i (k : Int) = (if x.o i then 13 else 0, if x.o i then zeroS else (x.l i).getD k zeroS) := by
  rw [h.rd hi]
  cases x.o i
  · simp only [Bool.false_eq_true, if_false, true_and]
    rw [if_neg (by omega), if_pos ⟨by omega, by omega⟩, Int.toNat_natCast]
  · simp
theorem Sees.rdOk (h : Sees s x m) {i k : Nat} (hi : i < 2) (hk : k < x.a.length) : Mi.rdOk (Two p1 g1 p2 g2) G s.d i (k : Int) = (!(x.o i) && G.f k ((x.l i).getD k zeroS)) := by
  rw [Mi.rdOk, h.rd_at hi hk]
  cases x.o i <;> rfl
/-- Does a device have a place right? -/
def Md.right (f : Int → List UInt8 → Bool) (x : Md) (i k : Nat) : Bool := !((x.st i).getD k false) && (!(x.o i) && f k ((x.l i).getD k zeroS))
theorem Sees.right (h : Sees s x m) {i k : Nat} (hi : i < 2) (hk : k < x.a.length) : Mi.right (Two p1 g1 p2 g2) G s i k = x.right G.f i k := by
  rw [Mi.right, Md.right, h.st, h.rdOk hi hk]
theorem Sees.rightV (h : Sees s x m) {i k : Nat} (hi : i < 2) (hk : k < x.a.length) (hr : x.right G.f i k = true) : Mi.rightV (Two p1 g1 p2 g2) G s i k = (x.l i).getD k zeroS := by
  have ho : x.o i = false := by
    rw [Md.right] at hr
    cases ho : x.o i
    · rfl
    · rw [ho] at hr; simp at hr
  rw [Mi.rightV, h.right hi hk, hr, if_pos rfl, h.rd_at hi hk, ho]; rfl
/-! ### Writing -/
theorem Sees.put (h : Sees s x m) (i k : Nat) (v : Bool) : Sees (s.put i k v) (x.put i k v) m := by
  unfold Mr.put Md.put
  split
  · exact ⟨h.d0, h.d1, by show s.a.set k v = x.a.set k v; rw [h.a], h.b, by show x.l0.length = (x.a.set k v).length; rw [List.length_set]; exact h.n0, by show x.l1.length = (x.a.set k v).length; rw [List.length_set]; exact h.n1, by show x.b.length = (x.a.set k v).length; rw [List.length_set]; exact h.nb⟩
  · exact ⟨h.d0, h.d1, h.a, by show s.b.set k v = x.b.set k v; rw [h.b], h.n0, h.n1, by show (x.b.set k v).length = x.a.length; rw [List.length_set]; exact h.nb⟩
theorem Sees.wd (h : Sees s x m) {i k : Nat} (hi : i < 2) (hk : k < x.a.length) (y : List UInt8) :
    ((Two p1 g1 p2 g2).wr s.d i (k : Int) y).1 = (if x.o i then 13 else 0) ∧ Sees (s.dev ((Two p1 g1 p2 g2).wr s.d i (k : Int) y).2) (x.wd i k y) (m + 1) := by
  rcases two hi with rfl | rfl
  · cases ho : x.o0 with
    | true =>
      have hw := h.d0.write_no (n := (k : Int)) (x := y) (by rw [ho]; simp)
      have e : (Two p1 g1 p2 g2).wr s.d 0 (k : Int) y = (13, s.d) := by
        show ((s.d.1.write 0 k y).1, ((s.d.1.write 0 k y).2, s.d.2)) = _
        rw [hw, ho]; rfl
      rw [e]
      refine ⟨by rw [show x.o 0 = true from ho]; rfl, ?_⟩
      rw [Md.wd, show x.o 0 = true from ho, if_pos rfl]
      exact h.more (Nat.le_succ _)
    | false =>
      obtain ⟨h1, h2⟩ := h.d0.write_yes (x := y) ho (k := k) (by rw [h.n0]; exact hk)
      refine ⟨by show (s.d.1.write 0 k y).1 = _; rw [h1, show x.o 0 = false from ho]; rfl, ?_⟩
      rw [Md.wd, show x.o 0 = false from ho, if_neg (by simp)]
      exact ⟨h2, h.d1.more (Nat.le_succ _), h.a, h.b, by show (x.l0.set k y).length = _; rw [List.length_set]; exact h.n0, h.n1, h.nb⟩
  · cases ho : x.o1 with
    | true =>
      have hw := h.d1.write_no (n := (k : Int)) (x := y) (by rw [ho]; simp)
      have e : (Two p1 g1 p2 g2).wr s.d 1 (k : Int) y = (13, s.d) := by
        show ((s.d.2.write 0 k y).1, (s.d.1, (s.d.2.write 0 k y).2)) = _
        rw [hw, ho]; rfl
      rw [e]
      refine ⟨by rw [show x.o 1 = true from ho]; rfl, ?_⟩
      rw [Md.wd, show x.o 1 = true from ho, if_pos rfl]
      exact h.more (Nat.le_succ _)
    | false =>
      obtain ⟨h1, h2⟩ := h.d1.write_yes (x := y) ho (k := k) (by rw [h.n1]; exact hk)
      refine ⟨by show (s.d.2.write 0 k y).1 = _; rw [h1, show x.o 1 = false from ho]; rfl, ?_⟩
      rw [Md.wd, show x.o 1 = false from ho, if_neg (by simp)]
      exact ⟨h.d0.more (Nat.le_succ _), h2, h.a, h.b, h.n0, by show (x.l1.set k y).length = _; rw [List.length_set]; exact h.n1, h.nb⟩
theorem wd_o (x : Md) (i k j : Nat) (y : List UInt8) : (x.wd i k y).o j = x.o j := by
  unfold Md.wd Md.setL Md.o; (repeat' split) <;> rfl
theorem wd_a (x : Md) (i k : Nat) (y : List UInt8) : (x.wd i k y).a = x.a := by
  unfold Md.wd Md.setL; (repeat' split) <;> rfl
/-- What Write, and Choose, tell and make of it. -/
def Md.write (x : Md) (n : Int) (y : List UInt8) : Int × Md :=
  if x.has n then (if x.o0 && x.o1 then (13, x) else (0, (((x.wd 0 n.toNat y).wd 1 n.toNat y).put 0 n.toNat x.o0).put 1 n.toNat x.o1)) else (2, x)
theorem has_place {x : Md} {n : Int} (h : x.has n = true) : ∃ k : Nat, n = (k : Int) ∧ k < x.a.length := by
  rw [Md.has] at h
  simp at h
  exact ⟨n.toNat, by omega, by omega⟩
theorem eq13 (o : Bool) : ((if o then (13 : Int) else 0) == 0) = !o := by cases o <;> rfl
theorem Sees.write (h : Sees s x m) (n : Int) (y : List UInt8) : (s.write n y).1 = (x.write n y).1 ∧ Sees (s.write n y).2 (x.write n y).2 (m + 2) := by
  rw [Mr.write, Md.write, h.has]
  cases hh : x.has n with
  | false => exact ⟨rfl, h.more (by omega)⟩
  | true =>
    obtain ⟨k, rfl, hk⟩ := has_place hh
    rw [if_pos rfl, if_pos rfl, Int.toNat_natCast]
    obtain ⟨e0, h0⟩ := h.wd (i := 0) (by omega) hk y
    obtain ⟨e1, h1⟩ := h0.wd (i := 1) (by omega) (by rw [wd_a]; exact hk) y
    have e1' : ((Two p1 g1 p2 g2).wr (s.w0 (k : Int) y 0).d 1 (k : Int) y).1 = _ := e1
    rw [wd_o] at e1'
    rw [e0, e1', eq13, eq13]
    have h2 : Sees ((s.w0 (k : Int) y 0).w0 (k : Int) y 1) ((x.wd 0 k y).wd 1 k y) (m + 1 + 1) := h1
    rw [Mr.reach, show x.o 0 = x.o0 from rfl, show x.o 1 = x.o1 from rfl]
    cases ho0 : x.o0 <;> cases ho1 : x.o1
    · exact ⟨rfl, (h2.put 0 k false).put 1 k false⟩
    · exact ⟨rfl, (h2.put 0 k false).put 1 k true⟩
    · exact ⟨rfl, (h2.put 0 k true).put 1 k false⟩
    · refine ⟨rfl, ?_⟩
      have hx : (x.wd 0 k y).wd 1 k y = x := by
        have h3 : x.wd 0 k y = x := by rw [Md.wd, show x.o 0 = true from ho0, if_pos rfl]
        rw [h3, Md.wd, show x.o 1 = true from ho1, if_pos rfl]
      rw [hx] at h2
      exact h2
end
end Go.Proofs.Ytnplhagfmfggcaa.Mi
/-
  .. and what Choose, Flush, Read, Heal, Both, Sync, New, Out and Rot make of it. No program.
-/
namespace Go.Proofs.Ytnplhagfmfggcaa.Mi
open Kd
section
variable {p1 g1 p2 g2 : Nat} {s : Mr (Two p1 g1 p2 g2)} {x : Md} {m : Nat} {G : Gd}
theorem list_set_self {α : Type} (l : List α) (k : Nat) (d : α) : l.set k (l.getD k d) = l := by
  apply List.ext_getElem?
  intro j
  rw [List.getElem?_set]
  split
  · rename_i h; subst h
    split
    · rename_i h; rw [List.getD_eq_getElem?_getD, List.getElem?_eq_getElem h]; rfl
    · rename_i h; rw [List.getElem?_eq_none (by omega)]
  · rfl
theorem wd_same {i k : Nat} (h : x.o i = false) : x.wd i k ((x.l i).getD k zeroS) = x := by
  rw [Md.wd, h, if_neg (by simp), Md.setL]
  unfold Md.l
  split
  · show { x with l0 := x.l0.set k (x.l0.getD k zeroS) } = x
    rw [list_set_self]
  · show { x with l1 := x.l1.set k (x.l1.getD k zeroS) } = x
    rw [list_set_self]
theorem Sees.c1 (h : Sees s x m) {i k : Nat} (hi : i < 2) (hk : k < x.a.length) (y : List UInt8) : (s.c1 (k : Int) y i).1 = !(x.o i) ∧ Sees (s.c1 (k : Int) y i).2 (x.wd i k y) (m + 1) := by
  obtain ⟨e, hw⟩ := h.wd hi hk y
  rw [Mr.c1, h.rd_at hi hk]
  cases ho : x.o i with
  | true =>
    rw [if_neg (by simp)]
    refine ⟨rfl, ?_⟩
    rw [Md.wd, ho, if_pos rfl]
    exact h.more (Nat.le_succ _)
  | false =>
    rw [if_pos (by simp)]
    by_cases hy : (x.l i).getD k zeroS = y
    · rw [if_pos (by simpa using hy)]
      refine ⟨rfl, ?_⟩
      rw [← hy, wd_same ho]
      exact h.more (Nat.le_succ _)
    · rw [if_neg (by simpa using hy)]
      exact ⟨by rw [e, eq13, ho], hw⟩
theorem Sees.choose (h : Sees s x m) (n : Int) (y : List UInt8) : (s.choose n y).1 = (x.write n y).1 ∧ Sees (s.choose n y).2 (x.write n y).2 (m + 2) := by
  rw [Mr.choose, Md.write, h.has]
  cases hh : x.has n with
  | false => exact ⟨rfl, h.more (by omega)⟩
  | true =>
    obtain ⟨k, rfl, hk⟩ := has_place hh
    rw [if_pos rfl, if_pos rfl, Int.toNat_natCast]
    obtain ⟨e0, h0⟩ := h.c1 (i := 0) (by omega) hk y
    obtain ⟨e1, h1⟩ := h0.c1 (i := 1) (by omega) (by rw [wd_a]; exact hk) y
    rw [wd_o] at e1
    rw [e0, e1]
    have h2 : Sees ((s.c1 (k : Int) y 0).2.c1 (k : Int) y 1).2 ((x.wd 0 k y).wd 1 k y) (m + 1 + 1) := h1
    rw [Mr.reach, show x.o 0 = x.o0 from rfl, show x.o 1 = x.o1 from rfl]
    cases ho0 : x.o0 <;> cases ho1 : x.o1
    · exact ⟨rfl, (h2.put 0 k false).put 1 k false⟩
    · exact ⟨rfl, (h2.put 0 k false).put 1 k true⟩
    · exact ⟨rfl, (h2.put 0 k true).put 1 k false⟩
    · refine ⟨rfl, ?_⟩
      have hx : (x.wd 0 k y).wd 1 k y = x := by
        have h3 : x.wd 0 k y = x := by rw [Md.wd, show x.o 0 = true from ho0, if_pos rfl]
        rw [h3, Md.wd, show x.o 1 = true from ho1, if_pos rfl]
      rw [hx] at h2
      exact h2
/-! ### Flushing: m is 0 of what is out -/
/-- Nothing waits of a device that is out. -/
structure Dry (s : Mr (Two p1 g1 p2 g2)) (x : Md) : Prop where
  d0 : x.o0 = true → See s.d.1 x.l0 x.o0 0
  d1 : x.o1 = true → See s.d.2 x.l1 x.o1 0
theorem Sees.dry (h : Sees s x 0) : Dry s x := ⟨fun _ => h.d0, fun _ => h.d1⟩
theorem Dry.put (h : Dry s x) (i k : Nat) (v : Bool) : Dry (s.put i k v) (x.put i k v) := by
  unfold Mr.put Md.put; split <;> exact ⟨h.d0, h.d1⟩
theorem Dry.wd (h : Dry s x) (hs : Sees s x m) {i k : Nat} (hi : i < 2) (y : List UInt8) : Dry (s.dev ((Two p1 g1 p2 g2).wr s.d i (k : Int) y).2) (x.wd i k y) := by
  rcases two hi with rfl | rfl
  · cases ho : x.o0 with
    | true =>
      have hw := hs.d0.write_no (n := (k : Int)) (x := y) (by rw [ho]; simp)
      have e : ((Two p1 g1 p2 g2).wr s.d 0 (k : Int) y).2 = s.d := by
        show ((s.d.1.write 0 k y).2, s.d.2) = _
        rw [hw]; rfl
      rw [e, Md.wd, show x.o 0 = true from ho, if_pos rfl]
      exact h
    | false =>
      rw [Md.wd, show x.o 0 = false from ho, if_neg (by simp)]
      exact ⟨fun h1 => (by have h2 : x.o0 = true := h1; rw [ho] at h2; cases h2), h.d1⟩
  · cases ho : x.o1 with
    | true =>
      have hw := hs.d1.write_no (n := (k : Int)) (x := y) (by rw [ho]; simp)
      have e : ((Two p1 g1 p2 g2).wr s.d 1 (k : Int) y).2 = s.d := by
        show (s.d.1, (s.d.2.write 0 k y).2) = _
        rw [hw]; rfl
      rw [e, Md.wd, show x.o 1 = true from ho, if_pos rfl]
      exact h
    | false =>
      rw [Md.wd, show x.o 1 = false from ho, if_neg (by simp)]
      exact ⟨h.d0, fun h1 => (by have h2 : x.o1 = true := h1; rw [ho] at h2; cases h2)⟩
theorem Sees.fl (h : Sees s x m) (hd : Dry s x) : s.flushed = (!x.o0, !x.o1) ∧ Sees ((s.fl0 0).fl0 1) x 0 := by
  have e0 : ((Two p1 g1 p2 g2).fl s.d 0) = ((s.d.1.flush 0).1, ((s.d.1.flush 0).2, s.d.2)) := rfl
  have e1 : ((Two p1 g1 p2 g2).fl (s.fl0 0).d 1) = ((s.d.2.flush 0).1, ((s.d.1.flush 0).2, (s.d.2.flush 0).2)) := rfl
  have h0 : ((s.d.1.flush 0).1 == 0) = !x.o0 ∧ See (s.d.1.flush 0).2 x.l0 x.o0 0 := by
    cases ho : x.o0 with
    | true => rw [h.d0.flush_no ho]; exact ⟨rfl, ho ▸ hd.d0 ho⟩
    | false => obtain ⟨h1, h2⟩ := h.d0.flush_yes ho; rw [h1]; exact ⟨rfl, ho ▸ h2⟩
  have h1 : ((s.d.2.flush 0).1 == 0) = !x.o1 ∧ See (s.d.2.flush 0).2 x.l1 x.o1 0 := by
    cases ho : x.o1 with
    | true => rw [h.d1.flush_no ho]; exact ⟨rfl, ho ▸ hd.d1 ho⟩
    | false => obtain ⟨h1, h2⟩ := h.d1.flush_yes ho; rw [h1]; exact ⟨rfl, ho ▸ h2⟩
  refine ⟨?_, h0.2, h1.2, h.a, h.b, h.n0, h.n1, h.nb⟩
  rw [Mr.flushed, e1]
  show (((s.d.1.flush 0).1 == 0), ((s.d.2.flush 0).1 == 0)) = _
  rw [h0.1, h1.1]
theorem Sees.flush (h : Sees s x m) (hd : Dry s x) : s.flush.1 = (if x.o0 && x.o1 then 13 else 0) ∧ Sees s.flush.2 x 0 := by
  obtain ⟨h1, h2⟩ := h.fl hd
  rw [Mr.flush, h1, h.there (by omega), h.there (by omega), show x.o 0 = x.o0 from rfl, show x.o 1 = x.o1 from rfl]
  refine ⟨?_, h2⟩
  cases x.o0 <;> cases x.o1 <;> rfl
/-! ### Reading -/
def Md.read (f : Int → List UInt8 → Bool) (x : Md) (n : Int) : List UInt8 × Int :=
  if x.has n then (if x.right f 0 n.toNat then (x.l0.getD n.toNat zeroS, 0) else if x.right f 1 n.toNat then (x.l1.getD n.toNat zeroS, 0) else (zeroS, if x.o0 && x.o1 then 13 else 9)) else (zeroS, 2)
theorem right_in {f : Int → List UInt8 → Bool} {i k : Nat} (hr : x.right f i k = true) : x.o i = false := by
  rw [Md.right] at hr
  cases ho : x.o i
  · rfl
  · rw [ho] at hr; simp at hr
theorem Sees.read (h : Sees s x m) (n : Int) : readM (Two p1 g1 p2 g2) G s n = x.read G.f n := by
  rw [readM, Md.read, h.has]
  cases hh : x.has n with
  | false => rfl
  | true =>
    obtain ⟨k, rfl, hk⟩ := has_place hh
    rw [if_pos rfl, if_pos rfl, Int.toNat_natCast, h.right (by omega) hk, h.right (by omega) hk, h.rd_at (by omega) hk, h.rd_at (by omega) hk, h.there (by omega), h.there (by omega)]
    cases h0 : x.right G.f 0 k with
    | true => simp only [if_true, right_in h0]; rfl
    | false =>
      simp only [Bool.false_eq_true, if_false]
      cases h1 : x.right G.f 1 k with
      | true => simp only [if_true, right_in h1]; rfl
      | false =>
        simp only [Bool.false_eq_true, if_false]
        rw [show x.o 0 = x.o0 from rfl, show x.o 1 = x.o1 from rfl]
        cases x.o0 <;> cases x.o1 <;> rfl
/-- What Both tells. -/
def Md.bothTo (f : Int → List UInt8 → Bool) (x : Md) (k : Nat) : Nat → List (List UInt8)
  | 0 => []
  | p + 1 => x.bothTo f k p ++ if !(x.o p) && f k ((x.l p).getD k zeroS) then [(x.l p).getD k zeroS] else []
def Md.both (f : Int → List UInt8 → Bool) (x : Md) (n : Int) : List (List UInt8) := if x.has n then x.bothTo f n.toNat 2 else []
theorem Sees.bothTo (h : Sees s x m) {k : Nat} (hk : k < x.a.length) : ∀ p, p ≤ 2 → Mi.bothTo (Two p1 g1 p2 g2) G s.d (k : Int) p = x.bothTo G.f k p
  | 0, _ => rfl
  | p + 1, hp => by
    rw [Mi.bothTo, Md.bothTo, h.bothTo hk p (by omega), h.rdOk (by omega) hk, h.rd_at (by omega) hk]
    cases ho : x.o p
    · rfl
    · rfl
theorem Sees.both (h : Sees s x m) (n : Int) : bothL G s n = x.both G.f n := by
  rw [bothL, Md.both, h.has]
  cases hh : x.has n with
  | false => rfl
  | true =>
    obtain ⟨k, rfl, hk⟩ := has_place hh
    rw [if_pos rfl, if_pos rfl, Int.toNat_natCast, h.bothTo hk 2 (by omega)]
/-! ### Healing -/
def Md.mend (x : Md) (i k : Nat) (y : List UInt8) : Md := (x.setL i k y).put i k false
theorem Sees.mend (h : Sees s x m) {i k : Nat} (hi : i < 2) (hk : k < x.a.length) (ho : x.o i = false) (y : List UInt8) : (s.mend i k y).1 = 0 ∧ Sees (s.mend i k y).2 (x.mend i k y) (m + 1) := by
  obtain ⟨e, hw⟩ := h.wd hi hk y
  rw [ho] at e
  rw [Md.wd, ho, if_neg (by simp)] at hw
  rw [Mr.mend]
  rw [e]
  exact ⟨rfl, hw.put i k false⟩
def Md.heal (f : Int → List UInt8 → Bool) (x : Md) (n : Int) : (Int × Int) × Md :=
  if x.has n then
    if x.o0 || x.o1 then ((0, 13), x)
    else if x.right f 0 n.toNat then
      (if x.right f 1 n.toNat && decide (x.l0.getD n.toNat zeroS = x.l1.getD n.toNat zeroS) then ((0, 0), x) else ((1, 0), x.mend 1 n.toNat (x.l0.getD n.toNat zeroS)))
    else if x.right f 1 n.toNat then ((1, 0), x.mend 0 n.toNat (x.l1.getD n.toNat zeroS)) else ((2, 0), x)
  else ((0, 2), x)
theorem Sees.healTo (h : Sees s x m) {i k : Nat} (hi : i < 2) (hk : k < x.a.length) (ho : x.o i = false) (y : List UInt8) : (s.healTo i k y).1 = (1, 0) ∧ Sees (s.healTo i k y).2 (x.mend i k y) (m + 1) := by
  obtain ⟨e, hw⟩ := h.mend hi hk ho y
  rw [Mr.healTo, e]
  exact ⟨rfl, hw⟩
theorem Sees.heal (h : Sees s x m) (n : Int) : (s.heal G n).1 = (x.heal G.f n).1 ∧ Sees (s.heal G n).2 (x.heal G.f n).2 (m + 1) := by
  rw [Mr.heal, Md.heal, h.has]
  cases hh : x.has n with
  | false => exact ⟨rfl, h.more (by omega)⟩
  | true =>
    obtain ⟨k, rfl, hk⟩ := has_place hh
    rw [if_pos rfl, if_pos rfl, Int.toNat_natCast, h.there (by omega), h.there (by omega), h.right (by omega) hk, h.right (by omega) hk, show x.o 0 = x.o0 from rfl, show x.o 1 = x.o1 from rfl]
    cases ho0 : x.o0 with
    | true => exact ⟨rfl, h.more (by omega)⟩
    | false =>
      cases ho1 : x.o1 with
      | true => exact ⟨rfl, h.more (by omega)⟩
      | false =>
        rw [if_pos (show ((!false) && !false) = true from rfl), if_neg (show ¬ (false || false) = true by simp)]
        cases h0 : x.right G.f 0 k with
        | true =>
          have v0 : Mi.rightV (Two p1 g1 p2 g2) G s 0 k = x.l0.getD k zeroS := h.rightV (i := 0) (by omega) hk h0
          simp only [if_true, v0]
          cases h1 : x.right G.f 1 k with
          | true =>
            have v1 : Mi.rightV (Two p1 g1 p2 g2) G s 1 k = x.l1.getD k zeroS := h.rightV (i := 1) (by omega) hk h1
            simp only [if_true, v1, Bool.true_and]
            by_cases he : x.l0.getD k zeroS = x.l1.getD k zeroS
            · rw [if_pos he, if_pos (decide_eq_true he)]; exact ⟨rfl, h.more (by omega)⟩
            · rw [if_neg he, if_neg (by rw [decide_eq_false he]; simp)]; exact h.healTo (i := 1) (by omega) hk ho1 _
          | false => simp only [Bool.false_eq_true, if_false, Bool.false_and]; exact h.healTo (i := 1) (by omega) hk ho1 _
        | false =>
          simp only [Bool.false_eq_true, if_false]
          cases h1 : x.right G.f 1 k with
          | true =>
            have v1 : Mi.rightV (Two p1 g1 p2 g2) G s 1 k = x.l1.getD k zeroS := h.rightV (i := 1) (by omega) hk h1
            simp only [if_true, v1]; exact h.healTo (i := 0) (by omega) hk ho0 _
          | false => simp only [Bool.false_eq_true, if_false]; exact ⟨trivial, h.more (by omega)⟩
/-! ### New -/
def Md.new (n : Nat) : Md := ⟨List.replicate n zeroS, List.replicate n zeroS, false, false, List.replicate n false, List.replicate n false⟩
theorem sees_new {S T : Sy} {L0 L1 : List (List UInt8)} {o0 o1 : Bool} {n : Nat} (h0 : See S L0 o0 m) (h1 : See T L1 o1 m) (e0 : L0.length = n) (e1 : L1.length = n) :
    Sees (newM (Two p1 g1 p2 g2) (S, T)) ⟨L0, L1, o0, o1, List.replicate n o0, List.replicate n o1⟩ m := by
  have hs : Sees (⟨(S, T), List.replicate n o0, List.replicate n o1⟩ : Mr (Two p1 g1 p2 g2)) ⟨L0, L1, o0, o1, List.replicate n o0, List.replicate n o1⟩ m :=
    ⟨h0, h1, rfl, rfl, by rw [List.length_replicate]; exact e0, by rw [List.length_replicate]; exact e1, by rw [List.length_replicate, List.length_replicate]⟩
  have hp : (Two p1 g1 p2 g2).places (S, T) = n := by
    show min (S.at 0).st.length (T.at 0).st.length = n
    rw [h0.len, h1.len, e0, e1, Nat.min_self]
  have t0 : (Two p1 g1 p2 g2).there (S, T) 0 = !o0 := hs.there (i := 0) (by omega)
  have t1 : (Two p1 g1 p2 g2).there (S, T) 1 = !o1 := hs.there (i := 1) (by omega)
  have e : newM (Two p1 g1 p2 g2) (S, T) = ⟨(S, T), List.replicate n o0, List.replicate n o1⟩ := by
    show (⟨(S, T), List.replicate ((Two p1 g1 p2 g2).places (S, T)) (!((Two p1 g1 p2 g2).there (S, T) 0)), List.replicate ((Two p1 g1 p2 g2).places (S, T)) (!((Two p1 g1 p2 g2).there (S, T) 1))⟩ : Mr (Two p1 g1 p2 g2)) = _
    rw [hp, t0, t1, Bool.not_not, Bool.not_not]
  rw [e]
  exact hs
end
end Go.Proofs.Ytnplhagfmfggcaa.Mi
/-
  .. Sync, Out, Rot; what waits of what is out. No program.
-/
namespace Go.Proofs.Ytnplhagfmfggcaa.Mi
open Kd
section
variable {p1 g1 p2 g2 : Nat} {s : Mr (Two p1 g1 p2 g2)} {x : Md} {m : Nat} {G : Gd}
theorem dry_in (h0 : x.o0 = false) (h1 : x.o1 = false) : Dry s x := ⟨fun h => (by rw [h0] at h; cases h), fun h => (by rw [h1] at h; cases h)⟩
theorem Dry.write (hd : Dry s x) (h : Sees s x m) (n : Int) (y : List UInt8) : Dry (s.write n y).2 (x.write n y).2 := by
  rw [Mr.write, Md.write, h.has]
  cases hh : x.has n with
  | false => exact hd
  | true =>
    obtain ⟨k, rfl, hk⟩ := has_place hh
    rw [if_pos rfl, if_pos rfl, Int.toNat_natCast]
    obtain ⟨e0, h0⟩ := h.wd (i := 0) (by omega) hk y
    obtain ⟨e1, _⟩ := h0.wd (i := 1) (by omega) (by rw [wd_a]; exact hk) y
    have e1' : ((Two p1 g1 p2 g2).wr (s.w0 (k : Int) y 0).d 1 (k : Int) y).1 = _ := e1
    rw [wd_o] at e1'
    rw [e0, e1', eq13, eq13]
    have h2 : Dry ((s.w0 (k : Int) y 0).w0 (k : Int) y 1) ((x.wd 0 k y).wd 1 k y) := (hd.wd h (by omega) y).wd h0 (by omega) y
    rw [Mr.reach, show x.o 0 = x.o0 from rfl, show x.o 1 = x.o1 from rfl]
    cases ho0 : x.o0 <;> cases ho1 : x.o1
    · exact (h2.put 0 k false).put 1 k false
    · exact (h2.put 0 k false).put 1 k true
    · exact (h2.put 0 k true).put 1 k false
    · have hx : (x.wd 0 k y).wd 1 k y = x := by
        have h3 : x.wd 0 k y = x := by rw [Md.wd, show x.o 0 = true from ho0, if_pos rfl]
        rw [h3, Md.wd, show x.o 1 = true from ho1, if_pos rfl]
      rw [hx] at h2
      exact h2
theorem Dry.c1 (hd : Dry s x) (h : Sees s x m) {i k : Nat} (hi : i < 2) (hk : k < x.a.length) (y : List UInt8) : Dry (s.c1 (k : Int) y i).2 (x.wd i k y) := by
  have hw := hd.wd h hi y (k := k)
  rw [Mr.c1, h.rd_at hi hk]
  cases ho : x.o i with
  | true =>
    rw [if_neg (by simp), Md.wd, ho, if_pos rfl]
    exact hd
  | false =>
    rw [if_pos (by simp)]
    by_cases hy : (x.l i).getD k zeroS = y
    · rw [if_pos (by simpa using hy), ← hy, wd_same ho]
      exact hd
    · rw [if_neg (by simpa using hy)]
      exact hw
theorem Dry.choose (hd : Dry s x) (h : Sees s x m) (n : Int) (y : List UInt8) : Dry (s.choose n y).2 (x.write n y).2 := by
  rw [Mr.choose, Md.write, h.has]
  cases hh : x.has n with
  | false => exact hd
  | true =>
    obtain ⟨k, rfl, hk⟩ := has_place hh
    rw [if_pos rfl, if_pos rfl, Int.toNat_natCast]
    obtain ⟨e0, h0⟩ := h.c1 (i := 0) (by omega) hk y
    obtain ⟨e1, _⟩ := h0.c1 (i := 1) (by omega) (by rw [wd_a]; exact hk) y
    rw [wd_o] at e1
    rw [e0, e1]
    have h2 : Dry ((s.c1 (k : Int) y 0).2.c1 (k : Int) y 1).2 ((x.wd 0 k y).wd 1 k y) := (hd.c1 h (by omega) hk y).c1 h0 (by omega) (by rw [wd_a]; exact hk) y
    rw [Mr.reach, show x.o 0 = x.o0 from rfl, show x.o 1 = x.o1 from rfl]
    cases ho0 : x.o0 <;> cases ho1 : x.o1
    · exact (h2.put 0 k false).put 1 k false
    · exact (h2.put 0 k false).put 1 k true
    · exact (h2.put 0 k true).put 1 k false
    · have hx : (x.wd 0 k y).wd 1 k y = x := by
        have h3 : x.wd 0 k y = x := by rw [Md.wd, show x.o 0 = true from ho0, if_pos rfl]
        rw [h3, Md.wd, show x.o 1 = true from ho1, if_pos rfl]
      rw [hx] at h2
      exact h2
theorem setL_o (x : Md) (i k : Nat) (y : List UInt8) : (x.setL i k y).o0 = x.o0 ∧ (x.setL i k y).o1 = x.o1 ∧ (x.setL i k y).a = x.a := by unfold Md.setL; split <;> exact ⟨rfl, rfl, rfl⟩
theorem put_o (x : Md) (i k : Nat) (v : Bool) : (x.put i k v).o0 = x.o0 ∧ (x.put i k v).o1 = x.o1 ∧ (x.put i k v).a.length = x.a.length := by
  unfold Md.put; split
  · exact ⟨rfl, rfl, by simp⟩
  · exact ⟨rfl, rfl, rfl⟩
theorem mend_o (x : Md) (i k : Nat) (y : List UInt8) : (x.mend i k y).o0 = x.o0 ∧ (x.mend i k y).o1 = x.o1 ∧ (x.mend i k y).a.length = x.a.length := by
  obtain ⟨h1, h2, h3⟩ := put_o (x.setL i k y) i k false
  obtain ⟨h4, h5, h6⟩ := setL_o x i k y
  exact ⟨h1.trans h4, h2.trans h5, h3.trans (by rw [h6])⟩
theorem Dry.heal (hd : Dry s x) (h : Sees s x m) (n : Int) : Dry (s.heal G n).2 (x.heal G.f n).2 := by
  by_cases hc : x.has n = true ∧ x.o0 = false ∧ x.o1 = false
  · obtain ⟨hh, h0, h1⟩ := hc
    have e : (x.heal G.f n).2.o0 = false ∧ (x.heal G.f n).2.o1 = false := by
      rw [Md.heal, hh, if_pos rfl, if_neg (by rw [h0, h1]; simp)]
      split
      · split
        · exact ⟨h0, h1⟩
        · obtain ⟨a, b, _⟩ := mend_o x 1 n.toNat (x.l0.getD n.toNat zeroS); exact ⟨a.trans h0, b.trans h1⟩
      · split
        · obtain ⟨a, b, _⟩ := mend_o x 0 n.toNat (x.l1.getD n.toNat zeroS); exact ⟨a.trans h0, b.trans h1⟩
        · exact ⟨h0, h1⟩
    exact dry_in e.1 e.2
  · have e : (s.heal G n).2 = s ∧ (x.heal G.f n).2 = x := by
      rw [Mr.heal, Md.heal, h.has]
      cases hh : x.has n with
      | false => exact ⟨rfl, rfl⟩
      | true =>
        rw [if_pos rfl, if_pos rfl, h.there (by omega), h.there (by omega), show x.o 0 = x.o0 from rfl, show x.o 1 = x.o1 from rfl]
        cases h0 : x.o0 with
        | true => exact ⟨rfl, rfl⟩
        | false =>
          cases h1 : x.o1 with
          | true => exact ⟨rfl, rfl⟩
          | false => exact absurd ⟨hh, h0, h1⟩ hc
    rw [e.1, e.2]
    exact hd
/-! ### Sync -/
def Md.catch1 (f : Int → List UInt8 → Bool) (x : Md) (i k : Nat) : Md := if (x.st i).getD k false && x.right f (1 - i) k then x.mend i k ((x.l (1 - i)).getD k zeroS) else x
def Md.catchTo (f : Int → List UInt8 → Bool) (x : Md) (i : Nat) : Nat → Md
  | 0 => x
  | k + 1 => (x.catchTo f i k).catch1 f i k
theorem catch1_o (f : Int → List UInt8 → Bool) (x : Md) (i k : Nat) : (x.catch1 f i k).o0 = x.o0 ∧ (x.catch1 f i k).o1 = x.o1 ∧ (x.catch1 f i k).a.length = x.a.length := by
  unfold Md.catch1; split
  · exact mend_o _ _ _ _
  · exact ⟨rfl, rfl, rfl⟩
theorem catchTo_o (f : Int → List UInt8 → Bool) (x : Md) (i : Nat) : ∀ k, (x.catchTo f i k).o0 = x.o0 ∧ (x.catchTo f i k).o1 = x.o1 ∧ (x.catchTo f i k).a.length = x.a.length
  | 0 => ⟨rfl, rfl, rfl⟩
  | k + 1 => by
    obtain ⟨a, b, c⟩ := catchTo_o f x i k
    obtain ⟨d, e, g⟩ := catch1_o f (x.catchTo f i k) i k
    exact ⟨d.trans a, e.trans b, g.trans c⟩
theorem Sees.catch1 (h : Sees s x m) {i k : Nat} (hi : i < 2) (hk : k < x.a.length) (ho : x.o i = false) : Sees (s.catch1 G i k) (x.catch1 G.f i k) (m + 1) := by
  rw [Mr.catch1, Md.catch1, h.st, h.right (by omega) hk]
  split
  · rename_i hc
    have hr : x.right G.f (1 - i) k = true := by
      cases hr : x.right G.f (1 - i) k
      · rw [hr, Bool.and_false] at hc; cases hc
      · rfl
    rw [h.rightV (by omega) hk hr]
    exact (h.mend hi hk ho _).2
  · exact h.more (Nat.le_succ _)
theorem Sees.catchTo (h : Sees s x m) {i : Nat} (hi : i < 2) (ho0 : x.o0 = false) (ho1 : x.o1 = false) : ∀ k, k ≤ x.a.length → Sees (s.catchTo G i k) (x.catchTo G.f i k) (m + k)
  | 0, _ => h
  | k + 1, hk => by
    obtain ⟨a, b, c⟩ := catchTo_o G.f x i k
    refine (h.catchTo hi ho0 ho1 k (by omega)).catch1 hi (by rw [c]; omega) ?_
    rcases two hi with rfl | rfl
    · exact a.trans ho0
    · exact b.trans ho1
def Md.caught (f : Int → List UInt8 → Bool) (x : Md) : Md := (x.catchTo f 0 x.a.length).catchTo f 1 x.a.length
def Md.sync (f : Int → List UInt8 → Bool) (x : Md) : Int × Md :=
  if x.o0 || x.o1 then (13, x) else (if cnt (x.caught f).a = 0 ∧ cnt (x.caught f).b = 0 then 0 else 9, x.caught f)
theorem Sees.sync (h : Sees s x 0) : (s.sync G x.a.length).1 = (x.sync G.f).1 ∧ Sees (s.sync G x.a.length).2 (x.sync G.f).2 0 := by
  rw [Mr.sync, Md.sync, h.there (by omega), h.there (by omega), show x.o 0 = x.o0 from rfl, show x.o 1 = x.o1 from rfl]
  cases ho0 : x.o0 with
  | true => exact ⟨rfl, h⟩
  | false =>
    cases ho1 : x.o1 with
    | true => exact ⟨rfl, h⟩
    | false =>
      rw [if_pos (show ((!false) && !false) = true from rfl), if_neg (show ¬ (false || false) = true by simp)]
      obtain ⟨a, b, c⟩ := catchTo_o G.f x 0 x.a.length
      have h1 := h.catchTo (G := G) (i := 0) (by omega) ho0 ho1 x.a.length (Nat.le_refl _)
      have h2 : Sees (s.caught G x.a.length) (x.caught G.f) (0 + x.a.length + x.a.length) := h1.catchTo (i := 1) (by omega) (a.trans ho0) (b.trans ho1) x.a.length (by rw [c]; exact Nat.le_refl _)
      obtain ⟨d, e, g⟩ := catchTo_o G.f (x.catchTo G.f 0 x.a.length) 1 x.a.length
      have o0 : (x.caught G.f).o0 = false := (d.trans a).trans ho0
      have o1 : (x.caught G.f).o1 = false := (e.trans b).trans ho1
      obtain ⟨h3, h4⟩ := h2.fl (dry_in o0 o1)
      rw [o0, o1] at h3
      rw [if_pos (show (s.caught G x.a.length).flushed = (true, true) from h3)]
      refine ⟨?_, h4⟩
      rw [show (((s.caught G x.a.length).fl0 0).fl0 1).a = (x.caught G.f).a from h4.a, show (((s.caught G x.a.length).fl0 0).fl0 1).b = (x.caught G.f).b from h4.b]
theorem Dry.sync (h : Sees s x 0) : Dry (s.sync G x.a.length).2 (x.sync G.f).2 := (h.sync).2.dry
/-! ### Out, Rot -/
def Md.out (x : Md) (i : Nat) (on : Bool) : Md := if i = 0 then { x with o0 := on } else { x with o1 := on }
theorem Sees.out0 (h : Sees s x 0) (on : Bool) : Sees (⟨(s.d.1.put 0 ((s.d.1.at 0).out on), s.d.2), s.a, s.b⟩ : Mr (Two p1 g1 p2 g2)) (x.out 0 on) 0 := ⟨h.d0.out on, h.d1, h.a, h.b, h.n0, h.n1, h.nb⟩
theorem Sees.out1 (h : Sees s x 0) (on : Bool) : Sees (⟨(s.d.1, s.d.2.put 0 ((s.d.2.at 0).out on)), s.a, s.b⟩ : Mr (Two p1 g1 p2 g2)) (x.out 1 on) 0 := ⟨h.d0, h.d1.out on, h.a, h.b, h.n0, h.n1, h.nb⟩
theorem See.rot {S : Sy} {L : List (List UInt8)} {g : Bool} (h : See S L g 0) (i a : Int) (b : UInt8) : See (S.rot 0 i a b) (if hasByte L.length i a then rotL L i.toNat a.toNat b else L) g 0 := by
  have hl : (S.at 0).st.length = L.length := h.len
  rw [Sy.rot, hl]
  split
  · have hd0 : 0 < S.ds.length := by rw [h.ds]; omega
    have ha : (S.put 0 ((S.at 0).rot i.toNat a.toNat b)).at 0 = (S.at 0).rot i.toNat a.toNat b := by rw [at_put _ hd0, if_pos rfl]
    refine ⟨by rw [len_put]; exact h.ds, h.p, ?_, fun j hj => ?_, by rw [ha]; exact h.gone, by rw [ha]; exact h.lies, by rw [ha]; exact h.few⟩
    · rw [ha, ← h.stable]; rfl
    · rw [ha, Dv.now]
      show nowL (rotL (S.at 0).st i.toNat a.toNat b) (S.at 0).wt j = _
      rw [h.dry, Kd.flush_nil, h.stable]
  · exact h
def Md.rot (x : Md) (i : Nat) (n a : Int) (b : UInt8) : Md := if hasByte x.a.length n a then (if i = 0 then { x with l0 := rotL x.l0 n.toNat a.toNat b } else { x with l1 := rotL x.l1 n.toNat a.toNat b }) else x
theorem rotL_length (L : List (List UInt8)) (n a : Nat) (b : UInt8) : (rotL L n a b).length = L.length := by rw [rotL, List.length_set]
theorem Sees.rot0 (h : Sees s x 0) (n a : Int) (b : UInt8) : Sees (⟨(s.d.1.rot 0 n a b, s.d.2), s.a, s.b⟩ : Mr (Two p1 g1 p2 g2)) (x.rot 0 n a b) 0 := by
  have h1 := h.d0.rot n a b
  rw [h.n0] at h1
  rw [Md.rot]
  split
  · rename_i hc
    rw [if_pos hc] at h1
    exact ⟨h1, h.d1, h.a, h.b, by show (rotL _ _ _ _).length = _; rw [rotL_length]; exact h.n0, h.n1, h.nb⟩
  · rename_i hc
    rw [if_neg hc] at h1
    exact ⟨h1, h.d1, h.a, h.b, h.n0, h.n1, h.nb⟩
theorem Sees.rot1 (h : Sees s x 0) (n a : Int) (b : UInt8) : Sees (⟨(s.d.1, s.d.2.rot 0 n a b), s.a, s.b⟩ : Mr (Two p1 g1 p2 g2)) (x.rot 1 n a b) 0 := by
  have h1 := h.d1.rot n a b
  rw [h.n1] at h1
  rw [Md.rot]
  split
  · rename_i hc
    rw [if_pos hc] at h1
    exact ⟨h.d0, h1, h.a, h.b, h.n0, by show (rotL _ _ _ _).length = _; rw [rotL_length]; exact h.n1, h.nb⟩
  · rename_i hc
    rw [if_neg hc] at h1
    exact ⟨h.d0, h1, h.a, h.b, h.n0, h.n1, h.nb⟩
end
end Go.Proofs.Ytnplhagfmfggcaa.Mi
/-
  A mirror of two devices of one power that never fails, as the document tells of it. No program.
-/
namespace Go.Proofs.Ytnplhagfmfggcaa.Mu
open Kd Mi
section
variable {pw g1 g2 : Nat} {s : Mr (one pw g1 g2)} {x : Md} {m : Nat} {G : Gd}
structure Sees (s : Mr (one pw g1 g2)) (x : Md) (m : Nat) : Prop where
  d0 : See s.d 0 x.l0 x.o0 m
  d1 : See s.d 1 x.l1 x.o1 m
  a : s.a = x.a
  b : s.b = x.b
  n0 : x.l0.length = x.a.length
  n1 : x.l1.length = x.a.length
  nb : x.b.length = x.a.length
theorem Sees.more (h : Sees s x m) {m' : Nat} (hm : m ≤ m') : Sees s x m' := ⟨h.d0.more hm, h.d1.more hm, h.a, h.b, h.n0, h.n1, h.nb⟩
theorem Sees.ok (h : Sees s x m) : s.ok x.a.length := ⟨by rw [h.a], by rw [h.b]; exact h.nb⟩
theorem Sees.st (h : Sees s x m) (i : Nat) : s.st i = x.st i := by
  unfold Mr.st Md.st; split
  · exact h.a
  · exact h.b
theorem Sees.most (h : Sees s x m) : (one pw g1 g2).most s.d ≤ m := by
  show mostD s.d ≤ m
  unfold mostD
  rw [if_pos h.d0.ds]
  exact Nat.max_le.2 ⟨h.d0.few, h.d1.few⟩
theorem Sees.has (h : Sees s x m) (n : Int) : Mi.has s n = x.has n := by rw [Mi.has, Md.has, h.a]
theorem Sees.rd (h : Sees s x m) {i : Nat} (hi : i < 2) (n : Int) :
    (one pw g1 g2).rd s.d i n = (if x.o i then 13 else if n < 0 ∨ (x.a.length : Int) ≤ n then 2 else 0, if x.o i = false ∧ 0 ≤ n ∧ n < (x.a.length : Int) then (x.l i).getD n.toNat zeroS else zeroS) := by
  rcases two hi with rfl | rfl
  · show (refuseN s.d.p (s.d.at 0) n, readS s.d.p (s.d.at 0) n) = _
    rw [h.d0.refuse, h.d0.read, h.n0]; rfl
  · show (refuseN s.d.p (s.d.at 1) n, readS s.d.p (s.d.at 1) n) = _
    rw [h.d1.refuse, h.d1.read, h.n1]; rfl
theorem Sees.there (h : Sees s x m) {i : Nat} (hi : i < 2) : (one pw g1 g2).there s.d i = !(x.o i) := by
  have hp : ((one pw g1 g2).ptr i).isSome = true := by rcases two hi with rfl | rfl <;> rfl
  rw [Duo.there, hp, h.rd hi]
  cases x.o i
  · show (true && ((if false = true then (13 : Int) else if (0 : Int) < 0 ∨ (x.a.length : Int) ≤ 0 then 2 else 0) != 13)) = true
    rw [if_neg (by simp)]
    split <;> rfl
  · rfl
/-- A place's reading. -/
theorem Sees.rd_at (h : Sees s x m) {i k : Nat} (hi : i < 2) (hk : k < x.a.length) : (one pw g1 g2).rd s.d i (k : Int) = (if x.o i then 13 else 0, if x.o i then zeroS else (x.l i).getD k zeroS) := by
  rw [h.rd hi]
  cases x.o i
  · simp only [Bool.false_eq_true, if_false, true_and]
    rw [if_neg (by omega), if_pos ⟨by omega, by omega⟩, Int.toNat_natCast]
  · simp
theorem Sees.rdOk (h : Sees s x m) {i k : Nat} (hi : i < 2) (hk : k < x.a.length) : Mi.rdOk (one pw g1 g2) G s.d i (k : Int) = (!(x.o i) && G.f k ((x.l i).getD k zeroS)) := by
  rw [Mi.rdOk, h.rd_at hi hk]
  cases x.o i <;> rfl
theorem Sees.right (h : Sees s x m) {i k : Nat} (hi : i < 2) (hk : k < x.a.length) : Mi.right (one pw g1 g2) G s i k = x.right G.f i k := by
  rw [Mi.right, Md.right, h.st, h.rdOk hi hk]
theorem Sees.rightV (h : Sees s x m) {i k : Nat} (hi : i < 2) (hk : k < x.a.length) (hr : x.right G.f i k = true) : Mi.rightV (one pw g1 g2) G s i k = (x.l i).getD k zeroS := by
  have ho : x.o i = false := by
    rw [Md.right] at hr
    cases ho : x.o i
    · rfl
    · rw [ho] at hr; simp at hr
  rw [Mi.rightV, h.right hi hk, hr, if_pos rfl, h.rd_at hi hk, ho]; rfl
theorem Sees.put (h : Sees s x m) (i k : Nat) (v : Bool) : Sees (s.put i k v) (x.put i k v) m := by
  unfold Mr.put Md.put
  split
  · exact ⟨h.d0, h.d1, by show s.a.set k v = x.a.set k v; rw [h.a], h.b, by show x.l0.length = (x.a.set k v).length; rw [List.length_set]; exact h.n0, by show x.l1.length = (x.a.set k v).length; rw [List.length_set]; exact h.n1, by show x.b.length = (x.a.set k v).length; rw [List.length_set]; exact h.nb⟩
  · exact ⟨h.d0, h.d1, h.a, by show s.b.set k v = x.b.set k v; rw [h.b], h.n0, h.n1, by show (x.b.set k v).length = x.a.length; rw [List.length_set]; exact h.nb⟩
theorem Sees.wd (h : Sees s x m) {i k : Nat} (hi : i < 2) (hk : k < x.a.length) (y : List UInt8) :
    ((one pw g1 g2).wr s.d i (k : Int) y).1 = (if x.o i then 13 else 0) ∧ Sees (s.dev ((one pw g1 g2).wr s.d i (k : Int) y).2) (x.wd i k y) (m + 1) := by
  rcases two hi with rfl | rfl
  · cases ho : x.o0 with
    | true =>
      have hw : (one pw g1 g2).wr s.d 0 (k : Int) y = _ := h.d0.write_no (n := (k : Int)) (x := y) (by rw [ho]; simp)
      rw [hw, ho]
      refine ⟨by rw [show x.o 0 = true from ho]; rfl, ?_⟩
      rw [Md.wd, show x.o 0 = true from ho, if_pos rfl]
      exact h.more (Nat.le_succ _)
    | false =>
      obtain ⟨h1, h2, h3⟩ := h.d0.write_yes (x := y) ho (k := k) (by rw [h.n0]; exact hk)
      refine ⟨by show (s.d.write 0 k y).1 = _; rw [h1, show x.o 0 = false from ho]; rfl, ?_⟩
      rw [Md.wd, show x.o 0 = false from ho, if_neg (by simp)]
      exact ⟨h2, (h3 (by omega) h.d1).more (Nat.le_succ _), h.a, h.b, by show (x.l0.set k y).length = _; rw [List.length_set]; exact h.n0, h.n1, h.nb⟩
  · cases ho : x.o1 with
    | true =>
      have hw : (one pw g1 g2).wr s.d 1 (k : Int) y = _ := h.d1.write_no (n := (k : Int)) (x := y) (by rw [ho]; simp)
      rw [hw, ho]
      refine ⟨by rw [show x.o 1 = true from ho]; rfl, ?_⟩
      rw [Md.wd, show x.o 1 = true from ho, if_pos rfl]
      exact h.more (Nat.le_succ _)
    | false =>
      obtain ⟨h1, h2, h3⟩ := h.d1.write_yes (x := y) ho (k := k) (by rw [h.n1]; exact hk)
      refine ⟨by show (s.d.write 1 k y).1 = _; rw [h1, show x.o 1 = false from ho]; rfl, ?_⟩
      rw [Md.wd, show x.o 1 = false from ho, if_neg (by simp)]
      exact ⟨(h3 (by omega) h.d0).more (Nat.le_succ _), h2, h.a, h.b, h.n0, by show (x.l1.set k y).length = _; rw [List.length_set]; exact h.n1, h.nb⟩
theorem Sees.write (h : Sees s x m) (n : Int) (y : List UInt8) : (s.write n y).1 = (x.write n y).1 ∧ Sees (s.write n y).2 (x.write n y).2 (m + 2) := by
  rw [Mr.write, Md.write, h.has]
  cases hh : x.has n with
  | false => exact ⟨rfl, h.more (by omega)⟩
  | true =>
    obtain ⟨k, rfl, hk⟩ := has_place hh
    rw [if_pos rfl, if_pos rfl, Int.toNat_natCast]
    obtain ⟨e0, h0⟩ := h.wd (i := 0) (by omega) hk y
    obtain ⟨e1, h1⟩ := h0.wd (i := 1) (by omega) (by rw [wd_a]; exact hk) y
    have e1' : ((one pw g1 g2).wr (s.w0 (k : Int) y 0).d 1 (k : Int) y).1 = _ := e1
    rw [wd_o] at e1'
    rw [e0, e1', eq13, eq13]
    have h2 : Sees ((s.w0 (k : Int) y 0).w0 (k : Int) y 1) ((x.wd 0 k y).wd 1 k y) (m + 1 + 1) := h1
    rw [Mr.reach, show x.o 0 = x.o0 from rfl, show x.o 1 = x.o1 from rfl]
    cases ho0 : x.o0 <;> cases ho1 : x.o1
    · exact ⟨rfl, (h2.put 0 k false).put 1 k false⟩
    · exact ⟨rfl, (h2.put 0 k false).put 1 k true⟩
    · exact ⟨rfl, (h2.put 0 k true).put 1 k false⟩
    · refine ⟨rfl, ?_⟩
      have hx : (x.wd 0 k y).wd 1 k y = x := by
        have h3 : x.wd 0 k y = x := by rw [Md.wd, show x.o 0 = true from ho0, if_pos rfl]
        rw [h3, Md.wd, show x.o 1 = true from ho1, if_pos rfl]
      rw [hx] at h2
      exact h2
end
end Go.Proofs.Ytnplhagfmfggcaa.Mu
/-
  .. and what Choose, Flush, Read, Heal, Both, New make of it. No program.
-/
namespace Go.Proofs.Ytnplhagfmfggcaa.Mu
open Kd Mi
section
variable {pw g1 g2 : Nat} {s : Mr (one pw g1 g2)} {x : Md} {m : Nat} {G : Gd}
theorem Sees.c1 (h : Sees s x m) {i k : Nat} (hi : i < 2) (hk : k < x.a.length) (y : List UInt8) : (s.c1 (k : Int) y i).1 = !(x.o i) ∧ Sees (s.c1 (k : Int) y i).2 (x.wd i k y) (m + 1) := by
  obtain ⟨e, hw⟩ := h.wd hi hk y
  rw [Mr.c1, h.rd_at hi hk]
  cases ho : x.o i with
  | true =>
    rw [if_neg (by simp)]
    refine ⟨rfl, ?_⟩
    rw [Md.wd, ho, if_pos rfl]
    exact h.more (Nat.le_succ _)
  | false =>
    rw [if_pos (by simp)]
    by_cases hy : (x.l i).getD k zeroS = y
    · rw [if_pos (by simpa using hy)]
      refine ⟨rfl, ?_⟩
      rw [← hy, wd_same ho]
      exact h.more (Nat.le_succ _)
    · rw [if_neg (by simpa using hy)]
      exact ⟨by rw [e, eq13, ho], hw⟩
theorem Sees.choose (h : Sees s x m) (n : Int) (y : List UInt8) : (s.choose n y).1 = (x.write n y).1 ∧ Sees (s.choose n y).2 (x.write n y).2 (m + 2) := by
  rw [Mr.choose, Md.write, h.has]
  cases hh : x.has n with
  | false => exact ⟨rfl, h.more (by omega)⟩
  | true =>
    obtain ⟨k, rfl, hk⟩ := has_place hh
    rw [if_pos rfl, if_pos rfl, Int.toNat_natCast]
    obtain ⟨e0, h0⟩ := h.c1 (i := 0) (by omega) hk y
    obtain ⟨e1, h1⟩ := h0.c1 (i := 1) (by omega) (by rw [wd_a]; exact hk) y
    rw [wd_o] at e1
    rw [e0, e1]
    have h2 : Sees ((s.c1 (k : Int) y 0).2.c1 (k : Int) y 1).2 ((x.wd 0 k y).wd 1 k y) (m + 1 + 1) := h1
    rw [Mr.reach, show x.o 0 = x.o0 from rfl, show x.o 1 = x.o1 from rfl]
    cases ho0 : x.o0 <;> cases ho1 : x.o1
    · exact ⟨rfl, (h2.put 0 k false).put 1 k false⟩
    · exact ⟨rfl, (h2.put 0 k false).put 1 k true⟩
    · exact ⟨rfl, (h2.put 0 k true).put 1 k false⟩
    · refine ⟨rfl, ?_⟩
      have hx : (x.wd 0 k y).wd 1 k y = x := by
        have h3 : x.wd 0 k y = x := by rw [Md.wd, show x.o 0 = true from ho0, if_pos rfl]
        rw [h3, Md.wd, show x.o 1 = true from ho1, if_pos rfl]
      rw [hx] at h2
      exact h2
structure Dry (s : Mr (one pw g1 g2)) (x : Md) : Prop where
  d0 : x.o0 = true → See s.d 0 x.l0 x.o0 0
  d1 : x.o1 = true → See s.d 1 x.l1 x.o1 0
theorem Sees.dry (h : Sees s x 0) : Dry s x := ⟨fun _ => h.d0, fun _ => h.d1⟩
theorem Dry.put (h : Dry s x) (i k : Nat) (v : Bool) : Dry (s.put i k v) (x.put i k v) := by
  unfold Mr.put Md.put; split <;> exact ⟨h.d0, h.d1⟩
theorem Dry.wd (h : Dry s x) (hs : Sees s x m) {i k : Nat} (hi : i < 2) (hk : k < x.a.length) (y : List UInt8) : Dry (s.dev ((one pw g1 g2).wr s.d i (k : Int) y).2) (x.wd i k y) := by
  rcases two hi with rfl | rfl
  · cases ho : x.o0 with
    | true =>
      have hw : (one pw g1 g2).wr s.d 0 (k : Int) y = _ := hs.d0.write_no (n := (k : Int)) (x := y) (by rw [ho]; simp)
      rw [hw, Md.wd, show x.o 0 = true from ho, if_pos rfl]
      exact h
    | false =>
      obtain ⟨h1, h2, h3⟩ := hs.d0.write_yes (x := y) ho (k := k) (by rw [hs.n0]; exact hk)
      rw [Md.wd, show x.o 0 = false from ho, if_neg (by simp)]
      exact ⟨fun h1 => (by have h2 : x.o0 = true := h1; rw [ho] at h2; cases h2), fun h4 => h3 (by omega) (h.d1 h4)⟩
  · cases ho : x.o1 with
    | true =>
      have hw : (one pw g1 g2).wr s.d 1 (k : Int) y = _ := hs.d1.write_no (n := (k : Int)) (x := y) (by rw [ho]; simp)
      rw [hw, Md.wd, show x.o 1 = true from ho, if_pos rfl]
      exact h
    | false =>
      obtain ⟨h1, h2, h3⟩ := hs.d1.write_yes (x := y) ho (k := k) (by rw [hs.n1]; exact hk)
      rw [Md.wd, show x.o 1 = false from ho, if_neg (by simp)]
      exact ⟨fun h4 => h3 (by omega) (h.d0 h4), fun h1 => (by have h2 : x.o1 = true := h1; rw [ho] at h2; cases h2)⟩
theorem Sees.fl (h : Sees s x m) (hd : Dry s x) : s.flushed = (!x.o0, !x.o1) ∧ Sees ((s.fl0 0).fl0 1) x 0 := by
  have h0 : ((s.d.flush 0).1 == 0) = !x.o0 ∧ See (s.d.flush 0).2 0 x.l0 x.o0 0 ∧ ∀ {L' g' m'}, See s.d 1 L' g' m' → See (s.d.flush 0).2 1 L' g' m' := by
    cases ho : x.o0 with
    | true => rw [h.d0.flush_no ho]; exact ⟨rfl, ho ▸ hd.d0 ho, fun h => h⟩
    | false => obtain ⟨h1, h2, h3⟩ := h.d0.flush_yes ho; rw [h1]; exact ⟨rfl, ho ▸ h2, fun h => h3 (by omega) h⟩
  have hs1 := h0.2.2 h.d1
  have h1 : (((s.d.flush 0).2.flush 1).1 == 0) = !x.o1 ∧ See ((s.d.flush 0).2.flush 1).2 1 x.l1 x.o1 0 ∧ See ((s.d.flush 0).2.flush 1).2 0 x.l0 x.o0 0 := by
    cases ho : x.o1 with
    | true => rw [hs1.flush_no ho]; exact ⟨rfl, ho ▸ h0.2.2 (hd.d1 ho), h0.2.1⟩
    | false => obtain ⟨h1, h2, h3⟩ := hs1.flush_yes ho; rw [h1]; exact ⟨rfl, ho ▸ h2, h3 (by omega) h0.2.1⟩
  refine ⟨?_, h1.2.2, h1.2.1, h.a, h.b, h.n0, h.n1, h.nb⟩
  rw [Mr.flushed]
  show (((s.d.flush 0).1 == 0), (((s.d.flush 0).2.flush 1).1 == 0)) = _
  rw [h0.1, h1.1]
theorem Sees.flush (h : Sees s x m) (hd : Dry s x) : s.flush.1 = (if x.o0 && x.o1 then 13 else 0) ∧ Sees s.flush.2 x 0 := by
  obtain ⟨h1, h2⟩ := h.fl hd
  rw [Mr.flush, h1, h.there (by omega), h.there (by omega), show x.o 0 = x.o0 from rfl, show x.o 1 = x.o1 from rfl]
  refine ⟨?_, h2⟩
  cases x.o0 <;> cases x.o1 <;> rfl
theorem Sees.read (h : Sees s x m) (n : Int) : readM (one pw g1 g2) G s n = x.read G.f n := by
  rw [readM, Md.read, h.has]
  cases hh : x.has n with
  | false => rfl
  | true =>
    obtain ⟨k, rfl, hk⟩ := has_place hh
    rw [if_pos rfl, if_pos rfl, Int.toNat_natCast, h.right (by omega) hk, h.right (by omega) hk, h.rd_at (by omega) hk, h.rd_at (by omega) hk, h.there (by omega), h.there (by omega)]
    cases h0 : x.right G.f 0 k with
    | true => simp only [if_true, right_in h0]; rfl
    | false =>
      simp only [Bool.false_eq_true, if_false]
      cases h1 : x.right G.f 1 k with
      | true => simp only [if_true, right_in h1]; rfl
      | false =>
        simp only [Bool.false_eq_true, if_false]
        rw [show x.o 0 = x.o0 from rfl, show x.o 1 = x.o1 from rfl]
        cases x.o0 <;> cases x.o1 <;> rfl
theorem Sees.bothTo (h : Sees s x m) {k : Nat} (hk : k < x.a.length) : ∀ p, p ≤ 2 → Mi.bothTo (one pw g1 g2) G s.d (k : Int) p = x.bothTo G.f k p
  | 0, _ => rfl
  | p + 1, hp => by
    rw [Mi.bothTo, Md.bothTo, h.bothTo hk p (by omega), h.rdOk (by omega) hk, h.rd_at (by omega) hk]
    cases ho : x.o p
    · rfl
    · rfl
theorem Sees.both (h : Sees s x m) (n : Int) : bothL G s n = x.both G.f n := by
  rw [bothL, Md.both, h.has]
  cases hh : x.has n with
  | false => rfl
  | true =>
    obtain ⟨k, rfl, hk⟩ := has_place hh
    rw [if_pos rfl, if_pos rfl, Int.toNat_natCast, h.bothTo hk 2 (by omega)]
theorem Sees.mend (h : Sees s x m) {i k : Nat} (hi : i < 2) (hk : k < x.a.length) (ho : x.o i = false) (y : List UInt8) : (s.mend i k y).1 = 0 ∧ Sees (s.mend i k y).2 (x.mend i k y) (m + 1) := by
  obtain ⟨e, hw⟩ := h.wd hi hk y
  rw [ho] at e
  rw [Md.wd, ho, if_neg (by simp)] at hw
  rw [Mr.mend]
  rw [e]
  exact ⟨rfl, hw.put i k false⟩
theorem Sees.healTo (h : Sees s x m) {i k : Nat} (hi : i < 2) (hk : k < x.a.length) (ho : x.o i = false) (y : List UInt8) : (s.healTo i k y).1 = (1, 0) ∧ Sees (s.healTo i k y).2 (x.mend i k y) (m + 1) := by
  obtain ⟨e, hw⟩ := h.mend hi hk ho y
  rw [Mr.healTo, e]
  exact ⟨rfl, hw⟩
theorem Sees.heal (h : Sees s x m) (n : Int) : (s.heal G n).1 = (x.heal G.f n).1 ∧ Sees (s.heal G n).2 (x.heal G.f n).2 (m + 1) := by
  rw [Mr.heal, Md.heal, h.has]
  cases hh : x.has n with
  | false => exact ⟨rfl, h.more (by omega)⟩
  | true =>
    obtain ⟨k, rfl, hk⟩ := has_place hh
    rw [if_pos rfl, if_pos rfl, Int.toNat_natCast, h.there (by omega), h.there (by omega), h.right (by omega) hk, h.right (by omega) hk, show x.o 0 = x.o0 from rfl, show x.o 1 = x.o1 from rfl]
    cases ho0 : x.o0 with
    | true => exact ⟨rfl, h.more (by omega)⟩
    | false =>
      cases ho1 : x.o1 with
      | true => exact ⟨rfl, h.more (by omega)⟩
      | false =>
        rw [if_pos (show ((!false) && !false) = true from rfl), if_neg (show ¬ (false || false) = true by simp)]
        cases h0 : x.right G.f 0 k with
        | true =>
          have v0 : Mi.rightV (one pw g1 g2) G s 0 k = x.l0.getD k zeroS := h.rightV (i := 0) (by omega) hk h0
          simp only [if_true, v0]
          cases h1 : x.right G.f 1 k with
          | true =>
            have v1 : Mi.rightV (one pw g1 g2) G s 1 k = x.l1.getD k zeroS := h.rightV (i := 1) (by omega) hk h1
            simp only [if_true, v1, Bool.true_and]
            by_cases he : x.l0.getD k zeroS = x.l1.getD k zeroS
            · rw [if_pos he, if_pos (decide_eq_true he)]; exact ⟨rfl, h.more (by omega)⟩
            · rw [if_neg he, if_neg (by rw [decide_eq_false he]; simp)]; exact h.healTo (i := 1) (by omega) hk ho1 _
          | false => simp only [Bool.false_eq_true, if_false, Bool.false_and]; exact h.healTo (i := 1) (by omega) hk ho1 _
        | false =>
          simp only [Bool.false_eq_true, if_false]
          cases h1 : x.right G.f 1 k with
          | true =>
            have v1 : Mi.rightV (one pw g1 g2) G s 1 k = x.l1.getD k zeroS := h.rightV (i := 1) (by omega) hk h1
            simp only [if_true, v1]; exact h.healTo (i := 0) (by omega) hk ho0 _
          | false => simp only [Bool.false_eq_true, if_false]; exact ⟨trivial, h.more (by omega)⟩
theorem sees_new {S : Sy} {L0 L1 : List (List UInt8)} {o0 o1 : Bool} {n : Nat} (h0 : See S 0 L0 o0 m) (h1 : See S 1 L1 o1 m) (e0 : L0.length = n) (e1 : L1.length = n) :
    Sees (newM (one pw g1 g2) S) ⟨L0, L1, o0, o1, List.replicate n o0, List.replicate n o1⟩ m := by
  have hs : Sees (⟨S, List.replicate n o0, List.replicate n o1⟩ : Mr (one pw g1 g2)) ⟨L0, L1, o0, o1, List.replicate n o0, List.replicate n o1⟩ m :=
    ⟨h0, h1, rfl, rfl, by rw [List.length_replicate]; exact e0, by rw [List.length_replicate]; exact e1, by rw [List.length_replicate, List.length_replicate]⟩
  have hp : (one pw g1 g2).places S = n := by
    show min (S.at 0).st.length (S.at 1).st.length = n
    rw [h0.len, h1.len, e0, e1, Nat.min_self]
  have t0 : (one pw g1 g2).there S 0 = !o0 := hs.there (i := 0) (by omega)
  have t1 : (one pw g1 g2).there S 1 = !o1 := hs.there (i := 1) (by omega)
  have e : newM (one pw g1 g2) S = ⟨S, List.replicate n o0, List.replicate n o1⟩ := by
    show (⟨S, List.replicate ((one pw g1 g2).places S) (!((one pw g1 g2).there S 0)), List.replicate ((one pw g1 g2).places S) (!((one pw g1 g2).there S 1))⟩ : Mr (one pw g1 g2)) = _
    rw [hp, t0, t1, Bool.not_not, Bool.not_not]
  rw [e]
  exact hs
end
end Go.Proofs.Ytnplhagfmfggcaa.Mu
/-
  .. Sync, Out, Rot; what waits of what is out. No program.
-/
namespace Go.Proofs.Ytnplhagfmfggcaa.Mu
open Kd Mi
section
variable {pw g1 g2 : Nat} {s : Mr (one pw g1 g2)} {x : Md} {m : Nat} {G : Gd}
theorem dry_in (h0 : x.o0 = false) (h1 : x.o1 = false) : Dry s x := ⟨fun h => (by rw [h0] at h; cases h), fun h => (by rw [h1] at h; cases h)⟩
theorem Dry.write (hd : Dry s x) (h : Sees s x m) (n : Int) (y : List UInt8) : Dry (s.write n y).2 (x.write n y).2 := by
  rw [Mr.write, Md.write, h.has]
  cases hh : x.has n with
  | false => exact hd
  | true =>
    obtain ⟨k, rfl, hk⟩ := has_place hh
    rw [if_pos rfl, if_pos rfl, Int.toNat_natCast]
    obtain ⟨e0, h0⟩ := h.wd (i := 0) (by omega) hk y
    obtain ⟨e1, _⟩ := h0.wd (i := 1) (by omega) (by rw [wd_a]; exact hk) y
    have e1' : ((one pw g1 g2).wr (s.w0 (k : Int) y 0).d 1 (k : Int) y).1 = _ := e1
    rw [wd_o] at e1'
    rw [e0, e1', eq13, eq13]
    have h2 : Dry ((s.w0 (k : Int) y 0).w0 (k : Int) y 1) ((x.wd 0 k y).wd 1 k y) := (hd.wd h (by omega) hk y).wd h0 (by omega) (by rw [wd_a]; exact hk) y
    rw [Mr.reach, show x.o 0 = x.o0 from rfl, show x.o 1 = x.o1 from rfl]
    cases ho0 : x.o0 <;> cases ho1 : x.o1
    · exact (h2.put 0 k false).put 1 k false
    · exact (h2.put 0 k false).put 1 k true
    · exact (h2.put 0 k true).put 1 k false
    · have hx : (x.wd 0 k y).wd 1 k y = x := by
        have h3 : x.wd 0 k y = x := by rw [Md.wd, show x.o 0 = true from ho0, if_pos rfl]
        rw [h3, Md.wd, show x.o 1 = true from ho1, if_pos rfl]
      rw [hx] at h2
      exact h2
theorem Dry.c1 (hd : Dry s x) (h : Sees s x m) {i k : Nat} (hi : i < 2) (hk : k < x.a.length) (y : List UInt8) : Dry (s.c1 (k : Int) y i).2 (x.wd i k y) := by
  have hw := hd.wd h hi hk y
  rw [Mr.c1, h.rd_at hi hk]
  cases ho : x.o i with
  | true =>
    rw [if_neg (by simp), Md.wd, ho, if_pos rfl]
    exact hd
  | false =>
    rw [if_pos (by simp)]
    by_cases hy : (x.l i).getD k zeroS = y
    · rw [if_pos (by simpa using hy), ← hy, wd_same ho]
      exact hd
    · rw [if_neg (by simpa using hy)]
      exact hw
theorem Dry.choose (hd : Dry s x) (h : Sees s x m) (n : Int) (y : List UInt8) : Dry (s.choose n y).2 (x.write n y).2 := by
  rw [Mr.choose, Md.write, h.has]
  cases hh : x.has n with
  | false => exact hd
  | true =>
    obtain ⟨k, rfl, hk⟩ := has_place hh
    rw [if_pos rfl, if_pos rfl, Int.toNat_natCast]
    obtain ⟨e0, h0⟩ := h.c1 (i := 0) (by omega) hk y
    obtain ⟨e1, _⟩ := h0.c1 (i := 1) (by omega) (by rw [wd_a]; exact hk) y
    rw [wd_o] at e1
    rw [e0, e1]
    have h2 : Dry ((s.c1 (k : Int) y 0).2.c1 (k : Int) y 1).2 ((x.wd 0 k y).wd 1 k y) := (hd.c1 h (by omega) hk y).c1 h0 (by omega) (by rw [wd_a]; exact hk) y
    rw [Mr.reach, show x.o 0 = x.o0 from rfl, show x.o 1 = x.o1 from rfl]
    cases ho0 : x.o0 <;> cases ho1 : x.o1
    · exact (h2.put 0 k false).put 1 k false
    · exact (h2.put 0 k false).put 1 k true
    · exact (h2.put 0 k true).put 1 k false
    · have hx : (x.wd 0 k y).wd 1 k y = x := by
        have h3 : x.wd 0 k y = x := by rw [Md.wd, show x.o 0 = true from ho0, if_pos rfl]
        rw [h3, Md.wd, show x.o 1 = true from ho1, if_pos rfl]
      rw [hx] at h2
      exact h2
theorem Dry.heal (hd : Dry s x) (h : Sees s x m) (n : Int) : Dry (s.heal G n).2 (x.heal G.f n).2 := by
  by_cases hc : x.has n = true ∧ x.o0 = false ∧ x.o1 = false
  · obtain ⟨hh, h0, h1⟩ := hc
    have e : (x.heal G.f n).2.o0 = false ∧ (x.heal G.f n).2.o1 = false := by
      rw [Md.heal, hh, if_pos rfl, if_neg (by rw [h0, h1]; simp)]
      split
      · split
        · exact ⟨h0, h1⟩
        · obtain ⟨a, b, _⟩ := mend_o x 1 n.toNat (x.l0.getD n.toNat zeroS); exact ⟨a.trans h0, b.trans h1⟩
      · split
        · obtain ⟨a, b, _⟩ := mend_o x 0 n.toNat (x.l1.getD n.toNat zeroS); exact ⟨a.trans h0, b.trans h1⟩
        · exact ⟨h0, h1⟩
    exact dry_in e.1 e.2
  · have e : (s.heal G n).2 = s ∧ (x.heal G.f n).2 = x := by
      rw [Mr.heal, Md.heal, h.has]
      cases hh : x.has n with
      | false => exact ⟨rfl, rfl⟩
      | true =>
        rw [if_pos rfl, if_pos rfl, h.there (by omega), h.there (by omega), show x.o 0 = x.o0 from rfl, show x.o 1 = x.o1 from rfl]
        cases h0 : x.o0 with
        | true => exact ⟨rfl, rfl⟩
        | false =>
          cases h1 : x.o1 with
          | true => exact ⟨rfl, rfl⟩
          | false => exact absurd ⟨hh, h0, h1⟩ hc
    rw [e.1, e.2]
    exact hd
theorem Sees.catch1 (h : Sees s x m) {i k : Nat} (hi : i < 2) (hk : k < x.a.length) (ho : x.o i = false) : Sees (s.catch1 G i k) (x.catch1 G.f i k) (m + 1) := by
  rw [Mr.catch1, Md.catch1, h.st, h.right (by omega) hk]
  split
  · rename_i hc
    have hr : x.right G.f (1 - i) k = true := by
      cases hr : x.right G.f (1 - i) k
      · rw [hr, Bool.and_false] at hc; cases hc
      · rfl
    rw [h.rightV (by omega) hk hr]
    exact (h.mend hi hk ho _).2
  · exact h.more (Nat.le_succ _)
theorem Sees.catchTo (h : Sees s x m) {i : Nat} (hi : i < 2) (ho0 : x.o0 = false) (ho1 : x.o1 = false) : ∀ k, k ≤ x.a.length → Sees (s.catchTo G i k) (x.catchTo G.f i k) (m + k)
  | 0, _ => h
  | k + 1, hk => by
    obtain ⟨a, b, c⟩ := catchTo_o G.f x i k
    refine (h.catchTo hi ho0 ho1 k (by omega)).catch1 hi (by rw [c]; omega) ?_
    rcases two hi with rfl | rfl
    · exact a.trans ho0
    · exact b.trans ho1
theorem Sees.sync (h : Sees s x 0) : (s.sync G x.a.length).1 = (x.sync G.f).1 ∧ Sees (s.sync G x.a.length).2 (x.sync G.f).2 0 := by
  rw [Mr.sync, Md.sync, h.there (by omega), h.there (by omega), show x.o 0 = x.o0 from rfl, show x.o 1 = x.o1 from rfl]
  cases ho0 : x.o0 with
  | true => exact ⟨rfl, h⟩
  | false =>
    cases ho1 : x.o1 with
    | true => exact ⟨rfl, h⟩
    | false =>
      rw [if_pos (show ((!false) && !false) = true from rfl), if_neg (show ¬ (false || false) = true by simp)]
      obtain ⟨a, b, c⟩ := catchTo_o G.f x 0 x.a.length
      have h1 := h.catchTo (G := G) (i := 0) (by omega) ho0 ho1 x.a.length (Nat.le_refl _)
      have h2 : Sees (s.caught G x.a.length) (x.caught G.f) (0 + x.a.length + x.a.length) := h1.catchTo (i := 1) (by omega) (a.trans ho0) (b.trans ho1) x.a.length (by rw [c]; exact Nat.le_refl _)
      obtain ⟨d, e, g⟩ := catchTo_o G.f (x.catchTo G.f 0 x.a.length) 1 x.a.length
      have o0 : (x.caught G.f).o0 = false := (d.trans a).trans ho0
      have o1 : (x.caught G.f).o1 = false := (e.trans b).trans ho1
      obtain ⟨h3, h4⟩ := h2.fl (dry_in o0 o1)
      rw [o0, o1] at h3
      rw [if_pos (show (s.caught G x.a.length).flushed = (true, true) from h3)]
      refine ⟨?_, h4⟩
      rw [show (((s.caught G x.a.length).fl0 0).fl0 1).a = (x.caught G.f).a from h4.a, show (((s.caught G x.a.length).fl0 0).fl0 1).b = (x.caught G.f).b from h4.b]
theorem Dry.sync (h : Sees s x 0) : Dry (s.sync G x.a.length).2 (x.sync G.f).2 := (h.sync).2.dry
theorem Sees.out0 (h : Sees s x 0) (on : Bool) : Sees (⟨s.d.put 0 ((s.d.at 0).out on), s.a, s.b⟩ : Mr (one pw g1 g2)) (x.out 0 on) 0 := ⟨h.d0.out on, h.d1.put _ (by omega), h.a, h.b, h.n0, h.n1, h.nb⟩
theorem Sees.out1 (h : Sees s x 0) (on : Bool) : Sees (⟨s.d.put 1 ((s.d.at 1).out on), s.a, s.b⟩ : Mr (one pw g1 g2)) (x.out 1 on) 0 := ⟨h.d0.put _ (by omega), h.d1.out on, h.a, h.b, h.n0, h.n1, h.nb⟩
theorem Sees.rot0 (h : Sees s x 0) (n a : Int) (b : UInt8) : Sees (⟨s.d.rot 0 n a b, s.a, s.b⟩ : Mr (one pw g1 g2)) (x.rot 0 n a b) 0 := by
  have h1 := h.d0.rot n a b
  have h2 := h.d1.rot_other (i := 0) n a b (by omega)
  rw [h.n0] at h1
  rw [Md.rot]
  split
  · rename_i hc
    rw [if_pos hc] at h1
    exact ⟨h1, h2, h.a, h.b, by show (rotL _ _ _ _).length = _; rw [Mi.rotL_length]; exact h.n0, h.n1, h.nb⟩
  · rename_i hc
    rw [if_neg hc] at h1
    exact ⟨h1, h2, h.a, h.b, h.n0, h.n1, h.nb⟩
theorem Sees.rot1 (h : Sees s x 0) (n a : Int) (b : UInt8) : Sees (⟨s.d.rot 1 n a b, s.a, s.b⟩ : Mr (one pw g1 g2)) (x.rot 1 n a b) 0 := by
  have h1 := h.d1.rot n a b
  have h2 := h.d0.rot_other (i := 1) n a b (by omega)
  rw [h.n1] at h1
  rw [Md.rot]
  split
  · rename_i hc
    rw [if_pos hc] at h1
    exact ⟨h2, h1, h.a, h.b, h.n0, by show (rotL _ _ _ _).length = _; rw [Mi.rotL_length]; exact h.n1, h.nb⟩
  · rename_i hc
    rw [if_neg hc] at h1
    exact ⟨h2, h1, h.a, h.b, h.n0, h.n1, h.nb⟩
end
end Go.Proofs.Ytnplhagfmfggcaa.Mu
/-
  Two devices, and a mirror of them, in the laws: what each call tells, and makes of what is told of them.
-/
namespace Go.Proofs.Ytnplhagfmfggcaa.Mi
open Go.RowKit Kd
section
variable {p1 g1 p2 g2 g : Nat} {G : Gd} {w0 w w1 w' : World} {F F' : Nat → Prop} {m : Nat}
/-- Two devices, new behind w0. -/
structure LD (p1 g1 p2 g2 : Nat) (w0 w : World) (d : (Two p1 g1 p2 g2).L.St) (F : Nat → Prop) (L0 L1 : List (List UInt8)) (o0 o1 : Bool) (m : Nat) : Prop where
  live : LiveA (Two p1 g1 p2 g2).L w0 w d F
  d0 : See d.1 L0 o0 m
  d1 : See d.2 L1 o1 m
/-- A mirror of them. -/
structure LM (p1 g1 p2 g2 : Nat) (G : Gd) (g : Nat) (w0 w : World) (s : Mr (Two p1 g1 p2 g2)) (F : Nat → Prop) (x : Md) (m : Nat) : Prop where
  live : LiveA (ML (Two p1 g1 p2 g2) G g) w0 w s F
  sees : Sees s x m
  dry : Dry s x
/-- It returns v; the mirror is x now. -/
def RetM (v : Value) (p1 g1 p2 g2 : Nat) (G : Gd) (g : Nat) (w0 : World) (x : Md) (m : Nat) (F : Nat → Prop) (w : World) (e : Ending) (w' : World) : Prop :=
  e = .returned v ∧ ∃ (s : Mr (Two p1 g1 p2 g2)) (F' : Nat → Prop), LM p1 g1 p2 g2 G g w0 w' s F' x m ∧ Mv (ML (Two p1 g1 p2 g2) G g) w F w' s F'
variable {s s' : Mr (Two p1 g1 p2 g2)} {x x' : Md}
theorem LM.ret (h : LM p1 g1 p2 g2 G g w0 w s F x m) {v : Value} {e : Ending} {m' : Nat} (hr : RetA (ML (Two p1 g1 p2 g2) G g) v s' F w e w') (hs : Sees s' x' m') (hd : Dry s' x') : RetM v p1 g1 p2 g2 G g w0 x' m' F w e w' := by
  obtain ⟨rfl, F', hm⟩ := hr
  exact ⟨rfl, s', F', ⟨h.live.step hm, hs, hd⟩, hm⟩
theorem LM.below (h : LM p1 g1 p2 g2 G g w0 w s F x m) (hb : Below w.heap.size w w') : LM p1 g1 p2 g2 G g w0 w' s F x m := ⟨h.live.below hb, h.sees, h.dry⟩
theorem LM.more (h : LM p1 g1 p2 g2 G g w0 w s F x m) {m' : Nat} (hm : m ≤ m') : LM p1 g1 p2 g2 G g w0 w s F x m' := ⟨h.live, h.sees.more hm, h.dry⟩
theorem lm_write (h : LM p1 g1 p2 g2 G g w0 w s F x m) (n : Int) (y : List UInt8) (hy : y.length = 128) (hm : m < 900000) :
    Calls Try.prog 91 #[.pointer (some ⟨g, 0, none⟩), .int .i64 n, .agg (bva y)] w (RetM (.int .i64 (x.write n y).1) p1 g1 p2 g2 G g w0 (x.write n y).2 (m + 2) F w) := by
  obtain ⟨h1, h2⟩ := h.sees.write n y
  have hc := mwrite_any h.live.at_ h.sees.ok n y hy (Nat.lt_of_le_of_lt h.sees.most hm)
  rw [h1] at hc
  exact hc.mono fun _ _ hr => h.ret hr h2 (h.dry.write h.sees n y)
theorem lm_flush (h : LM p1 g1 p2 g2 G g w0 w s F x m) :
    Calls Try.prog 56 #[.pointer (some ⟨g, 0, none⟩)] w (RetM (.int .i64 (if x.o0 && x.o1 then 13 else 0)) p1 g1 p2 g2 G g w0 x 0 F w) := by
  obtain ⟨h1, h2⟩ := h.sees.flush h.dry
  have hc := mflushm_any h.live.at_
  rw [h1] at hc
  exact hc.mono fun _ _ hr => h.ret hr h2 h2.dry
theorem lm_read (h : LM p1 g1 p2 g2 G g w0 w s F x m) (n : Int) :
    Calls Try.prog 95 #[.pointer (some ⟨g, 0, none⟩), .int .i64 n] w (RetM (.tuple #[.agg (bva (x.read G.f n).1), .int .i64 (x.read G.f n).2]) p1 g1 p2 g2 G g w0 x m F w) := by
  have hc := mread_any h.live.at_ (by rw [h.sees.ok.1, h.sees.ok.2]) n
  rw [h.sees.read n] at hc
  exact hc.mono fun _ _ hr => h.ret hr h.sees h.dry
theorem lm_heal (h : LM p1 g1 p2 g2 G g w0 w s F x m) (n : Int) (hm : m < 900000) :
    Calls Try.prog 116 #[.pointer (some ⟨g, 0, none⟩), .int .i64 n] w (RetM (tup2 (x.heal G.f n).1) p1 g1 p2 g2 G g w0 (x.heal G.f n).2 (m + 1) F w) := by
  obtain ⟨h1, h2⟩ := h.sees.heal (G := G) n
  have hc := heal_any h.live.at_ h.sees.ok n (Nat.lt_of_le_of_lt h.sees.most (by omega))
  rw [h1] at hc
  exact hc.mono fun _ _ hr => h.ret hr h2 (h.dry.heal h.sees n)
theorem lm_both (h : LM p1 g1 p2 g2 G g w0 w s F x m) (n : Int) : Calls Try.prog 129 #[.pointer (some ⟨g, 0, none⟩), .int .i64 n] w (RetSec (x.both G.f n) w) := by
  have hc := both_any h.live.at_ n
  rwa [h.sees.both n] at hc
theorem lm_len (h : LM p1 g1 p2 g2 G g w0 w s F x m) : Calls Try.prog 77 #[.pointer (some ⟨g, 0, none⟩)] w (RetB (.int .i64 x.a.length) w) := by
  have hc := mlen_any h.live.at_
  rwa [h.sees.a] at hc
/-! ### The devices beneath a mirror -/
theorem ml_fst (h : (ML (Two p1 g1 p2 g2) G g).At w s F) : ∃ F1, Kd.Sys w p1 [g1] s.d.1 F1 ∧ s.d.1.ds.length = 1 ∧ ∀ {v : Value} {S : Sy} {e w'}, S.ds.length = 1 → RetS v p1 [g1] S F1 w e w' → RetA (ML (Two p1 g1 p2 g2) G g) v ⟨(S, s.d.2), s.a, s.b⟩ F w e w' := by
  obtain ⟨F0, hd, hl⟩ := ml_dev h
  obtain ⟨F1, h1, hl1⟩ := pair_fst hd
  exact ⟨F1, h1.1, h1.2, fun hS hr => hl (hl1 (RetS.reta hS hr))⟩
theorem ml_snd (h : (ML (Two p1 g1 p2 g2) G g).At w s F) : ∃ F2, Kd.Sys w p2 [g2] s.d.2 F2 ∧ s.d.2.ds.length = 1 ∧ ∀ {v : Value} {S : Sy} {e w'}, S.ds.length = 1 → RetS v p2 [g2] S F2 w e w' → RetA (ML (Two p1 g1 p2 g2) G g) v ⟨(s.d.1, S), s.a, s.b⟩ F w e w' := by
  obtain ⟨F0, hd, hl⟩ := ml_dev h
  obtain ⟨F1, h1, hl1⟩ := pair_snd hd
  exact ⟨F1, h1.1, h1.2, fun hS hr => hl (hl1 (RetS.reta hS hr))⟩
theorem lm_out0 (h : LM p1 g1 p2 g2 G g w0 w s F x 0) (on : Bool) : Calls Try.prog 54 #[.pointer (some ⟨g1, 0, none⟩), .bool on] w (RetM (.tuple #[]) p1 g1 p2 g2 G g w0 (x.out 0 on) 0 F w) := by
  obtain ⟨F1, h1, h2, hl⟩ := ml_fst h.live.at_
  have hs := h.sees.out0 on
  exact (out_sys h1 0 (by rw [h2]; omega) on).mono fun _ _ hr => h.ret (hl ((len_put _).trans h2) hr) hs hs.dry
theorem lm_out1 (h : LM p1 g1 p2 g2 G g w0 w s F x 0) (on : Bool) : Calls Try.prog 54 #[.pointer (some ⟨g2, 0, none⟩), .bool on] w (RetM (.tuple #[]) p1 g1 p2 g2 G g w0 (x.out 1 on) 0 F w) := by
  obtain ⟨F1, h1, h2, hl⟩ := ml_snd h.live.at_
  have hs := h.sees.out1 on
  exact (out_sys h1 0 (by rw [h2]; omega) on).mono fun _ _ hr => h.ret (hl ((len_put _).trans h2) hr) hs hs.dry
theorem rot_ds {S : Sy} (n a : Int) (b : UInt8) : (S.rot 0 n a b).ds.length = S.ds.length := by rw [Sy.rot]; split; exact len_put _; rfl
theorem lm_rot0 (h : LM p1 g1 p2 g2 G g w0 w s F x 0) (n a : Int) (b : UInt8) : Calls Try.prog 55 #[.pointer (some ⟨g1, 0, none⟩), .int .i64 n, .int .i64 a, .int .u8 (b.toNat : Int)] w (RetM (.bool (hasByte x.a.length n a)) p1 g1 p2 g2 G g w0 (x.rot 0 n a b) 0 F w) := by
  obtain ⟨F1, h1, h2, hl⟩ := ml_fst h.live.at_
  have hs := h.sees.rot0 n a b
  have hc := rot_sys h1 0 (by rw [h2]; omega) n a b
  rw [h.sees.d0.len, h.sees.n0] at hc
  exact hc.mono fun _ _ hr => h.ret (hl ((rot_ds n a b).trans h2) hr) hs hs.dry
theorem lm_rot1 (h : LM p1 g1 p2 g2 G g w0 w s F x 0) (n a : Int) (b : UInt8) : Calls Try.prog 55 #[.pointer (some ⟨g2, 0, none⟩), .int .i64 n, .int .i64 a, .int .u8 (b.toNat : Int)] w (RetM (.bool (hasByte x.a.length n a)) p1 g1 p2 g2 G g w0 (x.rot 1 n a b) 0 F w) := by
  obtain ⟨F1, h1, h2, hl⟩ := ml_snd h.live.at_
  have hs := h.sees.rot1 n a b
  have hc := rot_sys h1 0 (by rw [h2]; omega) n a b
  rw [h.sees.d1.len, h.sees.n1] at hc
  exact hc.mono fun _ _ hr => h.ret (hl ((rot_ds n a b).trans h2) hr) hs hs.dry
/-! ### Two devices ahead of a mirror -/
theorem LD.below {d : (Two p1 g1 p2 g2).L.St} {L0 L1 : List (List UInt8)} {o0 o1 : Bool} (h : LD p1 g1 p2 g2 w0 w d F L0 L1 o0 o1 m) (hb : Below w.heap.size w w') : LD p1 g1 p2 g2 w0 w' d F L0 L1 o0 o1 m := ⟨h.live.below hb, h.d0, h.d1⟩
theorem ld_new {S T : Sy} {F1 F2 : Nat → Prop} {L0 L1 : List (List UInt8)} {o0 o1 : Bool} (h1 : Live w0 w1 p1 [g1] S F1) (h2 : Live w1 w p2 [g2] T F2) (s1 : See S L0 o0 m) (s2 : See T L1 o1 m) :
    LD p1 g1 p2 g2 w0 w (S, T) (fun q => F1 q ∨ F2 q) L0 L1 o0 o1 m := by
  have hl1 := h1.lt
  refine ⟨⟨⟨F1, F2, ⟨(h1.below h2.bel).sys, s1.ds⟩, ⟨h2.sys, s2.ds⟩, fun q a b => by have := hl1 q a; have := h2.new q b; omega, fun q a => .inl a, fun q a => .inr a, ?_⟩, ?_, h1.bel.trans (h2.bel.mono h1.bel.size)⟩, s1, s2⟩
  · rintro q (hq | hq)
    · exact Nat.lt_of_lt_of_le (hl1 q hq) h2.bel.size
    · exact h2.lt q hq
  · rintro q (hq | hq)
    · exact h1.new q hq
    · exact Nat.le_trans h1.bel.size (h2.new q hq)
theorem lm_new (hR : ∀ A n c B m e, G.R A n c B m e) {d : (Two p1 g1 p2 g2).L.St} {L0 L1 : List (List UInt8)} {o0 o1 : Bool} {n : Nat} (h : LD p1 g1 p2 g2 w0 w d F L0 L1 o0 o1 0) (e0 : L0.length = n) (e1 : L1.length = n) (hl : G.l = [] := by rfl) :
    Calls Try.prog 74 #[.pointer (some ⟨g1, 0, none⟩), .pointer (some ⟨g2, 0, none⟩), G.v] w (fun e w' => ∃ g s F', e = .returned (.pointer (some ⟨g, 0, none⟩)) ∧ LM p1 g1 p2 g2 G g w0 w' s F' ⟨L0, L1, o0, o1, List.replicate n o0, List.replicate n o1⟩ 0 ∧ (∀ q, F' q → F q ∨ w.heap.size ≤ q) ∧ But F w w') := by
  refine (new_any (C := Two p1 g1 p2 g2) hR h.live.at_ hl).mono ?_
  rintro e w' ⟨g, F', rfl, h1, h2, h3⟩
  have hs : Sees (newM (Two p1 g1 p2 g2) d) ⟨L0, L1, o0, o1, List.replicate n o0, List.replicate n o1⟩ 0 := sees_new h.d0 h.d1 e0 e1
  exact ⟨g, _, F', rfl, ⟨⟨h1, fun q hq => (h2 q hq).elim (h.live.new q) (Nat.le_trans h.live.bel.size), h.live.bel.trans (h3.below (fun k hk hq => by have := h.live.new k hq; omega) h.live.bel.size)⟩, hs, hs.dry⟩, h2, h3⟩
end
end Go.Proofs.Ytnplhagfmfggcaa.Mi
/-
  Two devices of one power, and a mirror of them, in the laws: what each call tells, and makes of what is told of them.
-/
namespace Go.Proofs.Ytnplhagfmfggcaa.Mu
open Go.RowKit Kd Mi
section
variable {p g1 g2 g : Nat} {G : Gd} {w0 w w1 w' : World} {F F' : Nat → Prop} {m : Nat}
/-- Two devices, new behind w0. -/
structure LD (p g1 g2 : Nat) (w0 w : World) (d : Sy) (F : Nat → Prop) (L0 L1 : List (List UInt8)) (o0 o1 : Bool) (m : Nat) : Prop where
  live : LiveA (SysL p [g1, g2] 2) w0 w d F
  d0 : See d 0 L0 o0 m
  d1 : See d 1 L1 o1 m
/-- A mirror of them. -/
structure LM (p g1 g2 : Nat) (G : Gd) (g : Nat) (w0 w : World) (s : Mr (one p g1 g2)) (F : Nat → Prop) (x : Md) (m : Nat) : Prop where
  live : LiveA (ML (one p g1 g2) G g) w0 w s F
  sees : Sees s x m
  dry : Dry s x
/-- It returns v; the mirror is x now. -/
def RetM (v : Value) (p g1 g2 : Nat) (G : Gd) (g : Nat) (w0 : World) (x : Md) (m : Nat) (F : Nat → Prop) (w : World) (e : Ending) (w' : World) : Prop :=
  e = .returned v ∧ ∃ (s : Mr (one p g1 g2)) (F' : Nat → Prop), LM p g1 g2 G g w0 w' s F' x m ∧ Mv (ML (one p g1 g2) G g) w F w' s F'
variable {s s' : Mr (one p g1 g2)} {x x' : Md}
theorem LM.ret (h : LM p g1 g2 G g w0 w s F x m) {v : Value} {e : Ending} {m' : Nat} (hr : RetA (ML (one p g1 g2) G g) v s' F w e w') (hs : Sees s' x' m') (hd : Dry s' x') : RetM v p g1 g2 G g w0 x' m' F w e w' := by
  obtain ⟨rfl, F', hm⟩ := hr
  exact ⟨rfl, s', F', ⟨h.live.step hm, hs, hd⟩, hm⟩
theorem LM.below (h : LM p g1 g2 G g w0 w s F x m) (hb : Below w.heap.size w w') : LM p g1 g2 G g w0 w' s F x m := ⟨h.live.below hb, h.sees, h.dry⟩
theorem LM.more (h : LM p g1 g2 G g w0 w s F x m) {m' : Nat} (hm : m ≤ m') : LM p g1 g2 G g w0 w s F x m' := ⟨h.live, h.sees.more hm, h.dry⟩
theorem lm_write (h : LM p g1 g2 G g w0 w s F x m) (n : Int) (y : List UInt8) (hy : y.length = 128) (hm : m < 900000) :
    Calls Try.prog 91 #[.pointer (some ⟨g, 0, none⟩), .int .i64 n, .agg (bva y)] w (RetM (.int .i64 (x.write n y).1) p g1 g2 G g w0 (x.write n y).2 (m + 2) F w) := by
  obtain ⟨h1, h2⟩ := h.sees.write n y
  have hc := mwrite_any h.live.at_ h.sees.ok n y hy (Nat.lt_of_le_of_lt h.sees.most hm)
  rw [h1] at hc
  exact hc.mono fun _ _ hr => h.ret hr h2 (h.dry.write h.sees n y)
theorem lm_flush (h : LM p g1 g2 G g w0 w s F x m) :
    Calls Try.prog 56 #[.pointer (some ⟨g, 0, none⟩)] w (RetM (.int .i64 (if x.o0 && x.o1 then 13 else 0)) p g1 g2 G g w0 x 0 F w) := by
  obtain ⟨h1, h2⟩ := h.sees.flush h.dry
  have hc := mflushm_any h.live.at_
  rw [h1] at hc
  exact hc.mono fun _ _ hr => h.ret hr h2 h2.dry
theorem lm_read (h : LM p g1 g2 G g w0 w s F x m) (n : Int) :
    Calls Try.prog 95 #[.pointer (some ⟨g, 0, none⟩), .int .i64 n] w (RetM (.tuple #[.agg (bva (x.read G.f n).1), .int .i64 (x.read G.f n).2]) p g1 g2 G g w0 x m F w) := by
  have hc := mread_any h.live.at_ (by rw [h.sees.ok.1, h.sees.ok.2]) n
  rw [h.sees.read n] at hc
  exact hc.mono fun _ _ hr => h.ret hr h.sees h.dry
theorem lm_heal (h : LM p g1 g2 G g w0 w s F x m) (n : Int) (hm : m < 900000) :
    Calls Try.prog 116 #[.pointer (some ⟨g, 0, none⟩), .int .i64 n] w (RetM (tup2 (x.heal G.f n).1) p g1 g2 G g w0 (x.heal G.f n).2 (m + 1) F w) := by
  obtain ⟨h1, h2⟩ := h.sees.heal (G := G) n
  have hc := heal_any h.live.at_ h.sees.ok n (Nat.lt_of_le_of_lt h.sees.most (by omega))
  rw [h1] at hc
  exact hc.mono fun _ _ hr => h.ret hr h2 (h.dry.heal h.sees n)
theorem lm_both (h : LM p g1 g2 G g w0 w s F x m) (n : Int) : Calls Try.prog 129 #[.pointer (some ⟨g, 0, none⟩), .int .i64 n] w (RetSec (x.both G.f n) w) := by
  have hc := both_any h.live.at_ n
  rwa [h.sees.both n] at hc
theorem lm_len (h : LM p g1 g2 G g w0 w s F x m) : Calls Try.prog 77 #[.pointer (some ⟨g, 0, none⟩)] w (RetB (.int .i64 x.a.length) w) := by
  have hc := mlen_any h.live.at_
  rwa [h.sees.a] at hc
/-! ### The devices beneath a mirror -/
theorem ml_sys (h : (ML (one p g1 g2) G g).At w s F) : ∃ F1, Kd.Sys w p [g1, g2] s.d F1 ∧ s.d.ds.length = 2 ∧ ∀ {v : Value} {S : Sy} {e w'}, S.ds.length = 2 → RetS v p [g1, g2] S F1 w e w' → RetA (ML (one p g1 g2) G g) v ⟨S, s.a, s.b⟩ F w e w' := by
  obtain ⟨F1, h1, hl⟩ := ml_dev h
  exact ⟨F1, h1.1, h1.2, fun hS hr => hl (RetS.reta hS hr)⟩
theorem lm_out0 (h : LM p g1 g2 G g w0 w s F x 0) (on : Bool) : Calls Try.prog 54 #[.pointer (some ⟨g1, 0, none⟩), .bool on] w (RetM (.tuple #[]) p g1 g2 G g w0 (x.out 0 on) 0 F w) := by
  obtain ⟨F1, h1, h2, hl⟩ := ml_sys h.live.at_
  have hs := h.sees.out0 on
  exact (out_sys h1 0 (by rw [h2]; omega) on).mono fun _ _ hr => h.ret (hl ((len_put _).trans h2) hr) hs hs.dry
theorem lm_out1 (h : LM p g1 g2 G g w0 w s F x 0) (on : Bool) : Calls Try.prog 54 #[.pointer (some ⟨g2, 0, none⟩), .bool on] w (RetM (.tuple #[]) p g1 g2 G g w0 (x.out 1 on) 0 F w) := by
  obtain ⟨F1, h1, h2, hl⟩ := ml_sys h.live.at_
  have hs := h.sees.out1 on
  exact (out_sys h1 1 (by rw [h2]; omega) on).mono fun _ _ hr => h.ret (hl ((len_put _).trans h2) hr) hs hs.dry
theorem rot_dsT {S : Sy} (i : Nat) (n a : Int) (b : UInt8) : (S.rot i n a b).ds.length = S.ds.length := by rw [Sy.rot]; split; exact len_put _; rfl
theorem lm_rot0 (h : LM p g1 g2 G g w0 w s F x 0) (n a : Int) (b : UInt8) : Calls Try.prog 55 #[.pointer (some ⟨g1, 0, none⟩), .int .i64 n, .int .i64 a, .int .u8 (b.toNat : Int)] w (RetM (.bool (hasByte x.a.length n a)) p g1 g2 G g w0 (x.rot 0 n a b) 0 F w) := by
  obtain ⟨F1, h1, h2, hl⟩ := ml_sys h.live.at_
  have hs := h.sees.rot0 n a b
  have hc := rot_sys h1 0 (by rw [h2]; omega) n a b
  rw [h.sees.d0.len, h.sees.n0] at hc
  exact hc.mono fun _ _ hr => h.ret (hl ((rot_dsT 0 n a b).trans h2) hr) hs hs.dry
theorem lm_rot1 (h : LM p g1 g2 G g w0 w s F x 0) (n a : Int) (b : UInt8) : Calls Try.prog 55 #[.pointer (some ⟨g2, 0, none⟩), .int .i64 n, .int .i64 a, .int .u8 (b.toNat : Int)] w (RetM (.bool (hasByte x.a.length n a)) p g1 g2 G g w0 (x.rot 1 n a b) 0 F w) := by
  obtain ⟨F1, h1, h2, hl⟩ := ml_sys h.live.at_
  have hs := h.sees.rot1 n a b
  have hc := rot_sys h1 1 (by rw [h2]; omega) n a b
  rw [h.sees.d1.len, h.sees.n1] at hc
  exact hc.mono fun _ _ hr => h.ret (hl ((rot_dsT 1 n a b).trans h2) hr) hs hs.dry
/-- A device beneath it is read. -/
theorem lm_dread0 (h : LM p g1 g2 G g w0 w s F x m) (n : Int) : Calls Try.prog 30 #[.pointer (some ⟨g1, 0, none⟩), .int .i64 n] w (RetB (.tuple #[.agg (bva (if x.o0 = false ∧ 0 ≤ n ∧ n < (x.a.length : Int) then x.l0.getD n.toNat zeroS else zeroS)), .int .i64 (if x.o0 then 13 else if n < 0 ∨ (x.a.length : Int) ≤ n then 2 else 0)]) w) := by
  obtain ⟨F1, h1, hl⟩ := ml_dev h.live.at_
  have hc := (one p g1 g2).crd (i := 0) h1 (by omega) n
  rw [h.sees.rd (i := 0) (by omega) n] at hc
  exact hc
theorem lm_dread1 (h : LM p g1 g2 G g w0 w s F x m) (n : Int) : Calls Try.prog 30 #[.pointer (some ⟨g2, 0, none⟩), .int .i64 n] w (RetB (.tuple #[.agg (bva (if x.o1 = false ∧ 0 ≤ n ∧ n < (x.a.length : Int) then x.l1.getD n.toNat zeroS else zeroS)), .int .i64 (if x.o1 then 13 else if n < 0 ∨ (x.a.length : Int) ≤ n then 2 else 0)]) w) := by
  obtain ⟨F1, h1, hl⟩ := ml_dev h.live.at_
  have hc := (one p g1 g2).crd (i := 1) h1 (by omega) n
  rw [h.sees.rd (i := 1) (by omega) n] at hc
  exact hc
/-! ### Two devices ahead of a mirror -/
variable {d : Sy} {L0 L1 : List (List UInt8)} {o0 o1 : Bool}
theorem LD.below (h : LD p g1 g2 w0 w d F L0 L1 o0 o1 m) (hb : Below w.heap.size w w') : LD p g1 g2 w0 w' d F L0 L1 o0 o1 m := ⟨h.live.below hb, h.d0, h.d1⟩
theorem ld_new {S : Sy} (h : Live w0 w p [g1, g2] S F) (s1 : See S 0 L0 o0 m) (s2 : See S 1 L1 o1 m) : LD p g1 g2 w0 w S F L0 L1 o0 o1 m :=
  ⟨⟨⟨h.sys, s1.ds⟩, h.new, h.bel⟩, s1, s2⟩
/-- It returns v; the devices have that now. -/
def RetD (v : Value) (p g1 g2 : Nat) (w0 : World) (L0 L1 : List (List UInt8)) (o0 o1 : Bool) (m : Nat) (F : Nat → Prop) (w : World) (e : Ending) (w' : World) : Prop :=
  e = .returned v ∧ ∃ (d : Sy) (F' : Nat → Prop), LD p g1 g2 w0 w' d F' L0 L1 o0 o1 m ∧ (∀ q, F' q → F q ∨ w.heap.size ≤ q) ∧ But F w w'
theorem LD.ret (h : LD p g1 g2 w0 w d F L0 L1 o0 o1 m) {v : Value} {S : Sy} {L0' L1' : List (List UInt8)} {o0' o1' : Bool} {m' : Nat} {e : Ending} (hr : RetS v p [g1, g2] S F w e w') (s1 : See S 0 L0' o0' m') (s2 : See S 1 L1' o1' m') : RetD v p g1 g2 w0 L0' L1' o0' o1' m' F w e w' := by
  obtain ⟨rfl, F', h1, h2, h3⟩ := hr
  exact ⟨rfl, S, F', ⟨h.live.step ⟨⟨h1, s1.ds⟩, h2, h3⟩, s1, s2⟩, h2, h3⟩
theorem ld_write0 (h : LD p g1 g2 w0 w d F L0 L1 false o1 m) (k : Nat) (hk : k < L0.length) (y : List UInt8) (hy : y.length = 128) (hm : m < 900000) :
    Calls Try.prog 57 #[.pointer (some ⟨g1, 0, none⟩), .int .i64 k, .agg (bva y)] w (RetD (.int .i64 0) p g1 g2 w0 (L0.set k y) L1 false o1 (m + 1) F w) := by
  obtain ⟨h1, h2, h3⟩ := h.d0.write_yes (x := y) rfl hk
  have hc := write_any h.live.at_.1 0 (by rw [h.d0.ds]; omega) (k : Int) y hy (by have := h.d0.few; omega)
  rw [h1] at hc
  exact hc.mono fun _ _ hr => h.ret hr h2 ((h3 (by omega) h.d1).more (Nat.le_succ _))
theorem ld_write1 (h : LD p g1 g2 w0 w d F L0 L1 o0 false m) (k : Nat) (hk : k < L1.length) (y : List UInt8) (hy : y.length = 128) (hm : m < 900000) :
    Calls Try.prog 57 #[.pointer (some ⟨g2, 0, none⟩), .int .i64 k, .agg (bva y)] w (RetD (.int .i64 0) p g1 g2 w0 L0 (L1.set k y) o0 false (m + 1) F w) := by
  obtain ⟨h1, h2, h3⟩ := h.d1.write_yes (x := y) rfl hk
  have hc := write_any h.live.at_.1 1 (by rw [h.d0.ds]; omega) (k : Int) y hy (by have := h.d1.few; omega)
  rw [h1] at hc
  exact hc.mono fun _ _ hr => h.ret hr ((h3 (by omega) h.d0).more (Nat.le_succ _)) h2
theorem ld_flush0 (h : LD p g1 g2 w0 w d F L0 L1 false o1 m) :
    Calls Try.prog 61 #[.pointer (some ⟨g1, 0, none⟩)] w (RetD (.int .i64 0) p g1 g2 w0 L0 L1 false o1 m F w) := by
  obtain ⟨h1, h2, h3⟩ := h.d0.flush_yes rfl
  have hc := flush_any h.live.at_.1 0 (by rw [h.d0.ds]; omega)
  rw [h1] at hc
  exact hc.mono fun _ _ hr => h.ret hr (h2.more (Nat.zero_le _)) (h3 (by omega) h.d1)
/-- The second one's flush, when nothing waits of the first. -/
theorem ld_flush1 (h : LD p g1 g2 w0 w d F L0 L1 o0 false m) (hw : See d 0 L0 o0 0) :
    Calls Try.prog 61 #[.pointer (some ⟨g2, 0, none⟩)] w (RetD (.int .i64 0) p g1 g2 w0 L0 L1 o0 false 0 F w) := by
  obtain ⟨h1, h2, h3⟩ := h.d1.flush_yes rfl
  have hc := flush_any h.live.at_.1 1 (by rw [h.d0.ds]; omega)
  rw [h1] at hc
  exact hc.mono fun _ _ hr => h.ret hr (h3 (by omega) hw) h2
theorem ld_flush0' (h : LD p g1 g2 w0 w d F L0 L1 false o1 m) :
    Calls Try.prog 61 #[.pointer (some ⟨g1, 0, none⟩)] w (fun e w' => e = .returned (.int .i64 0) ∧ ∃ (d : Sy) (F' : Nat → Prop), LD p g1 g2 w0 w' d F' L0 L1 false o1 m ∧ See d 0 L0 false 0 ∧ (∀ q, F' q → F q ∨ w.heap.size ≤ q) ∧ But F w w') := by
  obtain ⟨h1, h2, h3⟩ := h.d0.flush_yes rfl
  have hc := flush_any h.live.at_.1 0 (by rw [h.d0.ds]; omega)
  rw [h1] at hc
  exact hc.mono fun _ _ hr => by
    obtain ⟨h4, S, F', h5, h6, h7⟩ := h.ret (L0' := L0) (L1' := L1) (m' := m) hr (h2.more (Nat.zero_le _)) (h3 (by omega) h.d1)
    obtain ⟨_, F2, h8, h9, h10⟩ := hr
    exact ⟨h4, _, F2, ⟨h.live.step ⟨⟨h8, h2.ds⟩, h9, h10⟩, h2.more (Nat.zero_le _), h3 (by omega) h.d1⟩, h2, h9, h10⟩
theorem lm_new (hR : ∀ A n c B m e, G.R A n c B m e) {n : Nat} (h : LD p g1 g2 w0 w d F L0 L1 o0 o1 0) (e0 : L0.length = n) (e1 : L1.length = n) (hl : G.l = [] := by rfl) :
    Calls Try.prog 74 #[.pointer (some ⟨g1, 0, none⟩), .pointer (some ⟨g2, 0, none⟩), G.v] w (fun e w' => ∃ g s F', e = .returned (.pointer (some ⟨g, 0, none⟩)) ∧ LM p g1 g2 G g w0 w' s F' ⟨L0, L1, o0, o1, List.replicate n o0, List.replicate n o1⟩ 0 ∧ (∀ q, F' q → F q ∨ w.heap.size ≤ q) ∧ But F w w') := by
  refine (new_any (C := one p g1 g2) hR h.live.at_ hl).mono ?_
  rintro e w' ⟨g, F', rfl, h1, h2, h3⟩
  have hs : Sees (newM (one p g1 g2) d) ⟨L0, L1, o0, o1, List.replicate n o0, List.replicate n o1⟩ 0 := sees_new h.d0 h.d1 e0 e1
  exact ⟨g, _, F', rfl, ⟨⟨h1, fun q hq => (h2 q hq).elim (h.live.new q) (Nat.le_trans h.live.bel.size), h.live.bel.trans (h3.below (fun k hk hq => by have := h.live.new k hq; omega) h.live.bel.size)⟩, hs, hs.dry⟩, h2, h3⟩
end
end Go.Proofs.Ytnplhagfmfggcaa.Mu
/-
  The contract of sector.Good, and of the function that it answers.
-/
namespace Go.Proofs.Ytnplhagfmfggcaa.Sx
open Go.RowKit Kd
attribute [local go_sem ↓] Go.wp_at_zero Go.wp_at_succ
/-- Good tells a function that keeps the cipher in a box of its own. -/
theorem good_iface (T : TypeId) (x : Value) (w : World) : Calls Try.prog 85 #[.iface T x] w (fun e w' => e = .returned (.func (.func 119) #[] #[.pointer (some ⟨w.heap.size, 0, none⟩)]) ∧ w' = w.alloc (.cells #[.iface T x] 164)) := by
  go_enter Try.func85, Try.ntmps85
  go_wp2_with fail
  go_ret
  exact ⟨rfl, rfl⟩
theorem good_nil (w : World) : Calls Try.prog 85 #[.nilIface] w (fun e w' => e = .returned (.func (.func 119) #[] #[.pointer (some ⟨w.heap.size, 0, none⟩)]) ∧ w' = w.alloc (.cells #[.nilIface] 164)) := by
  go_enter Try.func85, Try.ntmps85
  go_wp2_with fail
  go_ret
  exact ⟨rfl, rfl⟩
set_option maxRecDepth 100000 in
set_option maxHeartbeats 3200000 in
theorem goodf_any (v : Value) (ok : Bool) (n : Int) (x : List UInt8) (hx : x.length = 128) (b : Nat) (w : World) (hb : Blk w b #[v] 164) (g : Nat) (l : List UInt8)
    (hU : ∀ W, Calls Try.prog 96 #[v, .int .i64 n, .agg (bva x)] W (RetU g l ok W)) :
    Calls Try.prog 119 #[.int .i64 n, .agg (bva x), .pointer (some ⟨b, 0, none⟩)] w (RetB (.bool ok) w) := by
  obtain ⟨w2, hw2⟩ : ∃ w2, w2 = w.alloc (.cells (bva x) 38) := ⟨_, rfl⟩
  have B1 := Lib.hid (show Blk w2 w.heap.size (bva x) 38 from by rw [hw2]; exact heap_alloc_new _ _)
  have hbb : Below w.heap.size w w2 := by rw [hw2]; exact (Below.refl _ _).alloc (Nat.le_refl _) _
  have BB := Lib.hid hbb
  have c0 : (w.alloc (.cells (bva x) 38)).cell? ⟨b, 0, none⟩ = some v := by rw [← hw2]; exact (hb.below hbb).cell 0
  have HIX : Hid ((Try.prog.info? 38).map (·.size) = some (bva x).size) := by rw [bva_size, hx]; exact info_sec
  have HU := Lib.hid hU
  clear hU hb hbb hx
  go_enter Try.func119, Try.ntmps119
  go_wp2_with (refine wpList_load_row rfl 38 (.tmp 4) rfl w.heap.size rfl 38 (bva x) (0, 0) _ ?hg Try.underlying38 rfl HIX.out ?_; case hg => (rw [← hw2]; exact B1.out))
  rw [← hw2]
  clear hw2 c0
  refine (HU.out w2).mono ?_
  rintro e w3 ⟨A, k, c, rfl, _, hb3⟩
  have CB := Lib.hid (BB.out.trans (hb3.mono BB.out.size))
  clear hb3 BB B1
  go_wp2_with fail
  go_ret
  exact ⟨rfl, CB.out⟩
theorem goodf_enter (args : Array Value) (W : World) : (callFunc 119 args).run Try.prog W = .ok (.enter 119 args) W := by kernel_rfl
end Go.Proofs.Ytnplhagfmfggcaa.Sx
/-
  Good by a cipher, as a function that a mirror is handed.
-/
namespace Go.Proofs.Ytnplhagfmfggcaa.Sx
open Go.RowKit Kd
set_option maxRecDepth 100000 in
/-- Good by a cipher, in a box b. -/
def gdS (ci : SCiph) (b : Nat) : Mi.Gd where
  k := some 119
  c := #[.pointer (some ⟨b, 0, none⟩)]
  l := [(b, #[ci.v], 164)]
  ty := by
    intro x hx
    rw [List.mem_singleton] at hx
    subst hx
    exact ⟨show 164 ≠ 4 by decide, show 164 ≠ 194 by decide⟩
  f := fun n x => okS ci.f n x
  R _ _ _ _ _ _ := True
  none_ h := by cases h
  enter k' h args W := by injection h with h; subst h; exact goodf_enter args W
  call k' h w n x hl hx := by
    injection h with h; subst h
    exact goodf_any ci.v _ n x hx b w (hl _ (List.mem_singleton.2 rfl)) _ _ (fun W => unpack_any ci n x hx W)
end Go.Proofs.Ytnplhagfmfggcaa.Sx
/-
  A log over a mirror, as the document tells of it, as it is laid: what its methods tell, and make of it.
-/
namespace Go.Proofs.Ytnplhagfmfggcaa.Lo
open Go.RowKit Kd Mi Sx Sg
/-- A log, and the mirror that it has, as they are laid. -/
def LogL (C : Duo) (G : Gd) (g q : Nat) (ci : SCiph) : Laid where
  St := Mr C × Lg
  At w x F := (LogR C G g q ci).At w (x.1, rlOf x.2) F
  but := fun h hb hd => (LogR C G g q ci).but h hb hd
  lt := fun h => (LogR C G g q ci).lt h
section
variable {C : Duo} {G : Gd} {g q : Nat} {ci : SCiph} {w w' : World} {s s' : Mr C} {l l' : Lg} {F F' : Nat → Prop} {v : Value} {e : Ending}
theorem logl_mv (h : Mv (LogR C G g q ci) w F w' (s', rlOf l') F') : Mv (LogL C G g q ci) w F w' (s', l') F' := ⟨h.at_, h.new, h.but⟩
theorem logl_ret (h : RetA (LogR C G g q ci) v (s', rlOf l') F w e w') : RetA (LogL C G g q ci) v (s', l') F w e w' := by
  obtain ⟨rfl, F', h⟩ := h
  exact ⟨rfl, F', logl_mv h⟩
theorem logl_own (h : (LogL C G g q ci).At w (s, l) F) : ∃ bm, RlO g q bm ci w (rlOf l) := logr_own h
/-- What Append tells, and makes of it. -/
def apnd (ci : SCiph) (s : Mr C) (l : Lg) (b : List UInt8) : (Int × Int) × Mr C × Lg :=
  if 103 < b.length then ((0, 3), s, l) else match l.next with
    | none => ((0, 6), s, l)
    | some p => if (s.write (l.at_ p : Int) (sealedS ci.f (l.at_ p : Int) p.2.2 b)).1 = 0 then (((l.at_ p : Int), 0), (s.write (l.at_ p : Int) (sealedS ci.f (l.at_ p : Int) p.2.2 b)).2, l.put p)
        else ((0, (s.write (l.at_ p : Int) (sealedS ci.f (l.at_ p : Int) p.2.2 b)).1), (s.write (l.at_ p : Int) (sealedS ci.f (l.at_ p : Int) p.2.2 b)).2, l)
theorem apnd_eq (hf : l.Fine) (h0 : 0 < l.size) (b : List UInt8) : apR ci s (rlOf l) b = ((apnd ci s l b).1, (apnd ci s l b).2.1, rlOf (apnd ci s l b).2.2) := by
  unfold apR apnd
  by_cases hb : 103 < b.length
  · rw [if_pos hb, if_pos hb]
  · rw [if_neg hb, if_neg hb, rl_next hf]
    cases hn : l.next with
    | none => rfl
    | some p =>
      have hp := (Lg.next_lt hf hn h0).2.2
      have ha : (rlOf l).at_ (p.1 : Int) (p.2.1 : Int) = (l.at_ p : Int) := by
        show 2 + (p.1 : Int) * (l.size : Int) + (p.2.1 : Int) = ((2 + p.1 * l.size + p.2.1 : Nat) : Int)
        push_cast; rfl
      simp only [ha]
      rw [if_neg (by simp)]
      split
      · rw [rl_put l (by omega)]
      · rfl
theorem append_any (h : (LogL C G g q ci).At w (s, l) F) (hf : l.Fine) {k : Nat} (hk : s.ok k) (hm : C.most s.d < 900000) (hl : l.last < 1000000) (A : Option Addr) (n c : Nat) (b : List UInt8) (hb : b.length = n) (hr : Rd w.heap.size w A (bv b)) :
    Calls Try.prog 38 #[.pointer (some ⟨q, 0, none⟩), .slice A n c] w (RetA (LogL C G g q ci) (.tuple #[.int .i64 (apnd ci s l b).1.1, .int .i64 (apnd ci s l b).1.2]) (apnd ci s l b).2 F w) := by
  obtain ⟨bm, ho⟩ := logl_own h
  have h0 : 0 < l.size := by have := ho.ok.small.2.2.2; exact this
  have hc := append_raw (A := A) (n := n) (c := c) h hk hm (show l.last < _ by omega) hb hr
  rw [apnd_eq hf h0] at hc
  exact hc.mono fun _ _ hr => logl_ret hr
theorem lflush_any (h : (LogL C G g q ci).At w (s, l) F) : Calls Try.prog 37 #[.pointer (some ⟨q, 0, none⟩)] w (RetA (LogL C G g q ci) (.int .i64 s.flush.1) (s.flush.2, l) F w) :=
  (rflush_any h).mono fun _ _ hr => logl_ret hr
theorem lgen_any (h : (LogL C G g q ci).At w (s, l) F) {k : Int} (h1 : -9223372036854775808 ≤ k) (h2 : k ≤ 9223372036854775807) :
    Calls Try.prog 83 #[.pointer (some ⟨q, 0, none⟩), .int .i64 k] w (RetB (.int .u64 (if 0 ≤ k then ((l.gens.getD k.toNat 0 : Nat) : Int) else 0)) w) := by
  obtain ⟨bm, ho⟩ := logl_own h
  have hc := gen_any ho h1 h2
  rw [rl_gen] at hc
  rwa [show (((if 0 ≤ k then l.gens.getD k.toNat 0 else 0 : Nat)) : Int) = if 0 ≤ k then ((l.gens.getD k.toNat 0 : Nat) : Int) else 0 by split <;> rfl] at hc
theorem lfreeE (l : Lg) (k : Int) : (rlOf l).freeE k = l.freeE k := by
  unfold Rl.freeE Lg.freeE
  rw [rl_used]
  show (if k < 0 ∨ (l.gens.length : Int) ≤ k then _ else _) = _
  by_cases h : k < 0 ∨ (l.gens.length : Int) ≤ k
  · rw [if_pos h, if_pos h]
  · rw [if_neg h, if_neg h]
    by_cases h0 : l.gens.getD k.toNat 0 = 0
    · rw [if_pos (decide_eq_false (fun h => h.2 h0)), if_pos h0]
    · rw [if_neg (fun h => of_decide_eq_false h ⟨by omega, h0⟩), if_neg h0]
      show (if k = l.headI then _ else _) = _
      by_cases e : k = l.headI
      · rw [if_pos e, if_pos e.symm]
      · rw [if_neg e, if_neg (fun h => e h.symm)]
theorem lfree_any (h : (LogL C G g q ci).At w (s, l) F) {k : Int} (h1 : -9223372036854775808 ≤ k) (h2 : k ≤ 9223372036854775807) :
    Calls Try.prog 36 #[.pointer (some ⟨q, 0, none⟩), .int .i64 k] w (RetA (LogL C G g q ci) (.int .i64 (l.freeE k)) (s, if l.freeE k = 0 then l.free k.toNat else l) F w) := by
  obtain ⟨bm, ho, _, _, hst⟩ := logr_step h
  refine (free_own ho h1 h2).mono ?_
  rintro e w' ⟨rfl, ho', hb⟩
  rw [lfreeE] at ho'
  obtain ⟨F', hm⟩ := hst ho' hb
  refine ⟨by rw [lfreeE], F', logl_mv ?_⟩
  split
  · rename_i h0
    rw [if_pos h0] at hm
    rw [rl_freeSeg]; exact hm
  · rename_i h0
    rw [if_neg h0] at hm
    exact hm
theorem lhead_any (h : (LogL C G g q ci).At w (s, l) F) : Calls Try.prog 82 #[.pointer (some ⟨q, 0, none⟩)] w (RetB (.tuple #[.int .i64 l.headI, .int .i64 l.slotI]) w) := by
  obtain ⟨bm, ho⟩ := logl_own h
  exact head_any ho
theorem lroom_any (h : (LogL C G g q ci).At w (s, l) F) (hf : l.Fine) : Calls Try.prog 84 #[.pointer (some ⟨q, 0, none⟩)] w (RetB (.int .i64 (l.room : Int)) w) := by
  obtain ⟨bm, ho⟩ := logl_own h
  have hc := room_any ho
  rwa [rl_room hf] at hc
/-- What Read tells: the body, and the error. -/
def readL (ci : SCiph) (G : Gd) (s : Mr C) (l : Lg) (k : Int) : List UInt8 × Int :=
  if 2 ≤ k ∧ k < 2 + (l.gens.length : Int) * l.size ∧ l.gens.getD ((k.toNat - 2) / l.size) 0 ≠ 0 then
    (if (readM C G s k).2 = 0 then (if okS ci.f k (readM C G s k).1 = true ∧ genS (readM C G s k).1 = l.gens.getD ((k.toNat - 2) / l.size) 0 then (bodyS (readM C G s k).1, 0) else ([], 9)) else ([], (readM C G s k).2))
  else ([], 2)
theorem readL_eq (k : Int) : rdR ci G s (rlOf l) k = readL ci G s l k := by
  unfold rdR readL
  rw [rl_used, rl_gen]
  show (if (2 ≤ k ∧ k < 2 + (l.gens.length : Int) * (l.size : Int)) ∧ decide (0 ≤ (k - 2) / (l.size : Int) ∧ l.gens.getD ((k - 2) / (l.size : Int)).toNat 0 ≠ 0) = true then _ else _) = _
  by_cases hk : 2 ≤ k ∧ k < 2 + (l.gens.length : Int) * (l.size : Int)
  · have e1 : (k - 2) / (l.size : Int) = (((k.toNat - 2) / l.size : Nat) : Int) := by
      have : k - 2 = ((k.toNat - 2 : Nat) : Int) := by omega
      rw [this]; rfl
    have e2 : 0 ≤ (k - 2) / (l.size : Int) := by rw [e1]; exact Int.natCast_nonneg _
    have e3 : ((k - 2) / (l.size : Int)).toNat = (k.toNat - 2) / l.size := by rw [e1]; exact Int.toNat_natCast _
    have e4 : genG (rlOf l).gens ((k - 2) / (l.size : Int)) = l.gens.getD ((k.toNat - 2) / l.size) 0 := by rw [rl_gen, if_pos e2, e3]
    have e5 : (if 0 ≤ (k - 2) / ((rlOf l).size : Int) then l.gens.getD ((k - 2) / ((rlOf l).size : Int)).toNat 0 else 0) = l.gens.getD ((k.toNat - 2) / l.size) 0 := by
      show (if 0 ≤ (k - 2) / (l.size : Int) then l.gens.getD ((k - 2) / (l.size : Int)).toNat 0 else 0) = _
      rw [if_pos e2, e3]
    rw [e5, e3]
    by_cases h0 : l.gens.getD ((k.toNat - 2) / l.size) 0 ≠ 0
    · exact (if_pos ⟨hk, decide_eq_true ⟨e2, h0⟩⟩).trans (if_pos ⟨hk.1, hk.2, h0⟩).symm
    · exact (if_neg (fun h => h0 (of_decide_eq_true h.2).2)).trans (if_neg (fun h => h0 h.2.2)).symm
  · rw [if_neg (fun h => hk h.1), if_neg (fun h => hk ⟨h.1, h.2.1⟩)]
theorem lread_any (h : (LogL C G g q ci).At w (s, l) F) (hab : s.b.length = s.a.length) (k : Int) :
    Calls Try.prog 42 #[.pointer (some ⟨q, 0, none⟩), .int .i64 k] w (RetN (LogL C G g q ci) (s, l) (readL ci G s l k).1 (readL ci G s l k).2 F w) := by
  have hc := read_raw h hab k
  rw [readL_eq] at hc
  refine hc.mono ?_
  rintro e w' ⟨A, n, c, rfl, ho, F', hm, hd⟩
  exact ⟨A, n, c, rfl, ho, F', logl_mv hm, hd⟩
end
end Go.Proofs.Ytnplhagfmfggcaa.Lo
/-
  A log no segment of which was freed: what it knows behind T bodies, and what is found then. No program.
-/
namespace Go.Proofs.Ytnplhagfmfggcaa.Lo
open Go.RowKit Kd Sx
/-- Behind q segments and r bodies. -/
def lgQ (size segs q r : Nat) : Lg :=
  ⟨size, (List.range segs).map fun i => if i < q ∨ (i = q ∧ 0 < r) then i + 1 else 0, if 0 < r then q + 1 else q, if 0 < r then some (q, r) else if 0 < q then some (q - 1, size) else none⟩
theorem find_range (p : Nat → Bool) (n : Nat) {q : Nat} (h1 : ∀ i, i < q → p i = false) (h2 : p q = true) : ((List.range n).map fun i => if p i then (0 : Nat) else i + 1).findIdx? (· == 0) = if q < n then some q else none := by
  split
  · rename_i hq
    rw [List.findIdx?_eq_some_iff_getElem]
    refine ⟨by simpa using hq, by simp [h2], fun j hj => ?_⟩
    simp [h1 j hj]
  · rename_i hq
    rw [List.findIdx?_eq_none_iff]
    intro x hx
    obtain ⟨i, hi, rfl⟩ := List.mem_map.1 hx
    have hi := List.mem_range.1 hi
    rw [h1 i (by omega)]
    simp
theorem freeK_Q {size segs q : Nat} : freeK (lgQ size segs q 0).gens = if q < segs then some q else none := by
  have := find_range (fun i => decide (q ≤ i)) segs (q := q) (fun i hi => decide_eq_false (by omega)) (decide_eq_true (Nat.le_refl _))
  rw [← this, freeK, lgQ]
  congr 1
  refine List.map_congr_left fun i _ => ?_
  by_cases h : i < q
  · rw [if_pos (.inl h), if_neg (by simp; omega)]
  · rw [if_neg (by omega), if_pos (by simp; omega)]
theorem next_Q {size segs q r : Nat} (hr : r < size) : (lgQ size segs q r).next = if q < segs ∨ 0 < r then (if 0 < r then some (q, r, (lgQ size segs q r).gens.getD q 0) else some (q, 0, q + 1)) else none := by
  by_cases h : 0 < r
  · have e : (lgQ size segs q r).h = some (q, r) := by rw [lgQ]; exact if_pos h
    rw [Lg.next, e]
    show (if r < size then _ else _) = _
    rw [if_pos hr, if_pos (.inr h), if_pos h]
  · obtain rfl : r = 0 := by omega
    have hl : (lgQ size segs q 0).last = q := by show (if 0 < 0 then q + 1 else q) = q; exact if_neg h
    have hn : (lgQ size segs q 0).next = (freeK (lgQ size segs q 0).gens).map fun k => (k, 0, (lgQ size segs q 0).last + 1) := by
      by_cases h0 : 0 < q
      · have e : (lgQ size segs q 0).h = some (q - 1, size) := by show (if 0 < 0 then some (q, 0) else if 0 < q then some (q - 1, size) else none) = _; rw [if_neg h, if_pos h0]
        rw [Lg.next, e]
        show (if size < size then _ else _) = _
        rw [if_neg (Nat.lt_irrefl _)]
      · have e : (lgQ size segs q 0).h = none := by show (if 0 < 0 then some (q, 0) else if 0 < q then some (q - 1, size) else none) = _; rw [if_neg h, if_neg h0]
        rw [Lg.next, e]
    rw [hn, freeK_Q, hl]
    by_cases hq : q < segs
    · rw [if_pos hq, if_pos (.inl hq), if_neg h]; rfl
    · rw [if_neg hq, if_neg (by omega)]; rfl
theorem gens_Q {size segs q r : Nat} (hq : q < segs) (hr : 0 < r) : (lgQ size segs q r).gens.getD q 0 = q + 1 := by
  simp [lgQ, hq, hr]
theorem gens_set_Q {size segs q r g : Nat} (hg : g = q + 1) : (lgQ size segs q r).gens.set q g = (lgQ size segs q (r + 1)).gens := by
  apply List.ext_getElem
  · simp [lgQ]
  · intro i h1 h2
    have hi : i < segs := by simpa [lgQ] using h2
    rw [List.getElem_set]
    simp only [lgQ, List.getElem_map, List.getElem_range]
    by_cases e : q = i
    · subst e
      rw [if_pos rfl, if_pos (by omega), hg]
    · rw [if_neg e]
      by_cases h : i < q
      · rw [if_pos (.inl h), if_pos (.inl h)]
      · rw [if_neg (by omega), if_neg (by omega)]
/-- Behind T bodies. -/
def lgT (size segs T : Nat) : Lg := lgQ size segs (T / size) (T % size)
theorem lgQ_full {size segs q : Nat} (hs : 0 < size) : lgQ size segs q size = lgQ size segs (q + 1) 0 := by
  unfold lgQ
  congr 1
  · refine List.map_congr_left fun i _ => ?_
    by_cases h : i < q ∨ i = q
    · rw [if_pos (by omega), if_pos (by omega)]
    · rw [if_neg (by omega), if_neg (by omega)]
  · rw [if_pos hs, if_neg (by omega)]
  · rw [if_pos hs, if_neg (by omega), if_pos (by omega), Nat.add_sub_cancel]
theorem lgTsucc {size segs T : Nat} (hs : 0 < size) : lgT size segs (T + 1) = lgQ size segs (T / size) (T % size + 1) := by
  have h1 := Nat.div_add_mod T size
  have h2 := Nat.mod_lt T hs
  by_cases h : T % size + 1 < size
  · have e : T + 1 = (T % size + 1) + size * (T / size) := by omega
    rw [lgT]
    have e1 : (T + 1) / size = T / size := by
      rw [e, Nat.add_mul_div_left _ _ hs, Nat.div_eq_of_lt h, Nat.zero_add]
    have e2 : (T + 1) % size = T % size + 1 := by
      rw [e, Nat.add_mul_mod_self_left, Nat.mod_eq_of_lt h]
    rw [e1, e2]
  · have e3 : T % size + 1 = size := by omega
    have e : T + 1 = size * (T / size + 1) := by rw [Nat.mul_add]; omega
    rw [lgT]
    have e1 : (T + 1) / size = T / size + 1 := by rw [e, Nat.mul_div_cancel_left _ hs]
    have e2 : (T + 1) % size = 0 := by rw [e, Nat.mul_mod_right]
    rw [e1, e2, e3, lgQ_full hs]
theorem div_lt_segs {size segs T : Nat} (hs : 0 < size) : T / size < segs ↔ T < segs * size := by
  rw [Nat.div_lt_iff_lt_mul hs]
theorem next_T {size segs T : Nat} (hs : 0 < size) (hT : T < segs * size) : (lgT size segs T).next = some (T / size, T % size, T / size + 1) := by
  have hq := (div_lt_segs hs).2 hT
  rw [lgT, next_Q (Nat.mod_lt _ hs), if_pos (.inl hq)]
  split
  · rename_i h; rw [gens_Q hq h]
  · rename_i h; rw [show T % size = 0 by omega]
theorem next_full {size segs : Nat} (hs : 0 < size) : (lgT size segs (segs * size)).next = none := by
  rw [lgT, next_Q (Nat.mod_lt _ hs), if_neg (by rw [Nat.mul_div_cancel _ hs, Nat.mul_mod_left]; omega)]
theorem last_Q {size segs q r : Nat} : (lgQ size segs q r).last ≤ q + 1 ∧ (0 < r → (lgQ size segs q r).last = q + 1) ∧ (r = 0 → (lgQ size segs q r).last = q) := by
  unfold lgQ
  refine ⟨?_, fun h => if_pos h, fun h => if_neg (by omega)⟩
  show (if 0 < r then q + 1 else q) ≤ q + 1
  split <;> omega
theorem put_T {size segs T : Nat} (hs : 0 < size) : (lgT size segs T).put (T / size, T % size, T / size + 1) = lgT size segs (T + 1) := by
  rw [lgTsucc hs, lgT, Lg.put, gens_set_Q rfl]
  have hl := (last_Q (size := size) (segs := segs) (q := T / size) (r := T % size)).1
  show Lg.mk size _ (max _ (T / size + 1)) (some (T / size, T % size + 1)) = _
  rw [Nat.max_eq_right hl]
  unfold lgQ
  rw [if_pos (Nat.succ_pos _), if_pos (Nat.succ_pos _)]
/-- The sector of body t. -/
theorem at_T {size segs T : Nat} : (lgT size segs T).at_ (T / size, T % size, T / size + 1) = 2 + T := by
  show 2 + T / size * size + T % size = 2 + T
  have := Nat.div_add_mod T size
  rw [Nat.mul_comm] at this; omega
theorem learn_T {size segs T : Nat} (hs : 0 < size) (hT : T < segs * size) (b : List UInt8) : (lgT size segs T).learn (2 + T, T / size + 1, b) = lgT size segs (T + 1) := by
  have hq := (div_lt_segs hs).2 hT
  rw [← put_T hs, Lg.learn, Lg.put]
  have e : 2 + T - 2 = T := by omega
  show Lg.mk size _ _ _ = Lg.mk size _ _ _
  have hgq : ((lgT size segs T).gens.getD (T / size) 0) ≤ T / size + 1 := by
    by_cases hr : 0 < T % size
    · rw [lgT, gens_Q hq hr]; exact Nat.le_refl _
    · have : (lgT size segs T).gens.getD (T / size) 0 = 0 := by
        simp [lgT, lgQ, hq, hr]
      rw [this]; exact Nat.zero_le _
  show Lg.mk size ((lgT size segs T).gens.set ((2 + T - 2) / size) (max ((lgT size segs T).gens.getD ((2 + T - 2) / size) 0) (T / size + 1))) (max (lgT size segs T).last (T / size + 1)) (if _ ∨ _ then some ((2 + T - 2) / size, (2 + T - 2) % size + 1) else (lgT size segs T).h) = _
  rw [e, Nat.max_eq_right hgq, if_pos]
  by_cases hr : 0 < T % size
  · refine .inr ⟨(last_Q (size := size) (segs := segs)).2.1 hr, ?_⟩
    show Option.map _ (lgQ size segs (T / size) (T % size)).h = _
    rw [lgQ]
    show Option.map _ (if 0 < T % size then _ else _) = _
    rw [if_pos hr]; rfl
  · refine .inl ?_
    show (lgQ size segs (T / size) (T % size)).last < T / size + 1
    rw [(last_Q (size := size) (segs := segs)).2.2 (by omega)]
    exact Nat.lt_succ_self _
theorem lgTzero (size segs : Nat) : lgT size segs 0 = Lg.new segs size := by
  rw [lgT, Nat.zero_div, Nat.zero_mod, lgQ, Lg.new]
  congr 1
  apply List.ext_getElem
  · simp
  · intro i h1 h2
    simp
/-- What is found of T bodies. -/
def itemsT (size : Nat) (all : List (List UInt8)) : List (Nat × Nat × List UInt8) := (List.range all.length).map fun t => (2 + t, t / size + 1, all.getD t [])
theorem itemsTsnoc (size : Nat) (all : List (List UInt8)) (b : List UInt8) : itemsT size (all ++ [b]) = itemsT size all ++ [(2 + all.length, all.length / size + 1, b)] := by
  unfold itemsT
  rw [List.length_append, List.length_singleton, List.range_succ, List.map_append, List.map_singleton]
  congr 1
  · refine List.map_congr_left fun t ht => ?_
    have ht := List.mem_range.1 ht
    rw [List.getD_eq_getElem?_getD, List.getElem?_append_left ht, ← List.getD_eq_getElem?_getD]
  · simp
theorem lgOf_T {size segs : Nat} (hs : 0 < size) (all : List (List UInt8)) (hT : all.length ≤ segs * size) : lgOf segs size (itemsT size all) = lgT size segs all.length := by
  have H : ∀ (n : Nat) (l : List (List UInt8)), l.length = n → n ≤ segs * size → lgOf segs size (itemsT size l) = lgT size segs l.length := by
    intro n
    induction n with
    | zero =>
      intro l hl _
      have : l = [] := List.length_eq_zero_iff.1 hl
      subst this
      show Lg.new segs size = _
      rw [← lgTzero]; rfl
    | succ n ih =>
      intro l hl hn
      have hne : l ≠ [] := by intro e; rw [e] at hl; cases hl
      have hl' : l.dropLast ++ [l.getLast hne] = l := List.dropLast_concat_getLast hne
      have hd : l.dropLast.length = n := by rw [List.length_dropLast, hl]; rfl
      have h1 := ih l.dropLast hd (by omega)
      rw [← hl', itemsTsnoc, lgOf, List.foldl_append]
      rw [lgOf] at h1
      rw [h1, List.foldl_cons, List.foldl_nil, learn_T hs (by omega), List.length_append]; rfl
  exact H _ all rfl hT
/-- They stand in their order. -/
theorem itemsTsorted (size : Nat) (all : List (List UInt8)) : (itemsT size all).Pairwise ltF := by
  unfold itemsT
  rw [List.pairwise_map]
  refine List.Pairwise.imp ?_ List.pairwise_lt_range
  intro a b h
  rcases Nat.lt_or_ge (a / size) (b / size) with h1 | h1
  · exact .inl (Nat.succ_lt_succ h1)
  · refine .inr ⟨?_, by show 2 + a < 2 + b; omega⟩
    have h2 : a / size ≤ b / size := Nat.div_le_div_right (by omega)
    show a / size + 1 = b / size + 1
    omega
end Go.Proofs.Ytnplhagfmfggcaa.Lo
/-
  What stands on a list of sectors, where bodies were appended. No program.
-/
namespace Go.Proofs.Ytnplhagfmfggcaa.Lo
open Go.RowKit Kd Sx
section
variable {f : List UInt8 → List UInt8 → List UInt8}
theorem seen_set (hf : ∀ k l, (f k l).length = 16) {L : List (List UInt8)} {k g : Nat} {b : List UInt8} (hk : k < L.length) (h4 : k < 4096) (hb : b.length ≤ 103) (hg : g < 18446744073709551616) (j : Nat) :
    seenA f (L.set k (sealedS f k g b)) j = if j = k then some (g, b) else seenA f L j := by
  by_cases e : j = k
  · subst e
    have hm : mayS (j : Int) b = true := decide_eq_true ⟨by omega, by omega, hb⟩
    rw [if_pos rfl, seenA, List.getD_eq_getElem?_getD, List.getElem?_set_self hk, Option.getD_some, if_pos (ok_sealed hf hm hg), sealed_gen hf hg, sealed_body hf hb]
  · rw [if_neg e, seenA, seenA, List.getD_eq_getElem?_getD, List.getElem?_set_ne (by omega), ← List.getD_eq_getElem?_getD]
theorem seen_zero {n k : Nat} (h : okS f k zeroS = false) : seenA f (List.replicate n zeroS) k = none := by
  have e : (List.replicate n zeroS).getD k zeroS = zeroS := by
    rw [List.getD_eq_getElem?_getD, List.getElem?_replicate]; split <;> rfl
  rw [seenA, e, h]; rfl
theorem found_same {L : List (List UInt8)} {k : Nat} : foundAt f L L k = (seenA f L k).map fun p => (k, p.1, p.2) := by
  rw [foundAt, best_same, seenA]; split <;> rfl
theorem mem_base {L : List (List UInt8)} {k N : Nat} {p : Nat × List UInt8} (h : seenA f L k = some p) (h2 : 2 ≤ k) (hN : k < N) : (k, p.1, p.2) ∈ baseF f L L N := by
  rw [baseF, List.mem_filterMap]
  exact ⟨k - 2, List.mem_range.2 (by omega), by rw [Nat.sub_add_cancel h2, found_same, h]; rfl⟩
/-- T bodies stand there, one behind the other, and nothing else. -/
def hasT (f : List UInt8 → List UInt8 → List UInt8) (size M : Nat) (L : List (List UInt8)) (all : List (List UInt8)) : Prop :=
  ∀ i, i < M → seenA f L (i + 2) = if i < all.length then some (i / size + 1, all.getD i []) else none
theorem filter_range {β : Type} (g : Nat → β) {T M : Nat} (h : T ≤ M) : ((List.range M).filterMap fun i => if i < T then some (g i) else none) = (List.range T).map g := by
  induction M with
  | zero => obtain rfl : T = 0 := by omega
            rfl
  | succ M ih =>
    rw [List.range_succ, List.filterMap_append]
    by_cases e : T = M + 1
    · subst e
      rw [List.range_succ, List.map_append]
      congr 1
      · rw [← List.filterMap_eq_map]
        refine fm_congr fun i hi => ?_
        have hi := List.mem_range.1 hi
        rw [if_pos (by omega)]; rfl
      · rw [List.filterMap_cons, if_pos (Nat.lt_succ_self _)]; rfl
    · rw [ih (by omega), List.filterMap_cons, if_neg (by omega)]
      exact List.append_nil _
theorem base_T {size M : Nat} {L all : List (List UInt8)} (h : hasT f size M L all) (hT : all.length ≤ M) : baseF f L L (2 + M) = itemsT size all := by
  rw [baseF, itemsT, ← filter_range _ hT, show 2 + M - 2 = M by omega]
  refine fm_congr fun i hi => ?_
  rw [found_same, h i (List.mem_range.1 hi)]
  split
  · rw [Nat.add_comm i 2]; rfl
  · rfl
theorem hasTzero {size M n : Nat} (h : ∀ k, k < M + 2 → okS f k zeroS = false) : hasT f size M (List.replicate n zeroS) [] := fun i hi => by
  rw [seen_zero (h _ (by omega)), if_neg (by simp)]
theorem hasTsnoc (hf : ∀ k l, (f k l).length = 16) {size M : Nat} {L all : List (List UInt8)} (h : hasT f size M L all) {b : List UInt8} (hb : b.length ≤ 103) (hT : all.length < M) (hL : M + 2 ≤ L.length) (hM : M + 2 ≤ 4096) :
    hasT f size M (L.set (2 + all.length) (sealedS f ((2 + all.length : Nat) : Int) (all.length / size + 1) b)) (all ++ [b]) := fun i hi => by
  have hd : all.length / size ≤ all.length := Nat.div_le_self _ _
  rw [seen_set hf (by omega) (by omega) hb (by omega)]
  by_cases e : i = all.length
  · subst e
    rw [if_pos (by omega), if_pos (by simp)]
    simp
  · rw [if_neg (by omega), h i hi]
    by_cases h1 : i < all.length
    · rw [if_pos h1, if_pos (by simp; omega), List.getD_eq_getElem?_getD, List.getD_eq_getElem?_getD, List.getElem?_append_left h1]
    · rw [if_neg h1, if_neg (by simp; omega)]
end
/-! ### What is sorted -/
theorem ltFtrans {x y z : Nat × Nat × List UInt8} (h : ltF x y) (h' : ltF y z) : ltF x z := by unfold ltF at *; omega
theorem ltFirrefl {x : Nat × Nat × List UInt8} : ¬ltF x x := by unfold ltF; omega
/-- Of the same, in this order, there is one row. -/
theorem sorted_one {l r : List (Nat × Nat × List UInt8)} (hp : l.Perm r) (hl : l.Pairwise ltF) (hr : r.Pairwise ltF) : l = r := by
  induction l generalizing r with
  | nil => exact (List.Perm.nil_eq hp)
  | cons x l ih =>
    cases r with
    | nil => exact absurd hp.length_eq (by simp)
    | cons y r =>
      have hxy : x = y := by
        have h1 : x ∈ y :: r := hp.subset (List.mem_cons_self)
        have h2 : y ∈ x :: l := hp.symm.subset (List.mem_cons_self)
        rcases List.mem_cons.1 h1 with h1 | h1
        · exact h1
        · rcases List.mem_cons.1 h2 with h2 | h2
          · exact h2.symm
          · have h3 := (List.pairwise_cons.1 hr).1 x h1
            have h4 := (List.pairwise_cons.1 hl).1 y h2
            exact absurd (ltFtrans h3 h4) ltFirrefl
      subst hxy
      rw [ih (List.Perm.cons_inv hp) (List.pairwise_cons.1 hl).2 (List.pairwise_cons.1 hr).2]
end Go.Proofs.Ytnplhagfmfggcaa.Lo
/-
  A walk through a mirror, as it lies; the contract of a report's count; New, Report.
-/
namespace Go.Proofs.Ytnplhagfmfggcaa.Sc
open Go.RowKit Kd Mi
attribute [local go_sem ↓] Go.wp_at_zero Go.wp_at_succ
/-- A walk: its next place, and what the ones behind it counted as. -/
structure Wk where
  n : Nat
  r : Nat
  h : Nat
  l : Nat
def Wk.cells (x : Wk) (P : Option Addr) : Array Value := #[.pointer P, .int .i64 x.n, .int .i64 x.r, .int .i64 x.h, .int .i64 x.l]
def Wk.rep (x : Wk) : Array Value := #[.int .i64 x.r, .int .i64 x.h, .int .i64 x.l]
def Wk.add (x : Wk) (k : Int) : Wk := if k = 0 then { x with r := x.r + 1 } else if k = 1 then { x with h := x.h + 1 } else { x with l := x.l + 1 }
def Wk.zero : Wk := ⟨0, 0, 0, 0⟩
theorem but_cell {w : World} {q o : Nat} (v : Value) : But (fun y => y = q) w (w.setCell ⟨q, o, none⟩ v) := but_one v
theorem walk_set {w : World} {q : Nat} {cs cs' : Array Value} {t : TypeId} (h : Blk w q cs t) (j : Nat) (v : Value) (e : cs.setIfInBounds j v = cs') : Blk (w.setCell ⟨q, j, none⟩ v) q cs' t := by
  rw [← e]; exact heap_setCell_same _ _ _ _ _ _ h
theorem wk_info : (Try.prog.info? 57).map (·.size) = some 3 := by kernel_rfl
theorem pthree_info : (Try.prog.info? 218).map (·.size) = some 3 := by kernel_rfl
set_option maxRecDepth 100000 in
set_option maxHeartbeats 3200000 in
theorem scount_any {w : World} {q : Nat} {P : Option Addr} {x : Wk} (hb : Blk w q (x.cells P) 197) (hx : x.r < 1000000 ∧ x.h < 1000000 ∧ x.l < 1000000) (k : Int) (hk : k = 0 ∨ k = 1 ∨ k = 2) :
    Calls Try.prog 117 #[.pointer (some ⟨q, 2, none⟩), .int .i64 k] w (fun e w' => e = .returned (.tuple #[]) ∧ Blk w' q ((x.add k).cells P) 197 ∧ But (fun y => y = q) w w') := by
  obtain ⟨h1, h2, h3⟩ := hx
  have w1 : IntKind.i64.wrap ((x.r : Int) + 1) = ((x.r + 1 : Nat) : Int) := IntWalk.i64_in _ (by omega)
  have w2 : IntKind.i64.wrap ((x.h : Int) + 1) = ((x.h + 1 : Nat) : Int) := IntWalk.i64_in _ (by omega)
  have w3 : IntKind.i64.wrap ((x.l : Int) + 1) = ((x.l + 1 : Nat) : Int) := IntWalk.i64_in _ (by omega)
  go_enter Try.func117, Try.ntmps117
  go_upto_region 0 with fail
  refine wp_region_held_drew (S := fun _ => True) (by kernel_rfl) trivial (fun hh => ?_)
  have HH := Lib.hid hh
  clear hh
  refine wpAnyH_take (i := 0) (v := ?vA0) rfl (by kernel_rfl) (by kernel_rfl) (by kernel_rfl) (fun _ _ _ h => h) (Or.inl ⟨by rfl, fun w' _ => ?yA0⟩) HH.out ?_
  case yA0 => (go_simp; try with_reducible rfl)
  refine wpAnyH_take (i := 1) (v := ?vA1) rfl (by kernel_rfl) (by kernel_rfl) (by kernel_rfl) (fun _ _ _ h => h) (Or.inl ⟨by rfl, fun w' _ => ?yA1⟩) HH.out ?_
  case yA1 => (go_simp; try with_reducible rfl)
  try simp only [List.getElem_toArray, List.getElem_cons_succ, List.getElem_cons_zero, Act.put, List.setIfInBounds_toArray, List.set_cons_zero, List.set_cons_succ]
  refine wpAnyH_take (i := 2) (v := ?vA2) rfl (by kernel_rfl) (by kernel_rfl) (by kernel_rfl) (fun _ _ _ h => h) (Or.inl ⟨by rfl, fun w' _ => ?yA2⟩) HH.out ?_
  case yA2 => (go_simp; try with_reducible rfl)
  refine wpAnyH_take (i := 3) (v := ?vA3) rfl (by kernel_rfl) (by kernel_rfl) (by kernel_rfl) (fun _ _ _ h => h) (Or.inl ⟨by rfl, fun w' _ => ?yA3⟩) HH.out ?_
  case yA3 => (go_simp; try with_reducible rfl)
  refine wpAnyH_take (i := 4) (v := ?vA4) rfl (by kernel_rfl) (by kernel_rfl) (by kernel_rfl) (fun _ _ _ h => h) (Or.inl ⟨by rfl, fun w' _ => ?yA4⟩) HH.out ?_
  case yA4 => (go_simp; try with_reducible rfl)
  try simp only [List.getElem_toArray, List.getElem_cons_succ, List.getElem_cons_zero, Act.put, List.setIfInBounds_toArray, List.set_cons_zero, List.set_cons_succ]
  refine wpAnyH_take (i := 5) (v := ?vA5) rfl (by kernel_rfl) (by kernel_rfl) (by kernel_rfl) (fun _ _ _ h => h) (Or.inl ⟨by rfl, fun w' _ => ?yA5⟩) HH.out ?_
  case yA5 => (go_simp; try with_reducible rfl)
  refine wpAnyH_take (i := 6) (v := ?vA6) rfl (by kernel_rfl) (by kernel_rfl) (by kernel_rfl) (fun _ _ _ h => h) (Or.inl ⟨by rfl, fun w' _ => ?yA6⟩) HH.out ?_
  case yA6 => (go_simp; try with_reducible rfl)
  refine wpAnyH_take (i := 7) (v := ?vA7) rfl (by kernel_rfl) (by kernel_rfl) (by kernel_rfl) (fun _ _ _ h => h) (Or.inl ⟨by rfl, fun w' _ => ?yA7⟩) HH.out ?_
  case yA7 => (go_simp; try with_reducible rfl)
  try simp only [List.getElem_toArray, List.getElem_cons_succ, List.getElem_cons_zero, Act.put, List.setIfInBounds_toArray, List.set_cons_zero, List.set_cons_succ]
  refine wpAnyH_take (i := 8) (v := ?vA8) rfl (by kernel_rfl) (by kernel_rfl) (by kernel_rfl) (fun _ _ _ h => h) (Or.inl ⟨by rfl, fun w' _ => ?yA8⟩) HH.out ?_
  case yA8 => (go_simp; try with_reducible rfl)
  refine wpAnyH_take (i := 9) (v := .agg #[.pointer (some ⟨q, 2, none⟩), .pointer (some ⟨q, 3, none⟩), .pointer (some ⟨q, 4, none⟩)]) rfl (by kernel_rfl) (by kernel_rfl) (by kernel_rfl) (fun _ _ _ h => h) (Or.inl ⟨by rfl, fun w' hw' => ?yA9⟩) HH.out ?_
  case yA9 => (go_simp; try with_reducible rfl)
  try simp only [List.getElem_toArray, List.getElem_cons_succ, List.getElem_cons_zero, Act.put, List.setIfInBounds_toArray, List.set_cons_zero, List.set_cons_succ]
  refine wpAnyH_ready (rs := [10]) (by kernel_rfl) (by simp) (AllReadyH.cons rfl (fun K hK => ?_) AllReadyH.nil)
  go_simp
  refine hK.out _ _ trivial (fun hh => ?_)
  have HH' := Lib.hid hh
  clear hh hK K HH
  have HH := Lib.hid HH'.out
  clear HH'
  try simp only [List.getElem_toArray, List.getElem_cons_succ, List.getElem_cons_zero, Act.put, List.setIfInBounds_toArray, List.set_cons_zero, List.set_cons_succ]
  refine wpAnyH_ready (rs := [11]) (by kernel_rfl) (by simp) (AllReadyH.cons rfl (fun K hK => ?_) AllReadyH.nil)
  rw [if_pos (by rfl)]
  refine wp_store_row 218 (.tmp 4) (.tmp 14) rfl w.heap.size #[.pointer (some ⟨q, 2, none⟩), .pointer (some ⟨q, 3, none⟩), .pointer (some ⟨q, 4, none⟩)] rfl rfl 218 #[.pointer none, .pointer none, .pointer none] (heap_alloc_new _ _) pthree_info rfl (by simp [Value.oneCell']) ?_
  refine hK.out _ _ trivial (fun hh => ?_)
  have HH' := Lib.hid hh
  clear hh hK K HH
  have HH := Lib.hid HH'.out
  clear HH'
  refine wpAnyH_done (by kernel_rfl) ?_ _
  obtain ⟨wb, hwb⟩ : ∃ wb, wb = ((w.alloc (.cells #[.pointer none, .pointer none, .pointer none] 218)).drew).setRow w.heap.size #[.pointer (some ⟨q, 2, none⟩), .pointer (some ⟨q, 3, none⟩), .pointer (some ⟨q, 4, none⟩)] := ⟨_, rfl⟩
  have BB := Lib.hid (show Below w.heap.size w wb by rw [hwb]; exact below_setRow (((Below.refl _ w).alloc (Nat.le_refl _) _).drew) (Nat.le_refl _) _)
  have hbx : Blk wb w.heap.size #[.pointer (some ⟨q, 2, none⟩), .pointer (some ⟨q, 3, none⟩), .pointer (some ⟨q, 4, none⟩)] 218 := by rw [hwb]; exact setRow_heap _ _ _ _ _ _ (heap_alloc_new _ _)
  have hbw := hb.below BB.out
  have hq : w.heap.size ≠ q := by have := hb.lt; omega
  have d0 : wb.cell? ⟨w.heap.size, 0, none⟩ = some (.pointer (some ⟨q, 2, none⟩)) := hbx.cell 0
  have d1 : wb.cell? ⟨w.heap.size, 1, none⟩ = some (.pointer (some ⟨q, 3, none⟩)) := hbx.cell 1
  have d2 : wb.cell? ⟨w.heap.size, 2, none⟩ = some (.pointer (some ⟨q, 4, none⟩)) := hbx.cell 2
  have c2 : wb.cell? ⟨q, 2, none⟩ = some (.int .i64 x.r) := hbw.cell 2
  have c3 : wb.cell? ⟨q, 3, none⟩ = some (.int .i64 x.h) := hbw.cell 3
  have c4 : wb.cell? ⟨q, 4, none⟩ = some (.int .i64 x.l) := hbw.cell 4
  have f2 := hbw.free 2
  have f3 := hbw.free 3
  have f4 := hbw.free 4
  have HBW := Lib.hid hbw
  rw [← hwb]
  obtain ⟨bx, hbq⟩ : ∃ bx, bx = w.heap.size := ⟨_, rfl⟩
  try rw [← hbq] at d0 d1 d2 hbx hq
  rw [← hbq]
  clear hwb hbx hbw hb hbq
  rcases hk with rfl | rfl | rfl
  · go_wp2_with fail
    exact bodyPost_end (results_none Try.results117 _ _ _) rfl ⟨rfl, walk_set HBW.out 2 _ (by simp [Wk.cells, Wk.add]), (but_below BB.out).trans (but_one _)⟩
  · go_wp2_with fail
    exact bodyPost_end (results_none Try.results117 _ _ _) rfl ⟨rfl, walk_set HBW.out 3 _ (by simp [Wk.cells, Wk.add]), (but_below BB.out).trans (but_one _)⟩
  · go_wp2_with fail
    exact bodyPost_end (results_none Try.results117 _ _ _) rfl ⟨rfl, walk_set HBW.out 4 _ (by simp [Wk.cells, Wk.add]), (but_below BB.out).trans (but_one _)⟩
end Go.Proofs.Ytnplhagfmfggcaa.Sc
/-
  The contracts of a walk's New, Report, Step.
-/
namespace Go.Proofs.Ytnplhagfmfggcaa.Sc
open Go.RowKit Kd Mi
attribute [local go_sem ↓] Go.wp_at_zero Go.wp_at_succ
/-- A walk beside what it goes through. -/
def WL (L : Laid) (P : Option Addr) (q : Nat) : Laid where
  St := L.St × Wk
  At w s F := ∃ F1, L.At w s.1 F1 ∧ Blk w q (s.2.cells P) 197 ∧ ¬ F1 q ∧ (∀ y, F1 y → F y) ∧ F q ∧ ∀ y, F y → y < w.heap.size
  but := fun ⟨F1, h1, h2, h3, h4, h5, h6⟩ hb hd => ⟨F1, L.but h1 hb (fun y hy => hd y (h4 y hy)), h2.but hb (hd q h5), h3, h4, h5, fun y hy => Nat.lt_of_lt_of_le (h6 y hy) hb.size⟩
  lt := fun ⟨_, _, _, _, _, _, h6⟩ => h6
section
variable {L : Laid} {P : Option Addr} {q : Nat} {w w' : World} {s : L.St × Wk} {F : Nat → Prop}
theorem wl_in (h : (WL L P q).At w s F) : ∃ F1, L.At w s.1 F1 ∧ Blk w q (s.2.cells P) 197 ∧ ∀ {s2 : L.St} {w' F2}, Mv L w F1 w' s2 F2 → Mv (WL L P q) w F w' (s2, s.2) (fun y => F y ∨ F2 y) := by
  obtain ⟨F1, h1, h2, h3, h4, h5, h6⟩ := h
  refine ⟨F1, h1, h2, fun {s2 w' F2} hm => ⟨⟨F2, hm.at_, h2.but hm.but h3, fun hq => ?_, fun y hy => .inr hy, .inl h5, ?_⟩, ?_, hm.but.mono h4⟩⟩
  · rcases hm.new q hq with h7 | h7
    · exact h3 h7
    · have := h2.lt; omega
  · rintro y (hy | hy)
    · exact Nat.lt_of_lt_of_le (h6 y hy) hm.but.size
    · exact hm.lt y hy
  · rintro y (hy | hy)
    · exact .inl hy
    · exact (hm.new y hy).imp (h4 y) id
theorem wl_blk (h : (WL L P q).At w s F) : Blk w q (s.2.cells P) 197 := by obtain ⟨_, _, h2, _⟩ := h; exact h2
theorem wl_own (h : (WL L P q).At w s F) (hb : But (fun y => y = q) w w') {x : Wk} (hx : Blk w' q (x.cells P) 197) : Mv (WL L P q) w F w' (s.1, x) F := by
  obtain ⟨F1, h1, h2, h3, h4, h5, h6⟩ := h
  exact ⟨⟨F1, L.but h1 hb (fun y hy e => h3 (e ▸ hy)), hx, h3, h4, h5, fun y hy => Nat.lt_of_lt_of_le (h6 y hy) hb.size⟩, fun _ hy => .inl hy, hb.mono (fun y hy => hy ▸ h5)⟩
theorem wl_start (h : L.At w s.1 F) (hb : Below w.heap.size w w') (hx : Blk w' q (s.2.cells P) 197) (hq : w.heap.size ≤ q) : (WL L P q).At w' s (fun y => F y ∨ y = q) :=
  ⟨F, L.below h hb, hx, fun hf => (by have := L.lt h q hf; omega), fun y hy => .inl hy, .inr rfl, fun y hy => by
    rcases hy with hy | rfl
    · exact Nat.lt_of_lt_of_le (L.lt h y hy) hb.size
    · exact hx.lt⟩
end
/-! ### New -/
set_option maxRecDepth 100000 in
set_option maxHeartbeats 3200000 in
theorem snew_any (w : World) (P : Option Addr) : Calls Try.prog 76 #[.pointer P] w (fun e w' => ∃ q, e = .returned (.pointer (some ⟨q, 0, none⟩)) ∧ w.heap.size ≤ q ∧ Blk w' q (Wk.zero.cells P) 197 ∧ Below w.heap.size w w') := by
  go_enter Try.func76, Try.ntmps76
  go_wp2_with (first
    | (refine wpList_build rfl 197 #[(0, .tmp 3)] rfl (v := .agg (Wk.zero.cells P)) ?hbld ?_; case hbld => kernel_rfl))
  go_ret
  exact ⟨_, rfl, Nat.le_refl _, heap_alloc_new _ _, (Below.refl _ _).alloc (Nat.le_refl _) _⟩
/-! ### Report -/
set_option maxRecDepth 100000 in
set_option maxHeartbeats 3200000 in
theorem sreport_nil (w : World) : Calls Try.prog 79 #[.pointer none] w (RetB (.agg (Wk.zero.rep)) w) := by
  go_enter Try.func79, Try.ntmps79
  go_wp2_with (first
    | (refine wpList_build rfl 57 #[] rfl (v := .agg (Wk.zero.rep)) ?hbld ?_; case hbld => kernel_rfl)
    | (refine wpList_store_row rfl 57 (.tmp 2) (.tmp 5) rfl w.heap.size Wk.zero.rep rfl rfl 57 #[.int .i64 0, .int .i64 0, .int .i64 0] (heap_alloc_new _ _) wk_info rfl (by simp [Wk.rep, Value.oneCell']) ?_))
  exact bodyPost_ret (v := .agg Wk.zero.rep) (results_cell_row Try.results79 _ _ w.heap.size 57 Wk.zero.rep (0, 0) _ rfl (setRow_heap _ _ _ _ _ _ (heap_alloc_new _ _)) Try.underlying57 rfl wk_info) rfl ⟨rfl, below_setRow ((Below.refl _ _).alloc (Nat.le_refl _) _) (Nat.le_refl _) _⟩
set_option maxRecDepth 100000 in
set_option maxHeartbeats 3200000 in
theorem sreport_any {w : World} {q : Nat} {P : Option Addr} {x : Wk} (hb : Blk w q (x.cells P) 197) : Calls Try.prog 79 #[.pointer (some ⟨q, 0, none⟩)] w (RetB (.agg x.rep) w) := by
  obtain ⟨w1, hw1⟩ : ∃ w1, w1 = w.alloc (.cells #[.int .i64 0, .int .i64 0, .int .i64 0] 57) := ⟨_, rfl⟩
  have B1 := Lib.hid (show Below w.heap.size w w1 by rw [hw1]; exact (Below.refl _ _).alloc (Nat.le_refl _) _)
  have R1 := Lib.hid (show Blk w1 w.heap.size #[.int .i64 0, .int .i64 0, .int .i64 0] 57 by rw [hw1]; exact heap_alloc_new _ _)
  have X1 := Lib.hid (hb.below B1.out)
  have hld : ∀ j v, x.rep.toList[j]? = some v → w1.cell? ((⟨q, 2, none⟩ : Addr).add j) = some v := fun j v hv => by
    have h0 : w1.cell? ⟨q, 2 + j, none⟩ = (x.cells P)[2 + j]? := X1.out.cell (2 + j)
    rw [show ((⟨q, 2, none⟩ : Addr).add j) = ⟨q, 2 + j, none⟩ by unfold Addr.add; split <;> simp_all, h0]
    rcases j with _ | _ | _ | j
    · exact hv
    · exact hv
    · exact hv
    · simp [Wk.rep] at hv
  have HLD := Lib.hid hld
  clear hld hb
  go_enter Try.func79, Try.ntmps79
  go_upto_region 1 with fail
  rw [← hw1]
  clear hw1
  go_wp2_with (first
    | (refine wpList_load_at rfl 57 (.tmp 8) rfl ⟨q, 2, none⟩ (cs := x.rep.toList) rfl HLD.out Try.underlying57 rfl wk_info ?_)
    | (refine wpList_store_row rfl 57 (.tmp 2) (.tmp 9) rfl w.heap.size x.rep rfl rfl 57 #[.int .i64 0, .int .i64 0, .int .i64 0] R1.out wk_info rfl (by simp [Wk.rep, Value.oneCell']) ?_))
  exact bodyPost_ret (v := .agg x.rep) (results_cell_row Try.results79 _ _ w.heap.size 57 x.rep (0, 0) _ rfl (setRow_heap _ _ _ _ _ _ R1.out) Try.underlying57 rfl wk_info) rfl ⟨rfl, below_setRow B1.out (Nat.le_refl _) _⟩
/-! ### Step -/
set_option maxRecDepth 100000 in
set_option maxHeartbeats 3200000 in
theorem sstep_nil (w : World) : Calls Try.prog 78 #[.pointer none] w (RetB (.tuple #[.int .i64 0, .bool false]) w) := by
  go_enter Try.func78, Try.ntmps78
  go_upto_region 1 with fail
  refine wp_region_held_drew (S := fun _ => True) (by kernel_rfl) trivial (fun hh => ?_)
  have HH := Lib.hid hh
  clear hh
  refine wpAnyH_take (i := 0) (v := ?vN0) rfl (by kernel_rfl) (by kernel_rfl) (by kernel_rfl) (fun _ _ _ h => h) (Or.inl ⟨by rfl, fun w' _ => ?yN0⟩) HH.out ?_
  case yN0 => (go_simp; try with_reducible rfl)
  refine wpAnyH_take (i := 1) (v := ?vN1) rfl (by kernel_rfl) (by kernel_rfl) (by kernel_rfl) (fun _ _ _ h => h) (Or.inl ⟨by rfl, fun w' _ => ?yN1⟩) HH.out ?_
  case yN1 => (go_simp; try with_reducible rfl)
  try simp only [List.getElem_toArray, List.getElem_cons_succ, List.getElem_cons_zero, Act.put, List.setIfInBounds_toArray, List.set_cons_zero, List.set_cons_succ]
  refine wpAnyH_take (i := 2) (v := ?vN2) rfl (by kernel_rfl) (by kernel_rfl) (by kernel_rfl) (fun _ _ _ h => h) (Or.inl ⟨by rfl, fun w' _ => ?yN2⟩) HH.out ?_
  case yN2 => (go_simp; try with_reducible rfl)
  refine wpAnyH_take (i := 3) (v := undef) rfl (by kernel_rfl) (by kernel_rfl) (by kernel_rfl) (fun _ _ _ h => h) (Or.inr ⟨by rfl, rfl⟩) HH.out ?_
  refine wpAnyH_take (i := 4) (v := undef) rfl (by kernel_rfl) (by kernel_rfl) (by kernel_rfl) (fun _ _ _ h => h) (Or.inr ⟨by rfl, rfl⟩) HH.out ?_
  try simp only [List.getElem_toArray, List.getElem_cons_succ, List.getElem_cons_zero, Act.put, List.setIfInBounds_toArray, List.set_cons_zero, List.set_cons_succ]
  refine wpAnyH_take (i := 5) (v := undef) rfl (by kernel_rfl) (by kernel_rfl) (by kernel_rfl) (fun _ _ _ h => h) (Or.inr ⟨by rfl, rfl⟩) HH.out ?_
  refine wpAnyH_take (i := 6) (v := undef) rfl (by kernel_rfl) (by kernel_rfl) (by kernel_rfl) (fun _ _ _ h => h) (Or.inr ⟨by rfl, rfl⟩) HH.out ?_
  refine wpAnyH_take (i := 7) (v := undef) rfl (by kernel_rfl) (by kernel_rfl) (by kernel_rfl) (fun _ _ _ h => h) (Or.inr ⟨by rfl, rfl⟩) HH.out ?_
  try simp only [List.getElem_toArray, List.getElem_cons_succ, List.getElem_cons_zero, Act.put, List.setIfInBounds_toArray, List.set_cons_zero, List.set_cons_succ]
  refine wpAnyH_take (i := 8) (v := undef) rfl (by kernel_rfl) (by kernel_rfl) (by kernel_rfl) (fun _ _ _ h => h) (Or.inr ⟨by rfl, rfl⟩) HH.out ?_
  refine wpAnyH_take (i := 9) (v := undef) rfl (by kernel_rfl) (by kernel_rfl) (by kernel_rfl) (fun _ _ _ h => h) (Or.inr ⟨by rfl, rfl⟩) HH.out ?_
  refine wpAnyH_take (i := 10) (v := undef) rfl (by kernel_rfl) (by kernel_rfl) (by kernel_rfl) (fun _ _ _ h => h) (Or.inr ⟨by rfl, rfl⟩) HH.out ?_
  try simp only [List.getElem_toArray, List.getElem_cons_succ, List.getElem_cons_zero, Act.put, List.setIfInBounds_toArray, List.set_cons_zero, List.set_cons_succ]
  refine wpAnyH_take (i := 11) (v := undef) rfl (by kernel_rfl) (by kernel_rfl) (by kernel_rfl) (fun _ _ _ h => h) (Or.inr ⟨by rfl, rfl⟩) HH.out ?_
  refine wpAnyH_take (i := 12) (v := undef) rfl (by kernel_rfl) (by kernel_rfl) (by kernel_rfl) (fun _ _ _ h => h) (Or.inr ⟨by rfl, rfl⟩) HH.out ?_
  refine wpAnyH_take (i := 13) (v := ?vN13) rfl (by kernel_rfl) (by kernel_rfl) (by kernel_rfl) (fun _ _ _ h => h) (Or.inl ⟨by rfl, fun w' _ => ?yN13⟩) HH.out ?_
  case yN13 => (go_simp; try with_reducible rfl)
  try simp only [List.getElem_toArray, List.getElem_cons_succ, List.getElem_cons_zero, Act.put, List.setIfInBounds_toArray, List.set_cons_zero, List.set_cons_succ]
  refine wpAnyH_done (by kernel_rfl) ?_ _
  go_wp2_with fail
  exact bodyPost_ret (results_tmp2 Try.results78 _ _ _) rfl ⟨rfl, (Below.refl _ _).drew⟩
/-- All places were scrubbed. -/
theorem wk_cell0 {w : World} {q : Nat} {P : Option Addr} {x : Wk} (h : Blk w q (x.cells P) 197) : w.cell? ⟨q, 0, none⟩ = some (.pointer P) := h.cell 0
theorem wk_cell1 {w : World} {q : Nat} {P : Option Addr} {x : Wk} (h : Blk w q (x.cells P) 197) : w.cell? ⟨q, 1, none⟩ = some (.int .i64 x.n) := h.cell 1
set_option maxRecDepth 100000 in
set_option maxHeartbeats 3200000 in
theorem sstep_end {w : World} {q n : Nat} {P : Option Addr} {x : Wk} (hb : Blk w q (x.cells P) 197) (hl : ∀ w', Below w.heap.size w w' → Calls Try.prog 77 #[.pointer P] w' (RetB (.int .i64 n) w')) (hn : n ≤ x.n) : Calls Try.prog 78 #[.pointer (some ⟨q, 0, none⟩)] w (RetB (.tuple #[.int .i64 0, .bool false]) w) := by
  have HL := Lib.hid hl
  have n1 : ((x.n : Int) ≥ (n : Int)) := by omega
  have HB := Lib.hid hb
  clear hl hn hb
  go_enter Try.func78, Try.ntmps78
  go_upto_region 1 with fail
  refine wp_region_held_drew (S := fun w' => Blk w' q (x.cells P) 197) (by kernel_rfl) (HB.out.drewN 1) (fun hh => ?_)
  have HH := Lib.hid hh
  clear hh
  refine wpAnyH_take (i := 0) (v := ?vE0) rfl (by kernel_rfl) (by kernel_rfl) (by kernel_rfl) (fun _ _ _ h => h) (Or.inl ⟨by rfl, fun w' _ => ?yE0⟩) HH.out ?_
  case yE0 => (go_simp; try with_reducible rfl)
  refine wpAnyH_take (i := 1) (v := ?vE1) rfl (by kernel_rfl) (by kernel_rfl) (by kernel_rfl) (fun _ _ _ h => h) (Or.inl ⟨by rfl, fun w' _ => ?yE1⟩) HH.out ?_
  case yE1 => (go_simp; try with_reducible rfl)
  try simp only [List.getElem_toArray, List.getElem_cons_succ, List.getElem_cons_zero, Act.put, List.setIfInBounds_toArray, List.set_cons_zero, List.set_cons_succ]
  refine wpAnyH_take (i := 2) (v := ?vE2) rfl (by kernel_rfl) (by kernel_rfl) (by kernel_rfl) (fun _ _ _ h => h) (Or.inl ⟨by rfl, fun w' _ => ?yE2⟩) HH.out ?_
  case yE2 => (go_simp; try with_reducible rfl)
  try simp only [List.getElem_toArray, List.getElem_cons_succ, List.getElem_cons_zero, Act.put, List.setIfInBounds_toArray, List.set_cons_zero, List.set_cons_succ]
  refine wpAnyH_take (i := 3) (v := ?vE3) rfl (by kernel_rfl) (by kernel_rfl) (by kernel_rfl) (fun _ _ _ h => h) (Or.inl ⟨by rfl, fun w' _ => ?yE3⟩) HH.out ?_
  case yE3 => (go_simp; try with_reducible rfl)
  try simp only [List.getElem_toArray, List.getElem_cons_succ, List.getElem_cons_zero, Act.put, List.setIfInBounds_toArray, List.set_cons_zero, List.set_cons_succ]
  refine wpAnyH_take (i := 4) (v := ?vE4) rfl (by kernel_rfl) (by kernel_rfl) (by kernel_rfl) (fun _ _ _ h => h) (Or.inl ⟨by rfl, fun w' _ => ?yE4⟩) HH.out ?_
  case yE4 => (go_simp; try with_reducible rfl)
  try simp only [List.getElem_toArray, List.getElem_cons_succ, List.getElem_cons_zero, Act.put, List.setIfInBounds_toArray, List.set_cons_zero, List.set_cons_succ]
  refine wpAnyH_take (i := 5) (v := ?vE5) rfl (by kernel_rfl) (by kernel_rfl) (by kernel_rfl) (fun _ _ _ h => h) (Or.inl ⟨by rfl, fun w' _ => ?yE5⟩) HH.out ?_
  case yE5 => (go_simp; try with_reducible rfl)
  refine wpAnyH_take (i := 6) (v := .int .i64 x.n) rfl (by kernel_rfl) (by kernel_rfl) (by kernel_rfl) (fun _ _ _ h => h) (Or.inl ⟨by rfl, fun w' hw' => ?yE6⟩) HH.out ?_
  case yE6 => (have hc := wk_cell1 hw'; go_simp; try with_reducible rfl)
  try simp only [List.getElem_toArray, List.getElem_cons_succ, List.getElem_cons_zero, Act.put, List.setIfInBounds_toArray, List.set_cons_zero, List.set_cons_succ]
  refine wpAnyH_take (i := 7) (v := ?vE7) rfl (by kernel_rfl) (by kernel_rfl) (by kernel_rfl) (fun _ _ _ h => h) (Or.inl ⟨by rfl, fun w' _ => ?yE7⟩) HH.out ?_
  case yE7 => (go_simp; try with_reducible rfl)
  try simp only [List.getElem_toArray, List.getElem_cons_succ, List.getElem_cons_zero, Act.put, List.setIfInBounds_toArray, List.set_cons_zero, List.set_cons_succ]
  refine wpAnyH_take (i := 8) (v := ?vE8) rfl (by kernel_rfl) (by kernel_rfl) (by kernel_rfl) (fun _ _ _ h => h) (Or.inl ⟨by rfl, fun w' _ => ?yE8⟩) HH.out ?_
  case yE8 => (go_simp; try with_reducible rfl)
  try simp only [List.getElem_toArray, List.getElem_cons_succ, List.getElem_cons_zero, Act.put, List.setIfInBounds_toArray, List.set_cons_zero, List.set_cons_succ]
  refine wpAnyH_take (i := 9) (v := ?vE9) rfl (by kernel_rfl) (by kernel_rfl) (by kernel_rfl) (fun _ _ _ h => h) (Or.inl ⟨by rfl, fun w' _ => ?yE9⟩) HH.out ?_
  case yE9 => (go_simp; try with_reducible rfl)
  refine wpAnyH_take (i := 10) (v := .pointer P) rfl (by kernel_rfl) (by kernel_rfl) (by kernel_rfl) (fun _ _ _ h => h) (Or.inl ⟨by rfl, fun w' hw' => ?yE10⟩) HH.out ?_
  case yE10 => (have hc := wk_cell0 hw'; go_simp; try with_reducible rfl)
  try simp only [List.getElem_toArray, List.getElem_cons_succ, List.getElem_cons_zero, Act.put, List.setIfInBounds_toArray, List.set_cons_zero, List.set_cons_succ]
  refine wpAnyH_ready (rs := [11]) (by kernel_rfl) (by simp) (AllReadyH.cons rfl (fun K hK => ?_) AllReadyH.nil)
  go_simp
  refine (HL.out _ (Below.refl _ _).drew).mono ?_
  rintro e w2 ⟨rfl, bw⟩
  have B2 := Lib.hid (show Below w.heap.size w w2 from (Below.refl w.heap.size w).drew.trans bw)
  go_simp
  refine hK.out _ _ (HB.out.below B2.out) (fun hh => ?_)
  have HH' := Lib.hid hh
  clear hh hK K HH bw
  have HH := Lib.hid HH'.out
  clear HH'
  refine wpAnyH_take (i := 12) (v := .bool true) rfl (by kernel_rfl) (by kernel_rfl) (by kernel_rfl) (fun _ _ _ h => h) (Or.inl ⟨by rfl, fun w' hw' => ?yE12⟩) HH.out ?_
  case yE12 => (go_simp; try rfl)
  refine wpAnyH_take (i := 13) (v := ?vE13) rfl (by kernel_rfl) (by kernel_rfl) (by kernel_rfl) (fun _ _ _ h => h) (Or.inl ⟨by rfl, fun w' _ => ?yE13⟩) HH.out ?_
  case yE13 => (go_simp; try with_reducible rfl)
  try simp only [List.getElem_toArray, List.getElem_cons_succ, List.getElem_cons_zero, Act.put, List.setIfInBounds_toArray, List.set_cons_zero, List.set_cons_succ]
  refine wpAnyH_done (by kernel_rfl) ?_ _
  go_wp2_with fail
  exact bodyPost_ret (results_tmp2 Try.results78 _ _ _) rfl ⟨rfl, B2.out⟩
section
variable {C : Duo} {G : Gd} {g q : Nat} {w : World} {F : Nat → Prop}
theorem heal_kind (s : Mr C) (n : Int) : (s.heal G n).1.2 = 0 → (s.heal G n).1.1 = 0 ∨ (s.heal G n).1.1 = 1 ∨ (s.heal G n).1.1 = 2 := by
  have ht : ∀ i k x, (s.healTo i k x).1.2 = 0 → (s.healTo i k x).1.1 = 0 ∨ (s.healTo i k x).1.1 = 1 ∨ (s.healTo i k x).1.1 = 2 := fun i k x => by
    unfold Mr.healTo; dsimp only; split
    · exact fun _ => .inr (.inl rfl)
    · exact fun _ => .inl rfl
  unfold Mr.heal
  split
  · split
    · split
      · split
        · split
          · exact fun _ => .inl rfl
          · exact ht _ _ _
        · exact ht _ _ _
      · split
        · exact ht _ _ _
        · exact fun _ => .inr (.inr rfl)
    · exact fun h => by cases h
  · exact fun h => by cases h
theorem heal_okk {s : Mr C} {k : Nat} (h : s.ok k) (n : Int) : (s.heal G n).2.ok k := by
  unfold Mr.heal
  (repeat' split) <;> first | exact h | exact mend_ok h
theorem heal_most (s : Mr C) (n : Int) : C.most (s.heal G n).2.d ≤ C.most s.d + 1 := by
  unfold Mr.heal
  (repeat' split) <;> first | exact Nat.le_succ _ | exact mend_most (by omega)
/-- A step of a walk: what it counts. -/
def Wk.step (x : Wk) (r : Int × Int) : Wk := if r.2 = 0 then ({ x with n := x.n + 1 } : Wk).add r.1 else { x with n := x.n + 1 }
/-- What Step tells, and makes of both. -/
def stepN (G : Gd) (s : Mr C × Wk) : (Int × Bool) × (Mr C × Wk) :=
  if s.1.a.length ≤ s.2.n then ((0, false), s) else ((s.2.n, true), ((s.1.heal G s.2.n).2, s.2.step (s.1.heal G s.2.n).1))
def Wk.small (x : Wk) : Prop := x.n < 100000 ∧ x.r < 100000 ∧ x.h < 100000 ∧ x.l < 100000
def tupS (x : Int × Bool) : Value := .tuple #[.int .i64 x.1, .bool x.2]
set_option maxRecDepth 100000 in
set_option maxHeartbeats 6400000 in
theorem sstep_any {s : Mr C × Wk} (h : (WL (ML C G g) (some ⟨g, 0, none⟩) q).At w s F) {k : Nat} (hk : s.1.ok k) (hm : C.most s.1.d < 900000) (hx : s.2.small) :
    Calls Try.prog 78 #[.pointer (some ⟨q, 0, none⟩)] w (RetA (WL (ML C G g) (some ⟨g, 0, none⟩) q) (tupS (stepN G s).1) (stepN G s).2 F w) := by
  by_cases hn : s.1.a.length ≤ s.2.n
  · rw [stepN, if_pos hn]
    obtain ⟨F1, h1, h2, _⟩ := wl_in h
    exact (sstep_end h2 (fun w' hb => mlen_any ((ML C G g).below h1 hb)) hn).mono fun _ _ hr => RetB.reta h hr
  · obtain ⟨s, x⟩ := s
    obtain ⟨n, hnn⟩ : ∃ n, n = s.a.length := ⟨_, rfl⟩
    have n1 : ¬ ((x.n : Int) ≥ (n : Int)) := by have : ¬ s.a.length ≤ x.n := hn; omega
    have HL := Lib.hid (show ∀ w F, (WL (ML C G g) (some ⟨g, 0, none⟩) q).At w (s, x) F → Calls Try.prog 77 #[.pointer (some ⟨g, 0, none⟩)] w (RetB (.int .i64 n) w) from fun w F h => by
      obtain ⟨F1, h1, _⟩ := wl_in h
      rw [hnn]; exact mlen_any h1)
    obtain ⟨r, hr⟩ : ∃ r, r = (s.heal G x.n).1 := ⟨_, rfl⟩
    obtain ⟨s2, hs2⟩ : ∃ s2, s2 = (s.heal G x.n).2 := ⟨_, rfl⟩
    have HHE := Lib.hid (show ∀ w F y, (WL (ML C G g) (some ⟨g, 0, none⟩) q).At w (s, y) F → Calls Try.prog 116 #[.pointer (some ⟨g, 0, none⟩), .int .i64 x.n] w (RetA (WL (ML C G g) (some ⟨g, 0, none⟩) q) (tup2 r) (s2, y) F w) from fun w F y h => by
      obtain ⟨F1, h1, _, hl⟩ := wl_in h
      rw [hr, hs2]
      refine (heal_any h1 hk (x.n : Int) (Nat.lt_trans hm (by omega))).mono ?_
      rintro e w' ⟨rfl, F2, h3⟩
      exact ⟨rfl, _, hl h3⟩)
    have HK := Lib.hid (show r.2 = 0 → r.1 = 0 ∨ r.1 = 1 ∨ r.1 = 2 by rw [hr]; exact heal_kind s x.n)
    have HV := Lib.hid (show stepN G (s, x) = (((x.n : Int), true), (s2, x.step r)) by rw [stepN, if_neg hn, hr, hs2])
    rw [HV.out]
    suffices key : ∀ sv : (WL (ML C G g) (some ⟨g, 0, none⟩) q).St, sv = (s2, x.step r) → Calls Try.prog 78 #[.pointer (some ⟨q, 0, none⟩)] w (RetA (WL (ML C G g) (some ⟨g, 0, none⟩) q) (tupS ((x.n : Int), true)) sv F w) from key _ rfl
    intro sv hsv
    have HSV := Lib.hid hsv
    clear hsv
    have HX := Lib.hid hx
    have M0 := Lib.hid (Mv.start h)
    have w1 : IntKind.i64.wrap ((x.n : Int) + 1) = (x.n : Int) + 1 := IntWalk.i64_in _ (by have : x.n < 100000 := hx.1; omega)
    obtain ⟨ra, re⟩ := r
    have HHE := Lib.hid (show ∀ w F y, (WL (ML C G g) (some ⟨g, 0, none⟩) q).At w (s, y) F → Calls Try.prog 116 #[.pointer (some ⟨g, 0, none⟩), .int .i64 x.n] w (RetA (WL (ML C G g) (some ⟨g, 0, none⟩) q) (.tuple #[.int .i64 ra, .int .i64 re]) (s2, y) F w) from HHE.out)
    clear hr hs2 hnn hn h hx hk hm HV
    go_enter Try.func78, Try.ntmps78
    go_upto_region 1 with fail
    refine wp_region_held_drew (S := fun w' => Blk w' q (x.cells (some ⟨g, 0, none⟩)) 197) (by kernel_rfl) ((wl_blk M0.out.at_).drewN 1) (fun hh => ?_)
    have HH := Lib.hid hh
    clear hh
    refine wpAnyH_take (i := 0) (v := ?vF0) rfl (by kernel_rfl) (by kernel_rfl) (by kernel_rfl) (fun _ _ _ h => h) (Or.inl ⟨by rfl, fun w' _ => ?yF0⟩) HH.out ?_
    case yF0 => (go_simp; try with_reducible rfl)
    refine wpAnyH_take (i := 1) (v := ?vF1) rfl (by kernel_rfl) (by kernel_rfl) (by kernel_rfl) (fun _ _ _ h => h) (Or.inl ⟨by rfl, fun w' _ => ?yF1⟩) HH.out ?_
    case yF1 => (go_simp; try with_reducible rfl)
    try simp only [List.getElem_toArray, List.getElem_cons_succ, List.getElem_cons_zero, Act.put, List.setIfInBounds_toArray, List.set_cons_zero, List.set_cons_succ]
    refine wpAnyH_take (i := 2) (v := ?vF2) rfl (by kernel_rfl) (by kernel_rfl) (by kernel_rfl) (fun _ _ _ h => h) (Or.inl ⟨by rfl, fun w' _ => ?yF2⟩) HH.out ?_
    case yF2 => (go_simp; try with_reducible rfl)
    try simp only [List.getElem_toArray, List.getElem_cons_succ, List.getElem_cons_zero, Act.put, List.setIfInBounds_toArray, List.set_cons_zero, List.set_cons_succ]
    refine wpAnyH_take (i := 3) (v := ?vF3) rfl (by kernel_rfl) (by kernel_rfl) (by kernel_rfl) (fun _ _ _ h => h) (Or.inl ⟨by rfl, fun w' _ => ?yF3⟩) HH.out ?_
    case yF3 => (go_simp; try with_reducible rfl)
    try simp only [List.getElem_toArray, List.getElem_cons_succ, List.getElem_cons_zero, Act.put, List.setIfInBounds_toArray, List.set_cons_zero, List.set_cons_succ]
    refine wpAnyH_take (i := 4) (v := ?vF4) rfl (by kernel_rfl) (by kernel_rfl) (by kernel_rfl) (fun _ _ _ h => h) (Or.inl ⟨by rfl, fun w' _ => ?yF4⟩) HH.out ?_
    case yF4 => (go_simp; try with_reducible rfl)
    try simp only [List.getElem_toArray, List.getElem_cons_succ, List.getElem_cons_zero, Act.put, List.setIfInBounds_toArray, List.set_cons_zero, List.set_cons_succ]
    refine wpAnyH_take (i := 5) (v := ?vF5) rfl (by kernel_rfl) (by kernel_rfl) (by kernel_rfl) (fun _ _ _ h => h) (Or.inl ⟨by rfl, fun w' _ => ?yF5⟩) HH.out ?_
    case yF5 => (go_simp; try with_reducible rfl)
    refine wpAnyH_take (i := 6) (v := .int .i64 x.n) rfl (by kernel_rfl) (by kernel_rfl) (by kernel_rfl) (fun _ _ _ h => h) (Or.inl ⟨by rfl, fun w' hw' => ?yF6⟩) HH.out ?_
    case yF6 => (have hc := wk_cell1 hw'; go_simp; try with_reducible rfl)
    try simp only [List.getElem_toArray, List.getElem_cons_succ, List.getElem_cons_zero, Act.put, List.setIfInBounds_toArray, List.set_cons_zero, List.set_cons_succ]
    refine wpAnyH_take (i := 7) (v := ?vF7) rfl (by kernel_rfl) (by kernel_rfl) (by kernel_rfl) (fun _ _ _ h => h) (Or.inl ⟨by rfl, fun w' _ => ?yF7⟩) HH.out ?_
    case yF7 => (go_simp; try with_reducible rfl)
    try simp only [List.getElem_toArray, List.getElem_cons_succ, List.getElem_cons_zero, Act.put, List.setIfInBounds_toArray, List.set_cons_zero, List.set_cons_succ]
    refine wpAnyH_take (i := 8) (v := ?vF8) rfl (by kernel_rfl) (by kernel_rfl) (by kernel_rfl) (fun _ _ _ h => h) (Or.inl ⟨by rfl, fun w' _ => ?yF8⟩) HH.out ?_
    case yF8 => (go_simp; try with_reducible rfl)
    try simp only [List.getElem_toArray, List.getElem_cons_succ, List.getElem_cons_zero, Act.put, List.setIfInBounds_toArray, List.set_cons_zero, List.set_cons_succ]
    refine wpAnyH_take (i := 9) (v := ?vF9) rfl (by kernel_rfl) (by kernel_rfl) (by kernel_rfl) (fun _ _ _ h => h) (Or.inl ⟨by rfl, fun w' _ => ?yF9⟩) HH.out ?_
    case yF9 => (go_simp; try with_reducible rfl)
    refine wpAnyH_take (i := 10) (v := .pointer (some ⟨g, 0, none⟩)) rfl (by kernel_rfl) (by kernel_rfl) (by kernel_rfl) (fun _ _ _ h => h) (Or.inl ⟨by rfl, fun w' hw' => ?yF10⟩) HH.out ?_
    case yF10 => (have hc := wk_cell0 hw'; go_simp; try with_reducible rfl)
    try simp only [List.getElem_toArray, List.getElem_cons_succ, List.getElem_cons_zero, Act.put, List.setIfInBounds_toArray, List.set_cons_zero, List.set_cons_succ]
    refine wpAnyH_ready (rs := [11]) (by kernel_rfl) (by simp) (AllReadyH.cons rfl (fun K hK => ?_) AllReadyH.nil)
    go_simp
    refine (HL.out _ _ (M0.out.below (Below.refl _ _).drew).at_).mono ?_
    rintro e w2 ⟨rfl, bw⟩
    have M2 := Lib.hid ((M0.out.below (Below.refl w.heap.size w).drew).below bw)
    go_simp
    refine hK.out _ _ (wl_blk M2.out.at_) (fun hh => ?_)
    have HH' := Lib.hid hh
    clear hh hK K HH bw M0
    have HH := Lib.hid HH'.out
    clear HH'
    refine wpAnyH_take (i := 12) (v := .bool false) rfl (by kernel_rfl) (by kernel_rfl) (by kernel_rfl) (fun _ _ _ h => h) (Or.inl ⟨by rfl, fun w' hw' => ?yF12⟩) HH.out ?_
    case yF12 => (go_simp; try rfl)
    refine wpAnyH_take (i := 13) (v := ?vF13) rfl (by kernel_rfl) (by kernel_rfl) (by kernel_rfl) (fun _ _ _ h => h) (Or.inl ⟨by rfl, fun w' _ => ?yF13⟩) HH.out ?_
    case yF13 => (go_simp; try with_reducible rfl)
    try simp only [List.getElem_toArray, List.getElem_cons_succ, List.getElem_cons_zero, Act.put, List.setIfInBounds_toArray, List.set_cons_zero, List.set_cons_succ]
    refine wpAnyH_done (by kernel_rfl) ?_ _
    have hc0 := wk_cell0 (wl_blk M2.out.at_)
    have hc1 := wk_cell1 (wl_blk M2.out.at_)
    have hf1 := (wl_blk M2.out.at_).free 1
    go_upto_region 5 with fail
    obtain ⟨wn, hwn⟩ : ∃ wn, wn = w2.setCell ⟨q, 1, none⟩ (.int .i64 ((x.n : Int) + 1)) := ⟨_, rfl⟩
    have hbn : Blk wn q (({ x with n := x.n + 1 } : Wk).cells (some ⟨g, 0, none⟩)) 197 := by rw [hwn]; exact walk_set (wl_blk M2.out.at_) 1 _ (by simp [Wk.cells])
    have M3 := Lib.hid (M2.out.trans (wl_own M2.out.at_ (by rw [hwn]; exact but_one _) hbn))
    rw [← hwn]
    have hc0 := wk_cell0 hbn
    clear hwn hbn hc1 hf1 M2
    go_wp2_with fail
    refine (HHE.out _ _ _ M3.out.at_).mono ?_
    rintro e w5 ⟨rfl, F5, h5⟩
    have M5 := Lib.hid (M3.out.trans h5)
    clear h5 M3 hc0
    by_cases hre : re = 0
    · subst hre
      have HKK := HK.out rfl
      have HS := Lib.hid (show x.step (ra, 0) = ({ x with n := x.n + 1 } : Wk).add ra by rw [Wk.step, if_pos rfl])
      go_wp2_with fail
      refine (scount_any (wl_blk M5.out.at_) ⟨by have : x.r < 100000 := HX.out.2.1; show x.r < 1000000; omega, by have : x.h < 100000 := HX.out.2.2.1; show x.h < 1000000; omega, by have : x.l < 100000 := HX.out.2.2.2; show x.l < 1000000; omega⟩ ra HKK).mono ?_
      rintro e w6 ⟨rfl, hb6, ht6⟩
      have M6 := Lib.hid (M5.out.trans (wl_own M5.out.at_ ht6 hb6))
      clear hb6 ht6 M5
      go_wp2_with fail
      exact bodyPost_ret (results_tmp2 Try.results78 _ _ _) rfl ⟨rfl, _, by rw [HSV.out, HS.out]; exact M6.out⟩
    · have HS := Lib.hid (show x.step (ra, re) = ({ x with n := x.n + 1 } : Wk) by rw [Wk.step, if_neg hre])
      go_wp2_with fail
      exact bodyPost_ret (results_tmp2 Try.results78 _ _ _) rfl ⟨rfl, _, by rw [HSV.out, HS.out]; exact M5.out⟩
end
end Go.Proofs.Ytnplhagfmfggcaa.Sc
/-
  The contract of All.
-/
namespace Go.Proofs.Ytnplhagfmfggcaa.Sc
open Go.RowKit Kd Mi
attribute [local go_sem ↓] Go.wp_at_zero Go.wp_at_succ
section
variable {C : Duo} {G : Gd} {g q : Nat} {w : World} {F : Nat → Prop}
/-- k steps. -/
def runN (G : Gd) (s : Mr C × Wk) : Nat → Mr C × Wk
  | 0 => s
  | k + 1 => (stepN G (runN G s k)).2
theorem step_okk {s : Mr C × Wk} {n : Nat} (h : s.1.ok n) : (stepN G s).2.1.ok n := by
  unfold stepN; split
  · exact h
  · exact heal_okk h _
theorem run_okk {s : Mr C × Wk} {n : Nat} (h : s.1.ok n) : ∀ k, (runN G s k).1.ok n
  | 0 => h
  | k + 1 => step_okk (run_okk h k)
theorem step_most (s : Mr C × Wk) : C.most (stepN G s).2.1.d ≤ C.most s.1.d + 1 := by
  unfold stepN; split
  · exact Nat.le_succ _
  · exact heal_most _ _
theorem run_most (s : Mr C × Wk) : ∀ k, C.most (runN G s k).1.d ≤ C.most s.1.d + k
  | 0 => Nat.le_refl _
  | k + 1 => by have h1 := run_most s k; have h2 := step_most (G := G) (runN G s k); show C.most (stepN G (runN G s k)).2.1.d ≤ _; omega
theorem add_few (x : Wk) (r : Int) {k : Nat} (h : x.n ≤ k + 1 ∧ x.r ≤ k ∧ x.h ≤ k ∧ x.l ≤ k) : (x.add r).n ≤ k + 1 ∧ (x.add r).r ≤ k + 1 ∧ (x.add r).h ≤ k + 1 ∧ (x.add r).l ≤ k + 1 := by
  unfold Wk.add; split
  · exact ⟨h.1, by show x.r + 1 ≤ _; omega, by show x.h ≤ _; omega, by show x.l ≤ _; omega⟩
  · split
    · exact ⟨h.1, by show x.r ≤ _; omega, by show x.h + 1 ≤ _; omega, by show x.l ≤ _; omega⟩
    · exact ⟨h.1, by show x.r ≤ _; omega, by show x.h ≤ _; omega, by show x.l + 1 ≤ _; omega⟩
theorem step_few (s : Mr C × Wk) {k : Nat} (h : s.2.n ≤ k ∧ s.2.r ≤ k ∧ s.2.h ≤ k ∧ s.2.l ≤ k) : (stepN G s).2.2.n ≤ k + 1 ∧ (stepN G s).2.2.r ≤ k + 1 ∧ (stepN G s).2.2.h ≤ k + 1 ∧ (stepN G s).2.2.l ≤ k + 1 := by
  unfold stepN; split
  · exact ⟨by show s.2.n ≤ _; omega, by show s.2.r ≤ _; omega, by show s.2.h ≤ _; omega, by show s.2.l ≤ _; omega⟩
  · show (s.2.step _).n ≤ _ ∧ (s.2.step _).r ≤ _ ∧ (s.2.step _).h ≤ _ ∧ (s.2.step _).l ≤ _
    unfold Wk.step; split
    · exact add_few _ _ ⟨by show s.2.n + 1 ≤ _; omega, h.2⟩
    · exact ⟨by show s.2.n + 1 ≤ _; omega, by show s.2.r ≤ _; omega, by show s.2.h ≤ _; omega, by show s.2.l ≤ _; omega⟩
theorem run_few (s : Mr C) : ∀ k, (runN G (s, Wk.zero) k).2.n ≤ k ∧ (runN G (s, Wk.zero) k).2.r ≤ k ∧ (runN G (s, Wk.zero) k).2.h ≤ k ∧ (runN G (s, Wk.zero) k).2.l ≤ k
  | 0 => ⟨Nat.le_refl _, Nat.le_refl _, Nat.le_refl _, Nat.le_refl _⟩
  | k + 1 => step_few _ (run_few s k)
/-- What All makes of a mirror, and tells. -/
def allN (G : Gd) (s : Mr C) (n : Nat) : Mr C × Wk := runN G (s, Wk.zero) n
set_option maxRecDepth 100000 in
set_option maxHeartbeats 6400000 in
theorem sall_nil (w : World) : Calls Try.prog 27 #[.pointer none] w (RetB (.agg Wk.zero.rep) w) := by
  obtain ⟨w1, hw1⟩ : ∃ w1, w1 = w.alloc (.cells #[.int .i64 0, .int .i64 0, .int .i64 0] 57) := ⟨_, rfl⟩
  have B1 := Lib.hid (show Below w.heap.size w w1 by rw [hw1]; exact (Below.refl _ _).alloc (Nat.le_refl _) _)
  have R1 := Lib.hid (show Blk w1 w.heap.size #[.int .i64 0, .int .i64 0, .int .i64 0] 57 by rw [hw1]; exact heap_alloc_new _ _)
  go_enter Try.func27, Try.ntmps27
  go_upto_region 1 with fail
  rw [← hw1]
  clear hw1
  go_wp2_with fail
  refine (snew_any w1 none).mono ?_
  rintro e w2 ⟨q, rfl, hq, hx, bw⟩
  have B2 := Lib.hid (B1.out.trans (bw.mono B1.out.size))
  have R2 := Lib.hid (R1.out.below bw)
  have X2 := Lib.hid hx
  clear hq hx bw B1 R1
  go_wp2_with fail
  refine (mlen_nil w2).mono ?_
  rintro e w3 ⟨rfl, bw⟩
  have B3 := Lib.hid (B2.out.trans (bw.mono B2.out.size))
  have R3 := Lib.hid (R2.out.below bw)
  have X3 := Lib.hid (X2.out.below bw)
  clear bw B2 R2 X2
  go_wp2_with fail
  go_loopw [8] (fun i wr => i = .int .i64 0 ∧ wr = w3) (fun _ _ => 0)
  case atStart => exact ⟨rfl, rfl⟩
  case round =>
    obtain ⟨rfl, rfl⟩ := hrel
    go_wp2_with fail
    refine (sreport_any X3.out).mono ?_
    rintro e w4 ⟨rfl, bw⟩
    have B4 := Lib.hid (B3.out.trans (bw.mono B3.out.size))
    have R4 := Lib.hid (R3.out.below bw)
    clear bw B3 R3 X3
    go_wp2_with (first
      | (refine wpList_store_row rfl 57 (.tmp 2) (.tmp 14) rfl w.heap.size Wk.zero.rep rfl rfl 57 #[.int .i64 0, .int .i64 0, .int .i64 0] R4.out wk_info rfl (by simp [Wk.rep, Value.oneCell']) ?_))
    exact bodyPost_ret (v := .agg Wk.zero.rep) (results_cell_row Try.results27 _ _ w.heap.size 57 Wk.zero.rep (0, 0) _ rfl (setRow_heap _ _ _ _ _ _ R4.out) Try.underlying57 rfl wk_info) rfl ⟨rfl, below_setRow B4.out (Nat.le_refl _) _⟩
set_option maxRecDepth 100000 in
set_option maxHeartbeats 6400000 in
theorem sall_any {s : Mr C} (h : (ML C G g).At w s F) {n : Nat} (hk : s.ok n) (hn : n ≤ 5000) (hm : C.most s.d < 800000) :
    Calls Try.prog 27 #[.pointer (some ⟨g, 0, none⟩)] w (RetA (ML C G g) (.agg (allN G s n).2.rep) (allN G s n).1 F w) := by
  obtain ⟨w1, hw1⟩ : ∃ w1, w1 = w.alloc (.cells #[.int .i64 0, .int .i64 0, .int .i64 0] 57) := ⟨_, rfl⟩
  have M1 := Lib.hid (show Mv (ML C G g) w F w1 s F from (Mv.start h).below (by rw [hw1]; exact (Below.refl _ _).alloc (Nat.le_refl _) _))
  have R1 := Lib.hid (show Blk w1 w.heap.size #[.int .i64 0, .int .i64 0, .int .i64 0] 57 by rw [hw1]; exact heap_alloc_new _ _)
  have HN := Lib.hid hn
  have HM := Lib.hid hm
  have HLN := Lib.hid (show s.a.length = n from hk.1)
  have HOK := Lib.hid hk
  have HF := Lib.hid ((ML C G g).lt h)
  clear hn hm hk h
  go_enter Try.func27, Try.ntmps27
  go_upto_region 1 with fail
  rw [← hw1]
  clear hw1
  obtain ⟨b, hb⟩ : ∃ b, b = w.heap.size := ⟨_, rfl⟩
  have BX1 := Lib.hid (show Bx w w1 F b #[.int .i64 0, .int .i64 0, .int .i64 0] 57 from ⟨by rw [hb]; exact R1.out, by rw [hb]; exact Nat.le_refl _, fun hf => by have := HF.out b hf; omega⟩)
  rw [← hb]
  clear hb R1 HF
  go_wp2_with fail
  refine (snew_any w1 (some ⟨g, 0, none⟩)).mono ?_
  rintro e w2 ⟨q, rfl, hq, hx, bw⟩
  have HQ := Lib.hid (show w.heap.size ≤ q from Nat.le_trans M1.out.size hq)
  have HQB := Lib.hid (show b ≠ q by have := BX1.out.1.lt; omega)
  have X2 := Lib.hid hx
  have M2 := Lib.hid (M1.out.below bw)
  have BX2 := Lib.hid (BX1.out.below bw)
  have HQF := Lib.hid (show ¬ F q from fun hf => by have := M1.out.lt q hf; omega)
  clear hq hx bw M1 BX1
  go_wp2_with fail
  refine (mlen_any M2.out.at_).mono ?_
  rintro e w3 ⟨rfl, bw⟩
  rw [HLN.out]
  have X3 := Lib.hid (X2.out.below bw)
  have M3 := Lib.hid (M2.out.below bw)
  have BX3 := Lib.hid (BX2.out.below bw)
  clear bw X2 M2 BX2
  have W3 := Lib.hid (show (WL (ML C G g) (some ⟨g, 0, none⟩) q).At w3 (s, Wk.zero) (fun y => F y ∨ y = q) from ⟨F, M3.out.at_, X3.out, HQF.out, fun y hy => .inl hy, .inr rfl, fun y hy => by
    rcases hy with hy | rfl
    · exact M3.out.lt y hy
    · exact X3.out.lt⟩)
  go_wp2_with fail
  go_loopw [8] (fun i wr => ∃ (j : Nat) (F' : Nat → Prop), j ≤ n ∧ i = .int .i64 j ∧ Mv (WL (ML C G g) (some ⟨g, 0, none⟩) q) w3 (fun y => F y ∨ y = q) wr (runN G (s, Wk.zero) j) F' ∧ Bx w wr F' b #[.int .i64 0, .int .i64 0, .int .i64 0] 57) (fun i _ => n - (intOf i).toNat)
  case atStart => exact ⟨0, _, Nat.zero_le _, rfl, Mv.start W3.out, BX3.out.1, BX3.out.2.1, fun hf => hf.elim BX3.out.2.2 HQB.out⟩
  case round =>
    obtain ⟨j, F', hj, rfl, hmv, hbx⟩ := hrel
    have MJ := Lib.hid hmv
    have BJ := Lib.hid hbx
    have HJ := Lib.hid hj
    clear hmv hbx hj
    by_cases hlt : j < n
    · have HLT := Lib.hid hlt
      have j1 : (j : Int) < (n : Int) := by omega
      have wj : IntKind.i64.wrap ((j : Int) + 1) = ((j + 1 : Nat) : Int) := IntWalk.i64_in _ (by have := HN.out; omega)
      clear hlt
      go_wp2_with fail
      refine (sstep_any MJ.out.at_ (run_okk HOK.out j) (by have h1 := run_most (G := G) (s, Wk.zero) j; have h2 : C.most (s, Wk.zero).1.d < 800000 := HM.out; have := HN.out; have := HLT.out; omega) (by obtain ⟨h1, h2, h3, h4⟩ := run_few (G := G) s j; have := HN.out; have := HLT.out; exact ⟨by omega, by omega, by omega, by omega⟩)).mono ?_
      rintro e w5 ⟨rfl, F5, h5⟩
      have M5 := Lib.hid (MJ.out.trans h5)
      have B5 := Lib.hid (BJ.out.step h5)
      clear h5 MJ BJ
      go_wp2_with fail
      go_roundw
      case rel => exact ⟨j + 1, F5, HLT.out, by go_num, M5.out, B5.out⟩
      case measure => (have := HLT.out; simp [intOf]; omega)
    · obtain rfl : j = n := by have := HJ.out; omega
      have j1 : ¬ (j : Int) < (j : Int) := by omega
      clear hlt
      go_wp2_with fail
      have hbk := wl_blk MJ.out.at_
      refine (sreport_any hbk).mono ?_
      rintro e w5 ⟨rfl, bw⟩
      have M5 := Lib.hid (MJ.out.below bw)
      have B5 := Lib.hid (BJ.out.below bw)
      clear bw MJ BJ hbk
      obtain ⟨F1, h1, h4⟩ : ∃ F1, (ML C G g).At w5 (allN G s j).1 F1 ∧ ∀ y, F1 y → F' y := by obtain ⟨F1, h1, _, _, h4, _⟩ := M5.out.at_; exact ⟨F1, h1, h4⟩
      have H1 := Lib.hid h1
      have H4 := Lib.hid h4
      clear h1 h4
      obtain ⟨y, hy⟩ : ∃ y, y = (allN G s j).2 := ⟨_, rfl⟩
      rw [show (runN G (s, Wk.zero) j).2 = y from hy.symm]
      have HY := Lib.hid hy
      clear hy
      go_wp2_with (first
        | (refine wpList_store_row rfl 57 (.tmp 2) (.tmp 14) rfl b y.rep rfl rfl 57 #[.int .i64 0, .int .i64 0, .int .i64 0] B5.out.1 wk_info rfl (by simp [Wk.rep, Value.oneCell']) ?_))
      have hb : But (fun y => y = b) w5 (w5.setRow b y.rep) := (But.refl _).setRow (S := fun y => y = b) (.inl rfl) _
      refine bodyPost_ret (v := .agg y.rep) (results_cell_row Try.results27 _ _ b 57 y.rep (0, 0) _ rfl (setRow_heap _ _ _ _ _ _ B5.out.1) Try.underlying57 rfl wk_info) rfl ⟨by rw [HY.out], F1, (ML C G g).but H1.out hb (fun y hy e => B5.out.2.2 (e ▸ H4.out y hy)), fun y hy => ?_, ?_⟩
      · rcases M5.out.new y (H4.out y hy) with (h | h) | h
        · exact .inl h
        · exact .inr (by rw [h]; exact HQ.out)
        · exact .inr (Nat.le_trans M3.out.size h)
      · exact Mi.but_step (Mi.but_step M3.out.but M5.out.but (fun y hy => hy.imp id (fun h => by rw [h]; exact HQ.out))) hb (fun y hy => .inr (by rw [hy]; exact B5.out.2.1))
end
end Go.Proofs.Ytnplhagfmfggcaa.Sc
/-
  Scrubbing, of a mirror as the document tells of it: what each place counts as, what both devices have then. No program.
-/
namespace Go.Proofs.Ytnplhagfmfggcaa.Sc
open Kd Mi
def mdStep (f : Int → List UInt8 → Bool) (s : Md × Wk) : (Int × Bool) × (Md × Wk) :=
  if s.1.a.length ≤ s.2.n then ((0, false), s) else (((s.2.n : Int), true), ((s.1.heal f s.2.n).2, s.2.step (s.1.heal f s.2.n).1))
def mdRun (f : Int → List UInt8 → Bool) (s : Md × Wk) : Nat → Md × Wk
  | 0 => s
  | k + 1 => (mdStep f (mdRun f s k)).2
section
variable {pw g1 g2 : Nat} {s : Mr (Mu.one pw g1 g2)} {x : Md} {y : Wk} {m : Nat} {G : Gd}
theorem sees_step (h : Mu.Sees s x m) (hd : Mu.Dry s x) (y : Wk) : (stepN G (s, y)).1 = (mdStep G.f (x, y)).1 ∧ (stepN G (s, y)).2.2 = (mdStep G.f (x, y)).2.2 ∧ Mu.Sees (stepN G (s, y)).2.1 (mdStep G.f (x, y)).2.1 (m + 1) ∧ Mu.Dry (stepN G (s, y)).2.1 (mdStep G.f (x, y)).2.1 := by
  unfold stepN mdStep
  rw [show s.a = x.a from h.a]
  split
  · exact ⟨rfl, rfl, h.more (Nat.le_succ _), hd⟩
  · obtain ⟨h1, h2⟩ := h.heal (G := G) (y.n : Int)
    exact ⟨rfl, by show y.step _ = y.step _; rw [h1], h2, hd.heal h _⟩
theorem sees_run (h : Mu.Sees s x m) (hd : Mu.Dry s x) (y : Wk) : ∀ k, (runN G (s, y) k).2 = (mdRun G.f (x, y) k).2 ∧ Mu.Sees (runN G (s, y) k).1 (mdRun G.f (x, y) k).1 (m + k) ∧ Mu.Dry (runN G (s, y) k).1 (mdRun G.f (x, y) k).1
  | 0 => ⟨rfl, h, hd⟩
  | k + 1 => by
    obtain ⟨h1, h2, h3⟩ := sees_run h hd y k
    obtain ⟨h4, h5, h6, h7⟩ := sees_step (G := G) h2 h3 (runN G (s, y) k).2
    refine ⟨?_, ?_, ?_⟩
    · show (stepN G (runN G (s, y) k)).2.2 = (mdStep G.f (mdRun G.f (x, y) k)).2.2
      rw [show mdRun G.f (x, y) k = ((mdRun G.f (x, y) k).1, (runN G (s, y) k).2) by rw [h1]]
      exact h5
    · show Mu.Sees (stepN G (runN G (s, y) k)).2.1 (mdStep G.f (mdRun G.f (x, y) k)).2.1 _
      rw [show mdRun G.f (x, y) k = ((mdRun G.f (x, y) k).1, (runN G (s, y) k).2) by rw [h1]]
      exact h6
    · show Mu.Dry (stepN G (runN G (s, y) k)).2.1 (mdStep G.f (mdRun G.f (x, y) k)).2.1
      rw [show mdRun G.f (x, y) k = ((mdRun G.f (x, y) k).1, (runN G (s, y) k).2) by rw [h1]]
      exact h7
end
/-! ### Two devices that are there, nothing of which is stale -/
structure Fresh (x : Md) (n : Nat) : Prop where
  o0 : x.o0 = false
  o1 : x.o1 = false
  n0 : x.l0.length = n
  n1 : x.l1.length = n
  a : x.a = List.replicate n false
  b : x.b = List.replicate n false
variable {f : Int → List UInt8 → Bool} {x : Md} {n k : Nat}
/-- What a place counts as. -/
def ck (f : Int → List UInt8 → Bool) (k : Nat) (u v : List UInt8) : Int := if !(f k u) && !(f k v) then 2 else if f k u && (f k v && decide (u = v)) then 0 else 1
/-- What both have then. -/
def hl0 (f : Int → List UInt8 → Bool) (k : Nat) (u v : List UInt8) : List UInt8 := if f k u then u else if f k v then v else u
def hl1 (f : Int → List UInt8 → Bool) (k : Nat) (u v : List UInt8) : List UInt8 := if f k u then u else v
theorem rep_getD {n k : Nat} : (List.replicate n false).getD k false = false := by
  rw [List.getD_eq_getElem?_getD, List.getElem?_replicate]; split <;> rfl
theorem rep_set {n k : Nat} : (List.replicate n false).set k false = List.replicate n false := by simp
theorem Fresh.right (h : Fresh x n) (i : Nat) (k : Nat) : x.right f i k = f k ((x.l i).getD k zeroS) := by
  have h1 : (x.st i).getD k false = false := by
    unfold Md.st; split
    · rw [h.a]; exact rep_getD
    · rw [h.b]; exact rep_getD
  have h2 : x.o i = false := by unfold Md.o; split; exact h.o0; exact h.o1
  rw [Md.right, h1, h2]; rfl
theorem Fresh.mend (h : Fresh x n) (i k : Nat) (y : List UInt8) : Fresh (x.mend i k y) n ∧ x.mend i k y = x.setL i k y := by
  unfold Md.mend Md.put Md.setL
  split
  · rename_i hi
    subst hi
    refine ⟨⟨h.o0, h.o1, by simpa using h.n0, h.n1, by show x.a.set k false = _; rw [h.a, rep_set], h.b⟩, ?_⟩
    show ({ l0 := x.l0.set k y, l1 := x.l1, o0 := x.o0, o1 := x.o1, a := x.a.set k false, b := x.b } : Md) = _
    rw [h.a, rep_set]
  · rename_i hi
    refine ⟨⟨h.o0, h.o1, h.n0, by simpa using h.n1, h.a, by show x.b.set k false = _; rw [h.b, rep_set]⟩, ?_⟩
    show ({ l0 := x.l0, l1 := x.l1.set k y, o0 := x.o0, o1 := x.o1, a := x.a, b := x.b.set k false } : Md) = _
    rw [h.b, rep_set]
theorem Fresh.len (h : Fresh x n) : x.a.length = n := by rw [h.a, List.length_replicate]
theorem Fresh.has (h : Fresh x n) (hk : k < n) : x.has (k : Int) = true := by rw [Md.has, h.len]; simp; omega
theorem Fresh.heal (h : Fresh x n) (hk : k < n) : (x.heal f k).1 = (ck f k (x.l0.getD k zeroS) (x.l1.getD k zeroS), 0) ∧ Fresh (x.heal f k).2 n ∧
    (x.heal f k).2.l0 = x.l0.set k (hl0 f k (x.l0.getD k zeroS) (x.l1.getD k zeroS)) ∧ (x.heal f k).2.l1 = x.l1.set k (hl1 f k (x.l0.getD k zeroS) (x.l1.getD k zeroS)) := by
  have r0 : x.right f 0 k = f k (x.l0.getD k zeroS) := h.right 0 k
  have r1 : x.right f 1 k = f k (x.l1.getD k zeroS) := h.right 1 k
  rw [Md.heal, h.has hk, if_pos rfl, if_neg (by rw [h.o0, h.o1]; simp), Int.toNat_natCast, r0, r1]
  unfold ck hl0 hl1
  have e0 : x.l0.set k (x.l0.getD k zeroS) = x.l0 := list_set_self _ _ _
  have e1 : x.l1.set k (x.l1.getD k zeroS) = x.l1 := list_set_self _ _ _
  cases f0 : f k (x.l0.getD k zeroS) with
  | true =>
    simp only [if_true, Bool.not_true, Bool.false_and, Bool.false_eq_true, if_false, Bool.true_and]
    cases f1 : f k (x.l1.getD k zeroS) with
    | true =>
      simp only [Bool.true_and, decide_eq_true_eq]
      by_cases he : x.l0.getD k zeroS = x.l1.getD k zeroS
      · rw [if_pos he, if_pos he]
        exact ⟨rfl, h, e0.symm, by rw [he]; exact e1.symm⟩
      · rw [if_neg he, if_neg he]
        obtain ⟨h1, h2⟩ := h.mend 1 k (x.l0.getD k zeroS)
        exact ⟨rfl, h1, by rw [h2]; exact e0.symm, by rw [h2]; rfl⟩
    | false =>
      simp only [Bool.false_and, Bool.false_eq_true, if_false]
      obtain ⟨h1, h2⟩ := h.mend 1 k (x.l0.getD k zeroS)
      exact ⟨trivial, h1, by rw [h2]; exact e0.symm, by rw [h2]; rfl⟩
  | false =>
    simp only [Bool.false_eq_true, if_false, Bool.not_false, Bool.true_and, Bool.false_and]
    cases f1 : f k (x.l1.getD k zeroS) with
    | true =>
      simp only [if_true, Bool.not_true, Bool.false_eq_true, if_false]
      obtain ⟨h1, h2⟩ := h.mend 0 k (x.l1.getD k zeroS)
      exact ⟨trivial, h1, by rw [h2]; rfl, by rw [h2]; exact e1.symm⟩
    | false =>
      simp only [Bool.false_eq_true, if_false, Bool.not_false, if_true]
      exact ⟨trivial, h, e0.symm, e1.symm⟩
/-- What the first k places count as. -/
def cntK (f : Int → List UInt8 → Bool) (l0 l1 : List (List UInt8)) : Nat → Wk
  | 0 => Wk.zero
  | k + 1 => (cntK f l0 l1 k).step (ck f k (l0.getD k zeroS) (l1.getD k zeroS), 0)
theorem cntK_n (f : Int → List UInt8 → Bool) (l0 l1 : List (List UInt8)) : ∀ k, (cntK f l0 l1 k).n = k
  | 0 => rfl
  | k + 1 => by
    rw [cntK, Wk.step, if_pos rfl, Wk.add]
    have h := cntK_n f l0 l1 k
    split
    · show (cntK f l0 l1 k).n + 1 = _; rw [h]
    · split
      · show (cntK f l0 l1 k).n + 1 = _; rw [h]
      · show (cntK f l0 l1 k).n + 1 = _; rw [h]
/-- What k steps make of it. -/
theorem Fresh.run (h : Fresh x n) : ∀ k, k ≤ n → Fresh (mdRun f (x, Wk.zero) k).1 n ∧ (mdRun f (x, Wk.zero) k).2 = cntK f x.l0 x.l1 k ∧
    (∀ j, j < n → (mdRun f (x, Wk.zero) k).1.l0.getD j zeroS = if j < k then hl0 f j (x.l0.getD j zeroS) (x.l1.getD j zeroS) else x.l0.getD j zeroS) ∧
    (∀ j, j < n → (mdRun f (x, Wk.zero) k).1.l1.getD j zeroS = if j < k then hl1 f j (x.l0.getD j zeroS) (x.l1.getD j zeroS) else x.l1.getD j zeroS)
  | 0, _ => ⟨h, rfl, fun j _ => by rw [if_neg (by omega)]; rfl, fun j _ => by rw [if_neg (by omega)]; rfl⟩
  | k + 1, hk => by
    obtain ⟨h1, h2, h3, h4⟩ := h.run k (by omega)
    have hn : (mdRun f (x, Wk.zero) k).2.n = k := by rw [h2, cntK_n]
    have hs : mdRun f (x, Wk.zero) (k + 1) = (((mdRun f (x, Wk.zero) k).1.heal f k).2, (cntK f x.l0 x.l1 k).step ((mdRun f (x, Wk.zero) k).1.heal f k).1) := by
      show (mdStep f (mdRun f (x, Wk.zero) k)).2 = _
      unfold mdStep
      rw [if_neg (by rw [h1.len, hn]; omega), hn, h2]
    obtain ⟨h5, h6, h7, h8⟩ := h1.heal (f := f) (k := k) (by omega)
    have q0 := h3 k (by omega)
    have q1 := h4 k (by omega)
    rw [if_neg (by omega)] at q0 q1
    rw [q0, q1] at h5 h7 h8
    rw [hs]
    refine ⟨h6, by show (cntK f x.l0 x.l1 k).step _ = _; rw [h5]; rfl, fun j hj => ?_, fun j hj => ?_⟩
    · show ((mdRun f (x, Wk.zero) k).1.heal f k).2.l0.getD j zeroS = _
      rw [h7, set_getD _ _ _ _ (by rw [h1.n0]; exact hj)]
      by_cases e : k = j
      · subst e; rw [if_pos rfl, if_pos (by omega)]
      · rw [if_neg e, h3 j hj]
        by_cases hjk : j < k
        · rw [if_pos hjk, if_pos (by omega)]
        · rw [if_neg hjk, if_neg (by omega)]
    · show ((mdRun f (x, Wk.zero) k).1.heal f k).2.l1.getD j zeroS = _
      rw [h8, set_getD _ _ _ _ (by rw [h1.n1]; exact hj)]
      by_cases e : k = j
      · subst e; rw [if_pos rfl, if_pos (by omega)]
      · rw [if_neg e, h4 j hj]
        by_cases hjk : j < k
        · rw [if_pos hjk, if_pos (by omega)]
        · rw [if_neg hjk, if_neg (by omega)]
end Go.Proofs.Ytnplhagfmfggcaa.Sc
/-
  The mirror that pair makes, as the document tells of it; with a device that is out nothing counts. No program.
-/
namespace Go.Proofs.Ytnplhagfmfggcaa.Sc
open Kd Mi
def startM (L0 L1 : List (List UInt8)) (k : Nat) : Md := ⟨L0, L1, false, false, List.replicate k false, List.replicate k false⟩
theorem start_fresh {L0 L1 : List (List UInt8)} {k : Nat} (h0 : L0.length = k) (h1 : L1.length = k) : Fresh (startM L0 L1 k) k := ⟨rfl, rfl, h0, h1, rfl, rfl⟩
theorem start_len {L0 L1 : List (List UInt8)} {k : Nat} : (startM L0 L1 k).a.length = k := List.length_replicate
variable {f : Int → List UInt8 → Bool} {x : Md}
theorem down_heal (hd : (x.o0 || x.o1) = true) {n : Nat} (hn : n < x.a.length) : x.heal f n = ((0, 13), x) := by
  rw [Md.heal, show x.has (n : Int) = true by rw [Md.has]; simp; omega, if_pos rfl, if_pos hd]
theorem down_step (hd : (x.o0 || x.o1) = true) {n : Nat} (hn : n < x.a.length) : mdStep f (x, ⟨n, 0, 0, 0⟩) = (((n : Int), true), (x, ⟨n + 1, 0, 0, 0⟩)) := by
  rw [mdStep, if_neg (by show ¬ x.a.length ≤ n; omega)]
  show (((n : Int), true), ((x.heal f n).2, Wk.step ⟨n, 0, 0, 0⟩ (x.heal f n).1)) = _
  rw [down_heal hd hn, Wk.step, if_neg (show ¬ ((13 : Int) = 0) by decide)]
theorem down_run (hd : (x.o0 || x.o1) = true) : ∀ k, k ≤ x.a.length → mdRun f (x, Wk.zero) k = (x, ⟨k, 0, 0, 0⟩)
  | 0, _ => rfl
  | k + 1, hk => by rw [mdRun, down_run hd k (by omega), down_step hd (by omega)]
end Go.Proofs.Ytnplhagfmfggcaa.Sc
/-
  A log over a mirror of two devices of one power, in the laws: what each method tells, and makes of it.
-/
namespace Go.Proofs.Ytnplhagfmfggcaa.Lo
open Go.RowKit Kd Mi Sx Sg
section
variable {p g1 g2 g q : Nat} {G : Gd} {w0 w w' : World} {s s' : Mr (Mu.one p g1 g2)} {l l' : Lg} {F : Nat → Prop} {x x' : Md} {m m' : Nat}
/-- A log, its mirror, their devices: all new behind w0. -/
structure LgM (p g1 g2 : Nat) (G : Gd) (g q : Nat) (w0 w : World) (s : Mr (Mu.one p g1 g2)) (l : Lg) (F : Nat → Prop) (x : Md) (m : Nat) : Prop where
  live : LiveA (LogL (Mu.one p g1 g2) G g q litS) w0 w (s, l) F
  sees : Mu.Sees s x m
  dry : Mu.Dry s x
  fine : l.Fine
/-- It returns v; the log is l now, the mirror x. -/
def RetLM (v : Value) (p g1 g2 : Nat) (G : Gd) (g q : Nat) (w0 : World) (l : Lg) (x : Md) (m : Nat) (F : Nat → Prop) (w : World) (e : Ending) (w' : World) : Prop :=
  e = .returned v ∧ ∃ (s : Mr (Mu.one p g1 g2)) (F' : Nat → Prop), LgM p g1 g2 G g q w0 w' s l F' x m ∧ Mv (LogL (Mu.one p g1 g2) G g q litS) w F w' (s, l) F'
theorem LgM.ret (h : LgM p g1 g2 G g q w0 w s l F x m) {v : Value} {e : Ending} (hr : RetA (LogL (Mu.one p g1 g2) G g q litS) v (s', l') F w e w') (hs : Mu.Sees s' x' m') (hd : Mu.Dry s' x') (hf : l'.Fine) : RetLM v p g1 g2 G g q w0 l' x' m' F w e w' := by
  obtain ⟨rfl, F', hm⟩ := hr
  exact ⟨rfl, s', F', ⟨h.live.step hm, hs, hd, hf⟩, hm⟩
theorem LgM.below (h : LgM p g1 g2 G g q w0 w s l F x m) (hb : Below w.heap.size w w') : LgM p g1 g2 G g q w0 w' s l F x m := ⟨h.live.below hb, h.sees, h.dry, h.fine⟩
theorem LgM.more (h : LgM p g1 g2 G g q w0 w s l F x m) {m' : Nat} (hm : m ≤ m') : LgM p g1 g2 G g q w0 w s l F x m' := ⟨h.live, h.sees.more hm, h.dry, h.fine⟩
/-- A body is appended. -/
theorem lgm_append (h : LgM p g1 g2 G g q w0 w s l F x m) (hm : m < 900000) (hl : l.last < 1000000) (h0 : 0 < l.size) {t : Nat × Nat × Nat} (hn : l.next = some t) (A : Option Addr) (n c : Nat) (b : List UInt8) (hb : b.length = n) (hb3 : n ≤ 103) (hr : Rd w.heap.size w A (bv b))
    (hw : (x.write (l.at_ t : Int) (sealedS litS.f (l.at_ t : Int) t.2.2 b)).1 = 0) :
    Calls Try.prog 38 #[.pointer (some ⟨q, 0, none⟩), .slice A n c] w (RetLM (.tuple #[.int .i64 (l.at_ t : Int), .int .i64 0]) p g1 g2 G g q w0 (l.put t) (x.write (l.at_ t : Int) (sealedS litS.f (l.at_ t : Int) t.2.2 b)).2 (m + 2) F w) := by
  have hc := append_any h.live.at_ h.fine h.sees.ok (Nat.lt_of_le_of_lt h.sees.most hm) hl A n c b hb hr
  obtain ⟨h1, h2⟩ := h.sees.write (l.at_ t : Int) (sealedS litS.f (l.at_ t : Int) t.2.2 b)
  have e : apnd litS s l b = (((l.at_ t : Int), 0), (s.write (l.at_ t : Int) (sealedS litS.f (l.at_ t : Int) t.2.2 b)).2, l.put t) := by
    rw [apnd, if_neg (by omega), hn]
    show (if _ then _ else _) = _
    rw [if_pos (by rw [h1]; exact hw)]
  rw [e] at hc
  exact hc.mono fun _ _ hr => h.ret hr h2 (h.dry.write h.sees _ _) (Lg.put_fine h.fine hn h0)
theorem lgm_append_long (h : LgM p g1 g2 G g q w0 w s l F x m) (hm : m < 900000) (hl : l.last < 1000000) (A : Option Addr) (n c : Nat) (b : List UInt8) (hb : b.length = n) (hb3 : 103 < n) (hr : Rd w.heap.size w A (bv b)) :
    Calls Try.prog 38 #[.pointer (some ⟨q, 0, none⟩), .slice A n c] w (RetLM (.tuple #[.int .i64 0, .int .i64 3]) p g1 g2 G g q w0 l x m F w) := by
  have hc := append_any h.live.at_ h.fine h.sees.ok (Nat.lt_of_le_of_lt h.sees.most hm) hl A n c b hb hr
  rw [apnd, if_pos (by omega)] at hc
  exact hc.mono fun _ _ hr => h.ret hr h.sees h.dry h.fine
theorem lgm_append_full (h : LgM p g1 g2 G g q w0 w s l F x m) (hm : m < 900000) (hl : l.last < 1000000) (hn : l.next = none) (A : Option Addr) (n c : Nat) (b : List UInt8) (hb : b.length = n) (hb3 : n ≤ 103) (hr : Rd w.heap.size w A (bv b)) :
    Calls Try.prog 38 #[.pointer (some ⟨q, 0, none⟩), .slice A n c] w (RetLM (.tuple #[.int .i64 0, .int .i64 6]) p g1 g2 G g q w0 l x m F w) := by
  have hc := append_any h.live.at_ h.fine h.sees.ok (Nat.lt_of_le_of_lt h.sees.most hm) hl A n c b hb hr
  rw [apnd, if_neg (by omega), hn] at hc
  exact hc.mono fun _ _ hr => h.ret hr h.sees h.dry h.fine
theorem lgm_flush (h : LgM p g1 g2 G g q w0 w s l F x m) :
    Calls Try.prog 37 #[.pointer (some ⟨q, 0, none⟩)] w (RetLM (.int .i64 (if x.o0 && x.o1 then 13 else 0)) p g1 g2 G g q w0 l x 0 F w) := by
  obtain ⟨h1, h2⟩ := h.sees.flush h.dry
  have hc := lflush_any h.live.at_
  rw [h1] at hc
  exact hc.mono fun _ _ hr => h.ret hr h2 h2.dry h.fine
theorem lgm_free (h : LgM p g1 g2 G g q w0 w s l F x m) (k : Int) (h1 : -9223372036854775808 ≤ k) (h2 : k ≤ 9223372036854775807) :
    Calls Try.prog 36 #[.pointer (some ⟨q, 0, none⟩), .int .i64 k] w (RetLM (.int .i64 (l.freeE k)) p g1 g2 G g q w0 (if l.freeE k = 0 then l.free k.toNat else l) x m F w) := by
  refine (lfree_any h.live.at_ h1 h2).mono fun _ _ hr => h.ret hr h.sees h.dry ?_
  by_cases hk : l.freeE k = 0
  · rw [if_pos hk]; exact Lg.free_fine h.fine hk
  · rw [if_neg hk]; exact h.fine
theorem lgm_gen (h : LgM p g1 g2 G g q w0 w s l F x m) (k : Int) (h1 : -9223372036854775808 ≤ k) (h2 : k ≤ 9223372036854775807) :
    Calls Try.prog 83 #[.pointer (some ⟨q, 0, none⟩), .int .i64 k] w (RetB (.int .u64 (if 0 ≤ k then ((l.gens.getD k.toNat 0 : Nat) : Int) else 0)) w) := lgen_any h.live.at_ h1 h2
theorem lgm_head (h : LgM p g1 g2 G g q w0 w s l F x m) : Calls Try.prog 82 #[.pointer (some ⟨q, 0, none⟩)] w (RetB (.tuple #[.int .i64 l.headI, .int .i64 l.slotI]) w) := lhead_any h.live.at_
theorem lgm_room (h : LgM p g1 g2 G g q w0 w s l F x m) : Calls Try.prog 84 #[.pointer (some ⟨q, 0, none⟩)] w (RetB (.int .i64 (l.room : Int)) w) := lroom_any h.live.at_ h.fine
/-- What Read tells of a mirror that is x. -/
def readX (G : Gd) (x : Md) (l : Lg) (k : Int) : List UInt8 × Int :=
  if 2 ≤ k ∧ k < 2 + (l.gens.length : Int) * l.size ∧ l.gens.getD ((k.toNat - 2) / l.size) 0 ≠ 0 then
    (if (x.read G.f k).2 = 0 then (if okS litS.f k (x.read G.f k).1 = true ∧ genS (x.read G.f k).1 = l.gens.getD ((k.toNat - 2) / l.size) 0 then (bodyS (x.read G.f k).1, 0) else ([], 9)) else ([], (x.read G.f k).2))
  else ([], 2)
theorem lgm_read (h : LgM p g1 g2 G g q w0 w s l F x m) (k : Int) :
    Calls Try.prog 42 #[.pointer (some ⟨q, 0, none⟩), .int .i64 k] w (fun e w' => ∃ A n c F', e = .returned (.tuple #[.slice A n c, .int .i64 (readX G x l k).2]) ∧ w'.ownsRow w.heap.size 5 1 (.slice A n c) n (bv (readX G x l k).1) ∧
      LgM p g1 g2 G g q w0 w' s l F' x m ∧ Mv (LogL (Mu.one p g1 g2) G g q litS) w F w' (s, l) F' ∧ ∀ j, (Value.slice A n c).ownBlock = some j → ¬F' j) := by
  have hc := lread_any h.live.at_ (by rw [h.sees.ok.1, h.sees.ok.2]) k
  have e : readL litS G s l k = readX G x l k := by rw [readL, readX, h.sees.read k]
  rw [e] at hc
  refine hc.mono ?_
  rintro e w' ⟨A, n, c, rfl, ho, F', hm, hd⟩
  exact ⟨A, n, c, F', rfl, ho, ⟨h.live.step hm, h.sees, h.dry, h.fine⟩, hm, hd⟩
end
end Go.Proofs.Ytnplhagfmfggcaa.Lo
/-
  A mirror of two devices of one power, made by a function that has boxes; the devices that a mirror has.
-/
namespace Go.Proofs.Ytnplhagfmfggcaa.Lo
open Go.RowKit Kd Mi Sx
section
variable {p g1 g2 g : Nat} {G : Gd} {w0 w w' : World} {d : Sy} {s s' : Mr (Mu.one p g1 g2)} {F : Nat → Prop} {x x' : Md} {m m' : Nat}
/-- A mirror of two devices of one power, by a function that has boxes. -/
theorem lm_newB (hR : ∀ A n c B m e, G.R A n c B m e) {L0 L1 : List (List UInt8)} {o0 o1 : Bool} {n : Nat} (h : Mu.LD p g1 g2 w0 w d F L0 L1 o0 o1 0) (hG : ∀ x ∈ G.l, Blk w x.1 x.2.1 x.2.2 ∧ ¬ F x.1 ∧ w0.heap.size ≤ x.1) (e0 : L0.length = n) (e1 : L1.length = n) :
    Calls Try.prog 74 #[.pointer (some ⟨g1, 0, none⟩), .pointer (some ⟨g2, 0, none⟩), G.v] w (fun e w' => ∃ g s F', e = .returned (.pointer (some ⟨g, 0, none⟩)) ∧ Mu.LM p g1 g2 G g w0 w' s F' ⟨L0, L1, o0, o1, List.replicate n o0, List.replicate n o1⟩ 0 ∧
      (∀ q, F' q → (F q ∨ ∃ y ∈ G.l, q = y.1) ∨ w.heap.size ≤ q) ∧ But (fun q => F q ∨ ∃ y ∈ G.l, q = y.1) w w') := by
  refine (new_anyG (C := Mu.one p g1 g2) hR h.live.at_ (fun x hx => ⟨(hG x hx).1, (hG x hx).2.1⟩) rfl).mono ?_
  rintro e w' ⟨g, F', rfl, h1, h2, h3⟩
  have hs : Mu.Sees (newM (Mu.one p g1 g2) d) ⟨L0, L1, o0, o1, List.replicate n o0, List.replicate n o1⟩ 0 := Mu.sees_new h.d0 h.d1 e0 e1
  have hF : ∀ q, (F q ∨ ∃ y ∈ G.l, q = y.1) → w0.heap.size ≤ q := fun q hq => hq.elim (h.live.new q) (fun ⟨y, hy, e⟩ => by rw [e]; exact (hG y hy).2.2)
  exact ⟨g, _, F', rfl, ⟨⟨h1, fun q hq => (h2 q hq).elim (hF q) (Nat.le_trans h.live.bel.size), h.live.bel.trans (h3.below (fun k hk hq => by have := hF k hq; omega) h.live.bel.size)⟩, hs, hs.dry⟩, h2, h3⟩
/-- The devices that a mirror has. -/
theorem lm_devs (h : Mu.LM p g1 g2 G g w0 w s F x 0) : ∃ F1, Mu.LD p g1 g2 w0 w s.d F1 x.l0 x.l1 x.o0 x.o1 0 ∧ ∀ k, F1 k → F k := by
  obtain ⟨A, n, c, B, m, e, F1, hr, h1, h2⟩ := h.live.at_
  exact ⟨F1, ⟨⟨hr.d, fun q hq => h.live.new q (h1 q (.inr (.inr (.inr (.inl hq))))), h.live.bel⟩, h.sees.d0, h.sees.d1⟩, fun k hk => h1 k (.inr (.inr (.inr (.inl hk))))⟩
end
end Go.Proofs.Ytnplhagfmfggcaa.Lo
/-
  Noughts are no sealed sector of a small place, under the little sum.
-/
namespace Go.Proofs.Ytnplhagfmfggcaa.Lo
open Go.RowKit Kd Sx
def zeroB (k : Nat) : Bool := decide (sealedS litSumL (k : Int) (genS zeroS) (bodyS zeroS) = zeroS)
theorem zero_all : (List.range 26).all (fun k => !zeroB k) = true := by decide +kernel
theorem zero_no {k : Nat} (hk : k < 26) : okS litSumL (k : Int) zeroS = false := by
  have h := List.all_eq_true.1 zero_all k (List.mem_range.2 hk)
  have h2 : zeroB k = false := by simpa using h
  rw [okS]
  rw [show decide (sealedS litSumL (k : Int) (genS zeroS) (bodyS zeroS) = zeroS) = false from h2, Bool.and_false, Bool.and_false]
end Go.Proofs.Ytnplhagfmfggcaa.Lo
/-
  A new log over a mirror, in the laws.
-/
namespace Go.Proofs.Ytnplhagfmfggcaa.Lo
open Go.RowKit Kd Mi Sx Sg
section
variable {p g1 g2 g : Nat} {w0 w : World} {s : Mr (Mu.one p g1 g2)} {F : Nat → Prop} {x : Md} {m b n : Nat}
theorem lgm_new (h : Mu.LM p g1 g2 (gdS litS b) g w0 w s F x m) (a sz : Nat) (hok : Sg.okS (a : Int) (sz : Int)) (hn : 2 + a * sz ≤ x.a.length) :
    Calls Try.prog 86 #[.pointer (some ⟨g, 0, none⟩), litS.v, .agg #[.int .i64 a, .int .i64 sz]] w (fun e w' => ∃ q F', e = .returned (.tuple #[.pointer (some ⟨q, 0, none⟩), .int .i64 0]) ∧ LgM p g1 g2 (gdS litS b) g q w0 w' s (Lg.new a sz) F' x m ∧ (∀ k, F' k → F k ∨ w.heap.size ≤ k) ∧ Below w.heap.size w w') := by
  refine (rnew_any h.live.at_ litS a sz hok (by rw [h.sees.a]; exact hn)).mono ?_
  rintro e w' ⟨q, F', rfl, h1, h2, h3⟩
  rw [← rl_new] at h1
  exact ⟨q, F', rfl, ⟨⟨h1, fun k hk => (h2 k hk).elim (h.live.new k) (Nat.le_trans h.live.bel.size), h.live.bel.trans (h3.mono h.live.bel.size)⟩, h.sees, h.dry, Lg.new_fine a sz⟩, h2, h3⟩
end
end Go.Proofs.Ytnplhagfmfggcaa.Lo
/-
  The laws' rig: a power, two devices, a mirror of them, a log over it.
-/
namespace Go.Proofs.Ytnplhagfmfggcaa.Lo
open Go.RowKit Kd Mi Sx Sg
attribute [local go_sem ↓] Go.wp_at_zero Go.wp_at_succ
/-- A rig's cells. -/
def rigC (p g1 g2 g q a b : Nat) : Array Value := #[.pointer (some ⟨p, 0, none⟩), .pointer (some ⟨g1, 0, none⟩), .pointer (some ⟨g2, 0, none⟩), .pointer (some ⟨g, 0, none⟩), .pointer (some ⟨q, 0, none⟩), .int .i64 (a : Int), .int .i64 (b : Int)]
/-- Lists of noughts. -/
def zerosL (n : Nat) : List (List UInt8) := List.replicate n zeroS
theorem LgM.base {p g1 g2 g q : Nat} {G : Gd} {w w0 w' : World} {s : Mr (Mu.one p g1 g2)} {l : Lg} {F : Nat → Prop} {x : Md} {m : Nat} (h : LgM p g1 g2 G g q w0 w' s l F x m) (hb : Below w.heap.size w w0) : LgM p g1 g2 G g q w w' s l F x m :=
  ⟨⟨h.live.at_, fun k hk => Nat.le_trans hb.size (h.live.new k hk), hb.trans (h.live.bel.mono hb.size)⟩, h.sees, h.dry, h.fine⟩
/-- It returns a rig, new. -/
def RetMade (a b : Nat) (w : World) (e : Ending) (w' : World) : Prop :=
  ∃ p g1 g2 bx g q s F, e = .returned (.tuple #[.agg (rigC p g1 g2 g q a b), .int .i64 1]) ∧ LgM p g1 g2 (gdS litS bx) g q w w' s (Lg.new a b) F (Sc.startM (zerosL (2 + a * b)) (zerosL (2 + a * b)) (2 + a * b)) 0
theorem cell_but {w w' : World} {T : Nat → Prop} {g j : Nat} {v : Value} (h : w.cell? ⟨g, j, none⟩ = some v) (hb : But T w w') (hg : ¬T g) : w'.cell? ⟨g, j, none⟩ = some v := by
  have hl : g < w.heap.size := World.block_lt_of_cell? w _ h
  rw [← h]
  unfold World.cell?
  rw [hb.block g hl hg]
theorem live_box {w0 w w' : World} {p : Nat} {gs : List Nat} {S : Sy} {F : Nat → Prop} {b : Nat} (h : Live w0 w p gs S F) (hb : But (fun k => k = b) w w') (hF : ¬F b) (hw : w0.heap.size ≤ b) : Live w0 w' p gs S F :=
  ⟨h.sys.but hb (fun q hq e => by subst e; exact hF hq), h.new, h.bel.trans (hb.below (fun k hk e => by omega) h.bel.size)⟩
theorem lm_box {p g1 g2 g : Nat} {G : Gd} {w0 w w' : World} {s : Mr (Mu.one p g1 g2)} {F : Nat → Prop} {x : Md} {m b : Nat} (h : Mu.LM p g1 g2 G g w0 w s F x m) (hb : But (fun k => k = b) w w') (hF : ¬F b) (hw : w0.heap.size ≤ b) : Mu.LM p g1 g2 G g w0 w' s F x m :=
  ⟨⟨(ML (Mu.one p g1 g2) G g).but h.live.at_ hb (fun k hk e => by subst e; exact hF hk), h.live.new, h.live.bel.trans (hb.below (fun k hk e => by omega) h.live.bel.size)⟩, h.sees, h.dry⟩
theorem lgm_box {p g1 g2 g q : Nat} {G : Gd} {w0 w w' : World} {s : Mr (Mu.one p g1 g2)} {l : Lg} {F : Nat → Prop} {x : Md} {m b : Nat} (h : LgM p g1 g2 G g q w0 w s l F x m) (hb : But (fun k => k = b) w w') (hF : ¬F b) (hw : w0.heap.size ≤ b) : LgM p g1 g2 G g q w0 w' s l F x m :=
  ⟨⟨(LogL (Mu.one p g1 g2) G g q litS).but h.live.at_ hb (fun k hk e => by subst e; exact hF hk), h.live.new, h.live.bel.trans (hb.below (fun k hk e => by omega) h.live.bel.size)⟩, h.sees, h.dry, h.fine⟩
theorem by_rest {R G : Nat → Nat → World → Prop} {p : Prop} (ways : (∀ X Y w', R X Y w' → G X Y w') → p) (rest : ∀ X Y w', R X Y w' → G X Y w') : p := ways rest
set_option maxRecDepth 100000 in
set_option maxHeartbeats 12800000 in
theorem made_any (x y : Int) (hx : 0 ≤ x ∧ x ≤ 255) (hy : 0 ≤ y ∧ y ≤ 255) (a b : Nat) (ha : (a : Int) = 3 + x.tmod 4) (hb : (b : Int) = 1 + y.tmod 4) (w : World) : Calls Try.prog 33 #[.int .u8 x, .int .u8 y] w (RetMade a b w) := by
  have hi2 : 0 ≤ x.tmod 4 ∧ x.tmod 4 < 4 := by rw [Int.tmod_eq_emod_of_nonneg hx.1]; omega
  have hj2 : 0 ≤ y.tmod 4 ∧ y.tmod 4 < 4 := by rw [Int.tmod_eq_emod_of_nonneg hy.1]; omega
  obtain ⟨i, hi⟩ : ∃ z, z = x.tmod 4 := ⟨_, rfl⟩
  obtain ⟨j, hj⟩ : ∃ z, z = y.tmod 4 := ⟨_, rfl⟩
  rw [← hi] at ha hi2
  rw [← hj] at hb hj2
  have q1 : x.tmod 4 = i := hi.symm
  have q2 : y.tmod 4 = j := hj.symm
  have z1 : wrap64 x = x := by unfold wrap64; omega
  have z2 : wrap64 y = y := by unfold wrap64; omega
  have v1 : IntKind.i64.wrap x = x := IntWalk.i64_in _ (by omega)
  have v2 : IntKind.i64.wrap y = y := IntWalk.i64_in _ (by omega)
  have e1 : IntKind.i64.wrap (3 + i) = (a : Int) := by rw [← ha]; exact IntWalk.i64_in _ (by omega)
  have e2 : IntKind.i64.wrap (1 + j) = (b : Int) := by rw [← hb]; exact IntWalk.i64_in _ (by omega)
  have HAB := Lib.hid (show a ≤ 6 ∧ b ≤ 4 ∧ 3 ≤ a ∧ 1 ≤ b by omega)
  have HOK := Lib.hid (show Sg.okS (a : Int) (b : Int) by unfold Sg.okS; omega)
  obtain ⟨N, hN⟩ : ∃ N, N = 2 + a * b := ⟨_, rfl⟩
  have HN := Lib.hid (show N = 2 + a * b ∧ N ≤ 4096 from ⟨hN, by have : a * b ≤ 6 * 4 := Nat.mul_le_mul (by omega) (by omega); omega⟩)
  have HSE := Lib.hid (show ∀ W, Calls Try.prog 41 #[.agg #[.int .i64 (a : Int), .int .i64 (b : Int)]] W (RetB (.int .i64 (N : Int)) W) from fun W => by
    have h := sectors_yes a b HOK.out W
    rw [show (2 : Int) + (a : Int) * (b : Int) = (N : Int) by rw [hN]; push_cast; rfl] at h
    exact h)
  clear hi hj hi2 hj2 ha hb hN hx hy
  go_enter Try.func33, Try.ntmps33
  go_wp2_with fail
  obtain ⟨w1, hw1⟩ : ∃ W, W = w.alloc (.cells #[.pointer none, .pointer none, .pointer none, .pointer none, .pointer none, .int .i64 0, .int .i64 0] 73) := ⟨_, rfl⟩
  rw [← hw1]
  have R1 := Lib.hid (show Blk w1 w.heap.size #[.pointer none, .pointer none, .pointer none, .pointer none, .pointer none, .int .i64 0, .int .i64 0] 73 by rw [hw1]; exact heap_alloc_new _ _)
  have BW1 := Lib.hid (show Below w.heap.size w w1 by rw [hw1]; exact (Below.refl _ _).alloc (Nat.le_refl _) _)
  clear hw1
  refine live_power.mono ?_
  rintro e w2 ⟨pw, rfl, F2, h⟩
  have H2 := Lib.hid h
  clear h
  go_wp2_with fail
  obtain ⟨bX, hbX⟩ : ∃ v, v = w2.heap.size := ⟨_, rfl⟩
  obtain ⟨w3, hw3⟩ : ∃ W, W = w2.alloc (.cells #[.pointer (some ⟨pw, 0, none⟩), .pointer none, .pointer none, .pointer none, .pointer none, .int .i64 (a : Int), .int .i64 (b : Int)] 73) := ⟨_, rfl⟩
  rw [← hbX, ← hw3]
  have X3 := Lib.hid (show Blk w3 bX #[.pointer (some ⟨pw, 0, none⟩), .pointer none, .pointer none, .pointer none, .pointer none, .int .i64 (a : Int), .int .i64 (b : Int)] 73 by rw [hw3, hbX]; exact heap_alloc_new _ _)
  have NF := Lib.hid (show ¬F2 bX ∧ w1.heap.size ≤ bX from ⟨fun hf => by have := H2.out.sys.lt bX hf; omega, by rw [hbX]; exact H2.out.bel.size⟩)
  have H3 := Lib.hid (show Live w1 w3 pw [] S0 F2 from ⟨H2.out.sys.but (but_below (T := fun _ => False) (by rw [hw3]; exact (Below.refl _ _).alloc (Nat.le_refl _) _)) (fun _ _ h => h), H2.out.new, H2.out.bel.trans (by rw [hw3]; exact ((Below.refl _ _).alloc (Nat.le_refl _) _).mono H2.out.bel.size)⟩)
  clear hbX hw3 H2
  apply by_rest (R := fun g1 g2 w' => (∃ F, Live w1 w' pw [g1, g2] ((S0.new (N : Int)).new (N : Int)) F ∧ ¬F bX) ∧ Blk w' bX #[.pointer (some ⟨pw, 0, none⟩), .pointer (some ⟨g1, 0, none⟩), .pointer (some ⟨g2, 0, none⟩), .pointer none, .pointer none, .int .i64 (a : Int), .int .i64 (b : Int)] 73)
  case ways =>
    intro hG
    refine wp_region_held_drew (S := (fun w' => w'.cell? ⟨bX, 0, none⟩ = some (.pointer (some ⟨pw, 0, none⟩)) ∧ w'.cell? ⟨bX, 5, none⟩ = some (.int .i64 (a : Int)) ∧ w'.cell? ⟨bX, 6, none⟩ = some (.int .i64 (b : Int)))) (by kernel_rfl) ⟨(show (World.drew _).cell? _ = _ from X3.out.cell 0), (show (World.drew _).cell? _ = _ from X3.out.cell 5), (show (World.drew _).cell? _ = _ from X3.out.cell 6)⟩ (fun hh => ?_)
    have HH := Lib.hid hh
    clear hh
    have H4 := Lib.hid H3.out.drew
    have X4 := Lib.hid (show Blk w3.drew bX _ _ from X3.out)
    obtain ⟨w4, hw4⟩ : ∃ W, W = w3.drew := ⟨_, rfl⟩
    rw [← hw4] at H4 X4 HH ⊢
    clear hw4
    try simp only [List.getElem_toArray, List.getElem_cons_succ, List.getElem_cons_zero, Act.put, List.setIfInBounds_toArray, List.set_cons_zero, List.set_cons_succ]
    refine wpAnyH_take (i := 0) (v := ?vA0) rfl (by kernel_rfl) (by kernel_rfl) (by kernel_rfl) (fun _ _ _ h => h) (Or.inl ⟨by rfl, fun w' _ => ?yA0⟩) HH.out ?_
    case yA0 => (go_simp; try with_reducible rfl)
    try simp only [List.getElem_toArray, List.getElem_cons_zero, Act.put, List.setIfInBounds_toArray, List.set_cons_zero, List.set_cons_succ]
    refine wpAnyH_take (i := 3) (v := ?vA3) rfl (by kernel_rfl) (by kernel_rfl) (by kernel_rfl) (fun _ _ _ h => h) (Or.inl ⟨by rfl, fun w' _ => ?yA3⟩) HH.out ?_
    case yA3 => (go_simp; try with_reducible rfl)
    try simp only [List.getElem_toArray, List.getElem_cons_succ, List.getElem_cons_zero, Act.put, List.setIfInBounds_toArray, List.set_cons_zero, List.set_cons_succ]
    refine wpAnyH_take (i := 6) (v := ?vA6) rfl (by kernel_rfl) (by kernel_rfl) (by kernel_rfl) (fun _ _ _ h => h) (Or.inl ⟨by rfl, fun w' _ => ?yA6⟩) HH.out ?_
    case yA6 => (go_simp; try with_reducible rfl)
    try simp only [List.getElem_toArray, List.getElem_cons_succ, List.getElem_cons_zero, Act.put, List.setIfInBounds_toArray, List.set_cons_zero, List.set_cons_succ]
    refine wpAnyH_take (i := 9) (v := ?vA9) rfl (by kernel_rfl) (by kernel_rfl) (by kernel_rfl) (fun _ _ _ h => h) (Or.inl ⟨by rfl, fun w' _ => ?yA9⟩) HH.out ?_
    case yA9 => (go_simp; try with_reducible rfl)
    try simp only [List.getElem_toArray, List.getElem_cons_succ, List.getElem_cons_zero, Act.put, List.setIfInBounds_toArray, List.set_cons_zero, List.set_cons_succ]
    refine wpAnyH_take (i := 1) (v := .agg #[.int .i64 (a : Int), .int .i64 (b : Int)]) rfl (by kernel_rfl) (by kernel_rfl) (by kernel_rfl) (fun _ _ _ h => h) (Or.inl ⟨by rfl, fun w' hw' => ?yA1⟩) HH.out ?_
    case yA1 => ((have hc := hw'.2.1; have hc2 := hw'.2.2); go_simp; try with_reducible rfl)
    try simp only [List.getElem_toArray, List.getElem_cons_succ, List.getElem_cons_zero, Act.put, List.setIfInBounds_toArray, List.set_cons_zero, List.set_cons_succ]
    refine wpAnyH_take (i := 7) (v := .agg #[.int .i64 (a : Int), .int .i64 (b : Int)]) rfl (by kernel_rfl) (by kernel_rfl) (by kernel_rfl) (fun _ _ _ h => h) (Or.inl ⟨by rfl, fun w' hw' => ?yA7⟩) HH.out ?_
    case yA7 => ((have hc := hw'.2.1; have hc2 := hw'.2.2); go_simp; try with_reducible rfl)
    try simp only [List.getElem_toArray, List.getElem_cons_succ, List.getElem_cons_zero, Act.put, List.setIfInBounds_toArray, List.set_cons_zero, List.set_cons_succ]
    refine wpAnyH_take (i := 4) (v := .pointer (some ⟨pw, 0, none⟩)) rfl (by kernel_rfl) (by kernel_rfl) (by kernel_rfl) (fun _ _ _ h => h) (Or.inl ⟨by rfl, fun w' hw' => ?yA4⟩) HH.out ?_
    case yA4 => ((have hc := hw'.1); go_simp; try with_reducible rfl)
    try simp only [List.getElem_toArray, List.getElem_cons_succ, List.getElem_cons_zero, Act.put, List.setIfInBounds_toArray, List.set_cons_zero, List.set_cons_succ]
    refine wpAnyH_take (i := 10) (v := .pointer (some ⟨pw, 0, none⟩)) rfl (by kernel_rfl) (by kernel_rfl) (by kernel_rfl) (fun _ _ _ h => h) (Or.inl ⟨by rfl, fun w' hw' => ?yA10⟩) HH.out ?_
    case yA10 => ((have hc := hw'.1); go_simp; try with_reducible rfl)
    try simp only [List.getElem_toArray, List.getElem_cons_succ, List.getElem_cons_zero, Act.put, List.setIfInBounds_toArray, List.set_cons_zero, List.set_cons_succ]
    refine wpAnyH_ready (rs := [2]) (by kernel_rfl) (by simp) (AllReadyH.cons rfl (fun K hK => ?_) AllReadyH.nil)
    go_simp
    refine (HSE.out _).mono ?_
    rintro e v1 ⟨rfl, bw⟩
    have H901 := Lib.hid (show Live w1 v1 _ _ _ _ from ⟨H4.out.sys.but (but_below (T := fun _ => False) bw) (fun _ _ h => h), H4.out.new, H4.out.bel.trans (bw.mono H4.out.bel.size)⟩)
    have X901 := Lib.hid (X4.out.below bw)
    clear bw
    go_simp
    skip
    refine hK.out _ _ ⟨X901.out.cell 0, X901.out.cell 5, X901.out.cell 6⟩ (fun hh => ?_)
    have HH' := Lib.hid hh
    clear hh hK K HH
    have HH := Lib.hid HH'.out
    clear HH'
    try simp only [List.getElem_toArray, List.getElem_cons_succ, List.getElem_cons_zero, Act.put, List.setIfInBounds_toArray, List.set_cons_zero, List.set_cons_succ]
    refine wpAnyH_ready (rs := [5]) (by kernel_rfl) (by simp) (AllReadyH.cons rfl (fun K hK => ?_) AllReadyH.nil)
    go_simp
    refine (live_new H901.out (by decide) (N : Int)).mono ?_
    rintro e v2 ⟨ga2, rfl, F92, h, hf, hb⟩
    have H902 := Lib.hid h
    have X902 := Lib.hid (X901.out.but hb NF.out.1)
    have N902 := Lib.hid (show ¬F92 bX ∧ w1.heap.size ≤ bX from ⟨fun h => (hf bX h).elim NF.out.1 (fun h => by have := X901.out.lt; omega), NF.out.2⟩)
    clear h hf hb
    go_simp
    skip
    refine hK.out _ _ ⟨X902.out.cell 0, X902.out.cell 5, X902.out.cell 6⟩ (fun hh => ?_)
    have HH' := Lib.hid hh
    clear hh hK K HH
    have HH := Lib.hid HH'.out
    clear HH'
    try simp only [List.getElem_toArray, List.getElem_cons_succ, List.getElem_cons_zero, Act.put, List.setIfInBounds_toArray, List.set_cons_zero, List.set_cons_succ]
    refine wpAnyH_take (i := 12) (v := ?vB12) rfl (by kernel_rfl) (by kernel_rfl) (by kernel_rfl) (fun _ _ _ h => h) (Or.inl ⟨by rfl, fun w' _ => ?yB12⟩) HH.out ?_
    case yB12 => (go_simp; try with_reducible rfl)
    try simp only [List.getElem_toArray, List.getElem_cons_succ, List.getElem_cons_zero, Act.put, List.setIfInBounds_toArray, List.set_cons_zero, List.set_cons_succ]
    refine wpAnyH_ready (rs := [8]) (by kernel_rfl) (by simp) (AllReadyH.cons rfl (fun K hK => ?_) AllReadyH.nil)
    go_simp
    refine (HSE.out _).mono ?_
    rintro e v3 ⟨rfl, bw⟩
    have H903 := Lib.hid (show Live w1 v3 _ _ _ _ from ⟨H902.out.sys.but (but_below (T := fun _ => False) bw) (fun _ _ h => h), H902.out.new, H902.out.bel.trans (bw.mono H902.out.bel.size)⟩)
    have X903 := Lib.hid (X902.out.below bw)
    clear bw
    go_simp
    skip
    refine hK.out _ _ ⟨X903.out.cell 0, X903.out.cell 5, X903.out.cell 6⟩ (fun hh => ?_)
    have HH' := Lib.hid hh
    clear hh hK K HH
    have HH := Lib.hid HH'.out
    clear HH'
    try simp only [List.getElem_toArray, List.getElem_cons_succ, List.getElem_cons_zero, Act.put, List.setIfInBounds_toArray, List.set_cons_zero, List.set_cons_succ]
    refine wpAnyH_ready (rs := [11]) (by kernel_rfl) (by simp) (AllReadyH.cons rfl (fun K hK => ?_) AllReadyH.nil)
    go_simp
    refine (live_new H903.out (by show 1 < 1000; omega) (N : Int)).mono ?_
    rintro e v4 ⟨gb4, rfl, F94, h, hf, hb⟩
    have H904 := Lib.hid h
    have X904 := Lib.hid (X903.out.but hb N902.out.1)
    have N904 := Lib.hid (show ¬F94 bX ∧ w1.heap.size ≤ bX from ⟨fun h => (hf bX h).elim N902.out.1 (fun h => by have := X903.out.lt; omega), N902.out.2⟩)
    clear h hf hb
    go_simp
    skip
    refine hK.out _ _ ⟨X904.out.cell 0, X904.out.cell 5, X904.out.cell 6⟩ (fun hh => ?_)
    have HH' := Lib.hid hh
    clear hh hK K HH
    have HH := Lib.hid HH'.out
    clear HH'
    try simp only [List.getElem_toArray, List.getElem_cons_succ, List.getElem_cons_zero, Act.put, List.setIfInBounds_toArray, List.set_cons_zero, List.set_cons_succ]
    refine wpAnyH_ready (rs := [13]) (by kernel_rfl) (by simp) (AllReadyH.cons rfl (fun K hK => ?_) AllReadyH.nil)
    have y1 := X904.out.cell 1
    have y2 := X904.out.free 1
    go_simp
    obtain ⟨v5, hv⟩ : ∃ W, W = World.setCell v4 ⟨bX, 1, none⟩ (.pointer (some ⟨ga2, 0, none⟩)) := ⟨_, rfl⟩
    rw [← hv]
    have hb : But (fun k => k = bX) v4 v5 := by rw [hv]; exact But.setCell (S := fun k => k = bX) (But.refl _) (Or.inl rfl) _
    have X905 := Lib.hid (show Blk v5 bX #[.pointer (some ⟨pw, 0, none⟩), .pointer (some ⟨ga2, 0, none⟩), .pointer none, .pointer none, .pointer none, .int .i64 (a : Int), .int .i64 (b : Int)] 73 by rw [hv]; exact heap_setCell_same _ _ _ _ _ _ X904.out)
    have H905 := Lib.hid (live_box H904.out hb N904.out.1 N904.out.2)
    clear hv hb y1 y2
    skip
    refine hK.out _ _ ⟨X905.out.cell 0, X905.out.cell 5, X905.out.cell 6⟩ (fun hh => ?_)
    have HH' := Lib.hid hh
    clear hh hK K HH
    have HH := Lib.hid HH'.out
    clear HH'
    try simp only [List.getElem_toArray, List.getElem_cons_succ, List.getElem_cons_zero, Act.put, List.setIfInBounds_toArray, List.set_cons_zero, List.set_cons_succ]
    refine wpAnyH_take (i := 14) (v := ?vZ614) rfl (by kernel_rfl) (by kernel_rfl) (by kernel_rfl) (fun _ _ _ h => h) (Or.inl ⟨by rfl, fun w' _ => ?yZ614⟩) HH.out ?_
    case yZ614 => (go_simp; try with_reducible rfl)
    try simp only [List.getElem_toArray, List.getElem_cons_succ, List.getElem_cons_zero, Act.put, List.setIfInBounds_toArray, List.set_cons_zero, List.set_cons_succ]
    refine wpAnyH_ready (rs := [15]) (by kernel_rfl) (by simp) (AllReadyH.cons rfl (fun K hK => ?_) AllReadyH.nil)
    have y1 := X905.out.cell 2
    have y2 := X905.out.free 2
    go_simp
    obtain ⟨v7, hv⟩ : ∃ W, W = World.setCell v5 ⟨bX, 2, none⟩ (.pointer (some ⟨gb4, 0, none⟩)) := ⟨_, rfl⟩
    rw [← hv]
    have hb : But (fun k => k = bX) v5 v7 := by rw [hv]; exact But.setCell (S := fun k => k = bX) (But.refl _) (Or.inl rfl) _
    have X907 := Lib.hid (show Blk v7 bX #[.pointer (some ⟨pw, 0, none⟩), .pointer (some ⟨ga2, 0, none⟩), .pointer (some ⟨gb4, 0, none⟩), .pointer none, .pointer none, .int .i64 (a : Int), .int .i64 (b : Int)] 73 by rw [hv]; exact heap_setCell_same _ _ _ _ _ _ X905.out)
    have H907 := Lib.hid (live_box H905.out hb N904.out.1 N904.out.2)
    clear hv hb y1 y2
    skip
    refine hK.out _ _ ⟨X907.out.cell 0, X907.out.cell 5, X907.out.cell 6⟩ (fun hh => ?_)
    have HH' := Lib.hid hh
    clear hh hK K HH
    have HH := Lib.hid HH'.out
    clear HH'
    try simp only [List.getElem_toArray, List.getElem_cons_succ, List.getElem_cons_zero, Act.put, List.setIfInBounds_toArray, List.set_cons_zero, List.set_cons_succ]
    refine wpAnyH_done (by kernel_rfl) ?_ _
    exact hG ga2 gb4 v7 ⟨⟨_, H907.out, N904.out.1⟩, X907.out⟩
  case rest =>
    rintro g1 g2 w5 ⟨⟨F5, hl5, hn5⟩, hx5⟩
    have H5 := Lib.hid hl5
    have X5 := Lib.hid hx5
    have N5 := Lib.hid hn5
    clear hl5 hx5 hn5
    have hzl : ∀ W, (zeroValue 117).run Try.prog W = .ok (.agg zeroLit) W := fun _ => by kernel_rfl
    go_wp2_with fail
    refine wp_region_held_drew (S := (fun w' => w'.cell? ⟨bX, 1, none⟩ = some (.pointer (some ⟨g1, 0, none⟩)) ∧ w'.cell? ⟨bX, 2, none⟩ = some (.pointer (some ⟨g2, 0, none⟩)))) (by kernel_rfl) ⟨(show (World.drew _).cell? _ = _ from X5.out.cell 1), (show (World.drew _).cell? _ = _ from X5.out.cell 2)⟩ (fun hh => ?_)
    have HH := Lib.hid hh
    clear hh
    have H6 := Lib.hid H5.out.drew
    have X6 := Lib.hid (show Blk w5.drew bX _ _ from X5.out)
    clear H5 X5
    obtain ⟨w6, hw6⟩ : ∃ W, W = w5.drew := ⟨_, rfl⟩
    rw [← hw6] at H6 X6 HH ⊢
    clear hw6
    try simp only [List.getElem_toArray, List.getElem_cons_succ, List.getElem_cons_zero, Act.put, List.setIfInBounds_toArray, List.set_cons_zero, List.set_cons_succ]
    refine wpAnyH_take (i := 0) (v := ?vC0) rfl (by kernel_rfl) (by kernel_rfl) (by kernel_rfl) (fun _ _ _ h => h) (Or.inl ⟨by rfl, fun w' _ => ?yC0⟩) HH.out ?_
    case yC0 => (go_simp; try with_reducible rfl)
    try simp only [List.getElem_toArray, List.getElem_cons_zero, Act.put, List.setIfInBounds_toArray, List.set_cons_zero, List.set_cons_succ]
    refine wpAnyH_take (i := 2) (v := ?vC2) rfl (by kernel_rfl) (by kernel_rfl) (by kernel_rfl) (fun _ _ _ h => h) (Or.inl ⟨by rfl, fun w' _ => ?yC2⟩) HH.out ?_
    case yC2 => (go_simp; try with_reducible rfl)
    try simp only [List.getElem_toArray, List.getElem_cons_succ, List.getElem_cons_zero, Act.put, List.setIfInBounds_toArray, List.set_cons_zero, List.set_cons_succ]
    refine wpAnyH_take (i := 1) (v := .pointer (some ⟨g1, 0, none⟩)) rfl (by kernel_rfl) (by kernel_rfl) (by kernel_rfl) (fun _ _ _ h => h) (Or.inl ⟨by rfl, fun w' hw' => ?yC1⟩) HH.out ?_
    case yC1 => ((have hc := hw'.1); go_simp; try with_reducible rfl)
    try simp only [List.getElem_toArray, List.getElem_cons_succ, List.getElem_cons_zero, Act.put, List.setIfInBounds_toArray, List.set_cons_zero, List.set_cons_succ]
    refine wpAnyH_take (i := 3) (v := .pointer (some ⟨g2, 0, none⟩)) rfl (by kernel_rfl) (by kernel_rfl) (by kernel_rfl) (fun _ _ _ h => h) (Or.inl ⟨by rfl, fun w' hw' => ?yC3⟩) HH.out ?_
    case yC3 => ((have hc := hw'.2); go_simp; try with_reducible rfl)
    try simp only [List.getElem_toArray, List.getElem_cons_succ, List.getElem_cons_zero, Act.put, List.setIfInBounds_toArray, List.set_cons_zero, List.set_cons_succ]
    refine wpAnyH_take (i := 4) (v := .agg zeroLit) rfl (by kernel_rfl) (by kernel_rfl) (by kernel_rfl) (fun _ _ _ h => h) (Or.inl ⟨by rfl, fun w' hw' => ?yC4⟩) HH.out ?_
    case yC4 => (go_simp; try with_reducible rfl)
    try simp only [List.getElem_toArray, List.getElem_cons_succ, List.getElem_cons_zero, Act.put, List.setIfInBounds_toArray, List.set_cons_zero, List.set_cons_succ]
    refine wpAnyH_take (i := 5) (v := ?vC5) rfl (by kernel_rfl) (by kernel_rfl) (by kernel_rfl) (fun _ _ _ h => h) (Or.inl ⟨by rfl, fun w' _ => ?yC5⟩) HH.out ?_
    case yC5 => (go_simp; try with_reducible rfl)
    try simp only [List.getElem_toArray, List.getElem_cons_succ, List.getElem_cons_zero, Act.put, List.setIfInBounds_toArray, List.set_cons_zero, List.set_cons_succ]
    refine wpAnyH_ready (rs := [6]) (by kernel_rfl) (by simp) (AllReadyH.cons rfl (fun K hK => ?_) AllReadyH.nil)
    go_simp
    refine (good_iface 117 (.agg zeroLit) _).mono ?_
    rintro e w7 ⟨rfl, hw7⟩
    obtain ⟨bG, hbG⟩ : ∃ v, v = w6.heap.size := ⟨_, rfl⟩
    rw [← hbG]
    have bw : Below w6.heap.size w6 w7 := by rw [hw7]; exact (Below.refl _ _).alloc (Nat.le_refl _) _
    have HBG := Lib.hid (show Blk w7 bG #[litS.v] 164 by rw [hw7, hbG]; exact heap_alloc_new _ _)
    have NG := Lib.hid (show ¬F5 bG ∧ w1.heap.size ≤ bG ∧ bX ≠ bG from ⟨fun hf => by have := H6.out.sys.lt bG hf; omega, by rw [hbG]; exact H6.out.bel.size, by have := X6.out.lt; omega⟩)
    have H7 := Lib.hid (show Live w1 w7 _ _ _ _ from ⟨H6.out.sys.but (but_below (T := fun _ => False) bw) (fun _ _ h => h), H6.out.new, H6.out.bel.trans (bw.mono H6.out.bel.size)⟩)
    have X7 := Lib.hid (X6.out.below bw)
    clear bw hw7 hbG
    go_simp
    refine hK.out _ _ ⟨X7.out.cell 1, X7.out.cell 2⟩ (fun hh => ?_)
    have HH' := Lib.hid hh
    clear hh hK K HH H6 X6
    have HH := Lib.hid HH'.out
    clear HH'
    try simp only [List.getElem_toArray, List.getElem_cons_succ, List.getElem_cons_zero, Act.put, List.setIfInBounds_toArray, List.set_cons_zero, List.set_cons_succ]
    refine wpAnyH_ready (rs := [7]) (by kernel_rfl) (by simp) (AllReadyH.cons rfl (fun K hK => ?_) AllReadyH.nil)
    go_simp
    have hsee := Mu.see_new N HN.out.2
    refine (lm_newB (G := gdS litS bG) (fun _ _ _ _ _ _ => trivial) (Mu.ld_new (g1 := g1) (g2 := g2) H7.out hsee.1 hsee.2) (fun y hy => by rw [show (gdS litS bG).l = [(bG, #[litS.v], 164)] from rfl, List.mem_singleton] at hy; subst hy; exact ⟨HBG.out, NG.out.1, NG.out.2.1⟩) (n := N) List.length_replicate List.length_replicate).mono ?_
    rintro e w8 ⟨g, s8, F8, rfl, h, hf, hb⟩
    have H8 := Lib.hid h
    have NX : ¬F5 bX ∧ bX ≠ bG := ⟨N5.out, NG.out.2.2⟩
    have hmem : ∀ k, (∃ y ∈ (gdS litS bG).l, k = y.1) → k = bG := fun k hk => by obtain ⟨y, hy, e⟩ := hk; rw [show (gdS litS bG).l = [(bG, #[litS.v], 164)] from rfl, List.mem_singleton] at hy; rw [e, hy]
    have X8 := Lib.hid (X7.out.but hb (fun hx => hx.elim NX.1 (fun h => NX.2 (hmem _ h))))
    have N8 := Lib.hid (show ¬F8 bX from fun hx => (hf bX hx).elim (fun hx => hx.elim NX.1 (fun h => NX.2 (hmem _ h))) (fun hx => by have := X7.out.lt; omega))
    clear h hf hb hsee NX hmem
    go_simp
    refine hK.out _ _ ⟨X8.out.cell 1, X8.out.cell 2⟩ (fun hh => ?_)
    have HH' := Lib.hid hh
    clear hh hK K HH H7 X7 HBG NG N5
    have HH := Lib.hid HH'.out
    clear HH'
    try simp only [List.getElem_toArray, List.getElem_cons_succ, List.getElem_cons_zero, Act.put, List.setIfInBounds_toArray, List.set_cons_zero, List.set_cons_succ]
    refine wpAnyH_take (i := 8) (v := ?vD8) rfl (by kernel_rfl) (by kernel_rfl) (by kernel_rfl) (fun _ _ _ h => h) (Or.inl ⟨by rfl, fun w' _ => ?yD8⟩) HH.out ?_
    case yD8 => (go_simp; try with_reducible rfl)
    try simp only [List.getElem_toArray, List.getElem_cons_succ, List.getElem_cons_zero, Act.put, List.setIfInBounds_toArray, List.set_cons_zero, List.set_cons_succ]
    refine wpAnyH_ready (rs := [9]) (by kernel_rfl) (by simp) (AllReadyH.cons rfl (fun K hK => ?_) AllReadyH.nil)
    have y1 := X8.out.cell 3
    have y2 := X8.out.free 3
    go_simp
    obtain ⟨w9, hv⟩ : ∃ W, W = World.setCell w8 ⟨bX, 3, none⟩ (.pointer (some ⟨g, 0, none⟩)) := ⟨_, rfl⟩
    rw [← hv]
    have hb : But (fun k => k = bX) w8 w9 := by rw [hv]; exact But.setCell (S := fun k => k = bX) (But.refl _) (Or.inl rfl) _
    have X9 := Lib.hid (show Blk w9 bX #[.pointer (some ⟨pw, 0, none⟩), .pointer (some ⟨g1, 0, none⟩), .pointer (some ⟨g2, 0, none⟩), .pointer (some ⟨g, 0, none⟩), .pointer none, .int .i64 (a : Int), .int .i64 (b : Int)] 73 by rw [hv]; exact heap_setCell_same _ _ _ _ _ _ X8.out)
    have H9 := Lib.hid (lm_box H8.out hb N8.out NF.out.2)
    clear hv hb y1 y2
    refine hK.out _ _ ⟨X9.out.cell 1, X9.out.cell 2⟩ (fun hh => ?_)
    clear hh hK K HH H8 X8
    try simp only [List.getElem_toArray, List.getElem_cons_succ, List.getElem_cons_zero, Act.put, List.setIfInBounds_toArray, List.set_cons_zero, List.set_cons_succ]
    refine wpAnyH_done (by kernel_rfl) ?_ _
    have c3 := X9.out.cell 3
    have c5 := X9.out.cell 5
    have c6 := X9.out.cell 6
    go_wp2_with fail
    refine (lgm_new H9.out a b HOK.out (by show 2 + a * b ≤ (List.replicate N false).length; rw [List.length_replicate, HN.out.1]; exact Nat.le_refl _)).mono ?_
    rintro e w10 ⟨q, F10, rfl, h, hf, bw⟩
    have H10 := Lib.hid h
    have X10 := Lib.hid (X9.out.below bw)
    have N10 := Lib.hid (show ¬F10 bX from fun hx => (hf bX hx).elim N8.out (fun h => by have := X9.out.lt; omega))
    clear h hf bw c3 c5 c6 H9 X9 N8
    have y1 := X10.out.cell 4
    have y2 := X10.out.free 4
    go_wp2_with (show wpList _ _ _ ({ dst := _, op := .load 73 (.tmp 6), type := _, pos := _, after := _, guard := _ } :: _) _ _
                 apply Classical.byContradiction
                 intro hneg)
    refine hneg ?_
    clear hneg
    obtain ⟨w11, hv⟩ : ∃ W, W = World.setCell w10 ⟨bX, 4, none⟩ (.pointer (some ⟨q, 0, none⟩)) := ⟨_, rfl⟩
    rw [← hv]
    have hb : But (fun k => k = bX) w10 w11 := by rw [hv]; exact But.setCell (S := fun k => k = bX) (But.refl _) (Or.inl rfl) _
    have X11 := Lib.hid (show Blk w11 bX (rigC pw g1 g2 g q a b) 73 by rw [hv]; exact heap_setCell_same _ _ _ _ _ _ X10.out)
    have H11 := Lib.hid (lgm_box H10.out hb N10.out NF.out.2)
    have R11 := Lib.hid (R1.out.below H11.out.live.bel)
    clear hv hb y1 y2 H10 X10
    refine wpList_load_row rfl 73 (.tmp 6) rfl bX rfl 73 (rigC pw g1 g2 g q a b) (0, 0) _ X11.out Try.underlying73 rfl rfl ?_
    go_wp2_with (show wpList _ _ _ ({ dst := _, op := .store 73 (.tmp 4) (.tmp 62), type := _, pos := _, after := _, guard := _ } :: _) _ _
                 apply Classical.byContradiction
                 intro hneg)
    refine hneg ?_
    clear hneg
    refine wpList_store_row rfl 73 (.tmp 4) (.tmp 62) rfl w.heap.size (rigC pw g1 g2 g q a b) rfl rfl 73 _ R11.out rfl rfl (by simp [rigC, Value.oneCell']) ?_
    go_wp2_with fail
    have hs1 : w.heap.size < w1.heap.size := R1.out.lt
    have hres := fun tm htm => results_ct8 (P := Try.prog) Try.results33 tm (w11.setRow w.heap.size (rigC pw g1 g2 g q a b)) w.heap.size 73 (rigC pw g1 g2 g q a b) _ htm (setRow_heap _ _ _ _ _ _ R11.out) Try.underlying73 rfl rfl
    refine bodyPost_ret (hres _ rfl) rfl ⟨pw, g1, g2, bG, g, q, s8, F10, rfl, ?_⟩
    have h := lgm_box (LgM.base H11.out BW1.out) (b := w.heap.size) (w' := w11.setRow w.heap.size (rigC pw g1 g2 g q a b)) (But.setRow (S := fun k => k = w.heap.size) (But.refl _) (Or.inl rfl) _) (fun hx => by have := H11.out.live.new _ hx; omega) (Nat.le_refl _)
    have e : (Sc.startM (zerosL (2 + a * b)) (zerosL (2 + a * b)) (2 + a * b)) = ⟨List.replicate N zeroS, List.replicate N zeroS, false, false, List.replicate N false, List.replicate N false⟩ := by rw [← HN.out.1]; rfl
    rw [e]
    exact h
end Go.Proofs.Ytnplhagfmfggcaa.Lo
/-
  A log no segment of which was freed, on two devices that are both in and alike: what stands is all that was appended.
-/
namespace Go.Proofs.Ytnplhagfmfggcaa.Lo
open Go.RowKit Kd Mi Sx
theorem one_write {L M : List (List UInt8)} {n j : Nat} (hj : j < n) (y : List UInt8) : (Sc.startM L M n).write j y = (0, Sc.startM (L.set j y) (M.set j y) n) := by
  have hh : (Sc.startM L M n).has (j : Int) = true := by rw [Md.has, Sc.start_len]; simp; omega
  have hr : (List.replicate n false).set j false = List.replicate n false := by
    apply List.ext_getElem
    · simp
    · intro i h1 h2
      rw [List.getElem_set]
      simp
  rw [Md.write, hh, if_pos rfl, if_neg (by show ¬ (false && false) = true; simp), Int.toNat_natCast]
  show ((0 : Int), (⟨L.set j y, M.set j y, false, false, (List.replicate n false).set j false, (List.replicate n false).set j false⟩ : Md)) = _
  rw [hr]; rfl
theorem one_read {L : List (List UInt8)} {n k : Nat} {f : Int → List UInt8 → Bool} (hk : k < n) : (Sc.startM L L n).read f (k : Int) = if f (k : Int) (L.getD k zeroS) then (L.getD k zeroS, 0) else (zeroS, 9) := by
  obtain ⟨y, hy⟩ : ∃ y, y = L.getD k zeroS := ⟨_, rfl⟩
  rw [← hy]
  have hh : (Sc.startM L L n).has (k : Int) = true := by rw [Md.has, Sc.start_len]; simp; omega
  have h0 : (Sc.startM L L n).right f 0 k = f (k : Int) y := by
    rw [Md.right]
    show (!((List.replicate n false).getD k false) && (!false && f (k : Int) (L.getD k zeroS))) = _
    rw [← hy, show (List.replicate n false).getD k false = false by rw [List.getD_eq_getElem?_getD, List.getElem?_replicate]; split <;> rfl]; rfl
  have h1 : (Sc.startM L L n).right f 1 k = f (k : Int) y := by
    rw [Md.right]
    show (!((List.replicate n false).getD k false) && (!false && f (k : Int) (L.getD k zeroS))) = _
    rw [← hy, show (List.replicate n false).getD k false = false by rw [List.getD_eq_getElem?_getD, List.getElem?_replicate]; split <;> rfl]; rfl
  rw [Md.read, hh, if_pos rfl, Int.toNat_natCast, h0, h1]
  show (if f (k : Int) y = true then (L.getD k zeroS, (0 : Int)) else if f (k : Int) y = true then (L.getD k zeroS, 0) else (zeroS, if (false && false) = true then 13 else 9)) = _
  rw [← hy]
  cases f (k : Int) y <;> rfl
/-- What Read tells of one list. -/
theorem one_readX {L : List (List UInt8)} {n k b : Nat} {l : Lg} (hk : k < n) :
    readX (gdS litS b) (Sc.startM L L n) l (k : Int) = (if 2 ≤ k ∧ k < 2 + l.gens.length * l.size ∧ l.gens.getD ((k - 2) / l.size) 0 ≠ 0 then
      (match seenA litSumL L k with
        | some p => if p.1 = l.gens.getD ((k - 2) / l.size) 0 then (p.2, 0) else ([], 9)
        | none => ([], 9)) else ([], 2) : List UInt8 × Int) := by
  have hr := one_read (L := L) (n := n) (f := (gdS litS b).f) hk
  obtain ⟨r, hr'⟩ : ∃ r, r = (Sc.startM L L n).read (gdS litS b).f (k : Int) := ⟨_, rfl⟩
  rw [← hr'] at hr
  rw [readX, ← hr', Int.toNat_natCast]
  by_cases hc : 2 ≤ k ∧ k < 2 + l.gens.length * l.size ∧ l.gens.getD ((k - 2) / l.size) 0 ≠ 0
  · have hz : (k : Int) < 2 + (l.gens.length : Int) * (l.size : Int) := by
      have := hc.2.1
      have e : ((l.gens.length * l.size : Nat) : Int) = (l.gens.length : Int) * (l.size : Int) := Int.natCast_mul _ _
      omega
    rw [if_pos ⟨by omega, hz, hc.2.2⟩, if_pos hc]
    by_cases ho : okS litSumL (k : Int) (L.getD k zeroS) = true
    · have e : r = (L.getD k zeroS, 0) := by rw [hr]; exact if_pos ho
      rw [seenA, if_pos ho, e, if_pos rfl]
      show (if okS litSumL (k : Int) (L.getD k zeroS) = true ∧ genS (L.getD k zeroS) = l.gens.getD ((k - 2) / l.size) 0 then (bodyS (L.getD k zeroS), (0 : Int)) else ([], 9)) = (if genS (L.getD k zeroS) = l.gens.getD ((k - 2) / l.size) 0 then (bodyS (L.getD k zeroS), (0 : Int)) else ([], 9))
      by_cases hg : genS (L.getD k zeroS) = l.gens.getD ((k - 2) / l.size) 0
      · rw [if_pos ⟨ho, hg⟩, if_pos hg]
      · rw [if_neg (fun h => hg h.2), if_neg hg]
    · have e : r = (zeroS, 9) := by rw [hr]; exact if_neg ho
      rw [seenA, if_neg ho, e, if_neg (show ¬(9 : Int) = 0 by omega)]
  · have hz : ¬(2 ≤ (k : Int) ∧ (k : Int) < 2 + (l.gens.length : Int) * (l.size : Int) ∧ l.gens.getD ((k - 2) / l.size) 0 ≠ 0) := fun h => hc ⟨by omega, by
      have := h.2.1
      have e : ((l.gens.length * l.size : Nat) : Int) = (l.gens.length : Int) * (l.size : Int) := Int.natCast_mul _ _
      omega, h.2.2⟩
    rw [if_neg hz, if_neg hc]
section
variable {p g1 g2 bx g q : Nat} {w0 w w' : World} {s s' : Mr (Mu.one p g1 g2)} {F : Nat → Prop} {size segs m : Nat} {L all : List (List UInt8)}
/-- A log to which all was appended, no segment of which was freed. -/
structure LgA (p g1 g2 bx g q : Nat) (w0 w : World) (s : Mr (Mu.one p g1 g2)) (F : Nat → Prop) (size segs : Nat) (L all : List (List UInt8)) (m : Nat) : Prop where
  lg : LgM p g1 g2 (gdS litS bx) g q w0 w s (lgT size segs all.length) F (Sc.startM L L (2 + segs * size)) m
  len : L.length = 2 + segs * size
  has : hasT litSumL size (segs * size) L all
  ok : Sg.okS (segs : Int) (size : Int)
  le : all.length ≤ segs * size
  small : segs * size < 2000
def RetLA (v : Value) (p g1 g2 bx g q : Nat) (w0 : World) (size segs : Nat) (all : List (List UInt8)) (m : Nat) (F : Nat → Prop) (w : World) (e : Ending) (w' : World) : Prop :=
  e = .returned v ∧ ∃ (s : Mr (Mu.one p g1 g2)) (F' : Nat → Prop) (L : List (List UInt8)), LgA p g1 g2 bx g q w0 w' s F' size segs L all m ∧ Mv (LogL (Mu.one p g1 g2) (gdS litS bx) g q litS) w F w' (s, lgT size segs all.length) F'
theorem LgA.below (h : LgA p g1 g2 bx g q w0 w s F size segs L all m) (hb : Below w.heap.size w w') : LgA p g1 g2 bx g q w0 w' s F size segs L all m := ⟨h.lg.below hb, h.len, h.has, h.ok, h.le, h.small⟩
theorem LgA.more (h : LgA p g1 g2 bx g q w0 w s F size segs L all m) {m' : Nat} (hm : m ≤ m') : LgA p g1 g2 bx g q w0 w s F size segs L all m' := ⟨h.lg.more hm, h.len, h.has, h.ok, h.le, h.small⟩
theorem LgA.pos (h : LgA p g1 g2 bx g q w0 w s F size segs L all m) : 0 < size ∧ 0 < segs := by have := h.ok; unfold Sg.okS at this; omega
theorem lgTlast (size segs T : Nat) : (lgT size segs T).last ≤ T + 1 := by
  have h := (last_Q (size := size) (segs := segs) (q := T / size) (r := T % size)).1
  have h2 : T / size ≤ T := Nat.div_le_self _ _
  show (lgQ size segs (T / size) (T % size)).last ≤ T + 1
  omega
/-- One more. -/
theorem lga_append (h : LgA p g1 g2 bx g q w0 w s F size segs L all m) (hT : all.length < segs * size) (hm : m < 900000) (A : Option Addr) (n c : Nat) (b : List UInt8) (hb : b.length = n) (hb3 : n ≤ 103) (hr : Rd w.heap.size w A (bv b)) :
    Calls Try.prog 38 #[.pointer (some ⟨q, 0, none⟩), .slice A n c] w (RetLA (.tuple #[.int .i64 ((2 + all.length : Nat) : Int), .int .i64 0]) p g1 g2 bx g q w0 size segs (all ++ [b]) (m + 2) F w) := by
  have hp := h.pos.1
  have hl := lgTlast size segs all.length
  have hs := h.small
  have hat : (lgT size segs all.length).at_ (all.length / size, all.length % size, all.length / size + 1) = 2 + all.length := at_T
  have hw := one_write (L := L) (M := L) (n := 2 + segs * size) (j := 2 + all.length) (by omega) (sealedS litS.f ((2 + all.length : Nat) : Int) (all.length / size + 1) b)
  have hc := lgm_append h.lg hm (by omega) hp (next_T hp hT) A n c b hb hb3 hr (by rw [hat, hw])
  rw [hat, hw, put_T hp] at hc
  refine hc.mono ?_
  rintro e w' ⟨rfl, s', F', hlg, hmv⟩
  have e : (all ++ [b]).length = all.length + 1 := by simp
  refine ⟨rfl, s', F', _, ⟨by rw [e]; exact hlg, by rw [List.length_set]; exact h.len, hasTsnoc litSumL_length h.has (by omega) hT (by rw [h.len]; omega) (by omega), h.ok, by rw [e]; omega, hs⟩, by rw [e]; exact hmv⟩
theorem lga_full (h : LgA p g1 g2 bx g q w0 w s F size segs L all m) (hT : all.length = segs * size) (hm : m < 900000) (A : Option Addr) (n c : Nat) (b : List UInt8) (hb : b.length = n) (hb3 : n ≤ 103) (hr : Rd w.heap.size w A (bv b)) :
    Calls Try.prog 38 #[.pointer (some ⟨q, 0, none⟩), .slice A n c] w (RetLA (.tuple #[.int .i64 0, .int .i64 6]) p g1 g2 bx g q w0 size segs all m F w) := by
  have hl := lgTlast size segs all.length
  have hs := h.small
  have hc := lgm_append_full h.lg hm (by omega) (by rw [hT]; exact next_full h.pos.1) A n c b hb hb3 hr
  refine hc.mono ?_
  rintro e w' ⟨rfl, s', F', hlg, hmv⟩
  exact ⟨rfl, s', F', L, ⟨hlg, h.len, h.has, h.ok, h.le, h.small⟩, hmv⟩
theorem lga_flush (h : LgA p g1 g2 bx g q w0 w s F size segs L all m) : Calls Try.prog 37 #[.pointer (some ⟨q, 0, none⟩)] w (RetLA (.int .i64 0) p g1 g2 bx g q w0 size segs all 0 F w) := by
  refine (lgm_flush h.lg).mono ?_
  rintro e w' ⟨rfl, s', F', hlg, hmv⟩
  exact ⟨rfl, s', F', L, ⟨hlg, h.len, h.has, h.ok, h.le, h.small⟩, hmv⟩
/-- What was appended is read. -/
theorem lga_read (h : LgA p g1 g2 bx g q w0 w s F size segs L all m) {t : Nat} (ht : t < all.length) :
    Calls Try.prog 42 #[.pointer (some ⟨q, 0, none⟩), .int .i64 ((2 + t : Nat) : Int)] w (fun e w' => ∃ A n c F', e = .returned (.tuple #[.slice A n c, .int .i64 0]) ∧ w'.ownsRow w.heap.size 5 1 (.slice A n c) n (bv (all.getD t [])) ∧
      LgA p g1 g2 bx g q w0 w' s F' size segs L all m ∧ Mv (LogL (Mu.one p g1 g2) (gdS litS bx) g q litS) w F w' (s, lgT size segs all.length) F' ∧ ∀ j, (Value.slice A n c).ownBlock = some j → ¬F' j) := by
  have hp := h.pos.1
  have hle := h.le
  have hq : t / size < segs := (div_lt_segs hp).2 (by omega)
  have hg : (lgT size segs all.length).gens.getD (t / size) 0 = t / size + 1 := by
    have h1 : t / size < all.length / size ∨ (t / size = all.length / size ∧ 0 < all.length % size) := by
      rcases Nat.lt_or_ge (t / size) (all.length / size) with h1 | h1
      · exact .inl h1
      · have h2 : t / size ≤ all.length / size := Nat.div_le_div_right (by omega)
        refine .inr ⟨by omega, ?_⟩
        have h3 := Nat.div_add_mod all.length size
        have h4 := Nat.div_add_mod t size
        have h5 : t / size = all.length / size := by omega
        rw [h5] at h4
        omega
    simp only [lgT, lgQ, List.getD_eq_getElem?_getD, List.getElem?_map, List.getElem?_range hq, Option.map_some, Option.getD_some]
    rw [if_pos h1]
  have hgl : (lgT size segs all.length).gens.length = segs := by simp [lgT, lgQ]
  have e : readX (gdS litS bx) (Sc.startM L L (2 + segs * size)) (lgT size segs all.length) ((2 + t : Nat) : Int) = (all.getD t [], 0) := by
    have hsz : (lgT size segs all.length).size = size := rfl
    rw [one_readX (by omega), hgl, hsz, show 2 + t - 2 = t by omega, hg, if_pos ⟨by omega, by omega, Nat.succ_ne_zero _⟩, Nat.add_comm 2 t, h.has t (by omega), if_pos ht]
    show (if t / size + 1 = t / size + 1 then (all.getD t [], (0 : Int)) else ([], 9)) = _
    rw [if_pos rfl]
  have hc := lgm_read h.lg ((2 + t : Nat) : Int)
  rw [e] at hc
  refine hc.mono ?_
  rintro e w' ⟨A, n, c, F', rfl, ho, hlg, hmv, hd⟩
  exact ⟨A, n, c, F', rfl, ho, ⟨hlg, h.len, h.has, h.ok, h.le, h.small⟩, hmv, hd⟩
theorem made_lga {a b : Nat} (hab : a * b < 24 + 1) (hok : Sg.okS (a : Int) (b : Int)) (h : LgM p g1 g2 (gdS litS bx) g q w0 w s (Lg.new a b) F (Sc.startM (zerosL (2 + a * b)) (zerosL (2 + a * b)) (2 + a * b)) m) : LgA p g1 g2 bx g q w0 w s F b a (zerosL (2 + a * b)) [] m :=
  ⟨by rw [List.length_nil, lgTzero]; exact h, by simp [zerosL], hasTzero (fun k hk => zero_no (by omega)), hok, Nat.zero_le _, by omega⟩
end
end Go.Proofs.Ytnplhagfmfggcaa.Lo
/-
  The reference's log: New, Copy, Append.
-/
namespace Go.Proofs.Ytnplhagfmfggcaa.Lo
open Go.RowKit
attribute [local go_sem ↓] Go.wp_at_zero Go.wp_at_succ
theorem make_u64s (W : World) (k : Nat) (hk : k ≤ 1000) : (Instr.makeSlice 76 (.int .i64 k) (.int .i64 k)).run Try.prog W = .ok (.slice (some ⟨W.heap.size, 0, none⟩) k k) (W.alloc (.cells (gv (List.replicate k 0)).toArray 77)) := by
  obtain ⟨i, hi, hz, hs, hby⟩ := info_parts u64Elt.info
  have h := run_makeSlice (P := Try.prog) W 76 77 i _ Try.underlying76 hi hz .i64 .i64 (k : Int) (k : Int) (by omega) (Int.le_refl _) (by rw [hs, Int.toNat_natCast]; omega) (by rw [hby]; omega) (by omega)
  have e : madeCells (Value.int .u64 0).cells (k * 1) = (gv (List.replicate k 0)).toArray := by
    apply Array.toList_inj.1
    rw [zero_gv]
  rw [Int.toNat_natCast, hs, e] at h
  exact h
set_option maxRecDepth 100000 in
set_option maxHeartbeats 1600000 in
theorem refnew_any (a b : Nat) (ha : a ≤ 1000) (w : World) : Calls Try.prog 34 #[.int .i64 a, .int .i64 b] w (RetRL (Lg.new a b) w) := by
  have hmk : ∀ W, (Instr.makeSlice 76 (.int .i64 (a : Int)) (.int .i64 (a : Int))).run Try.prog W = .ok (.slice (some ⟨W.heap.size, 0, none⟩) a a) (W.alloc (.cells (gv (List.replicate a 0)).toArray 77)) := fun W => make_u64s W a ha
  go_enter Try.func34, Try.ntmps34
  go_wp2_with fail
  have hl : (Lg.new a b).gens.length = a := List.length_replicate
  refine bodyPost_ret (v := .agg (rlC (Lg.new a b) (some ⟨w.heap.size + 1, 0, none⟩) a a)) (results_cell_row Try.results34 _ _ w.heap.size 79 (rlC (Lg.new a b) (some ⟨w.heap.size + 1, 0, none⟩) a a) (0, 0) _ rfl (heap_alloc2_old _ _ _) Try.underlying79 rfl rfl) rfl ⟨some ⟨w.heap.size + 1, 0, none⟩, a, by rw [hl], ?_, ((Below.refl _ _).alloc (Nat.le_refl _) _).alloc (by simp) _⟩
  rw [hl]
  have h := World.ownsRow_lit (w.alloc (Obj.cells (rlC (Lg.new a b) (some ⟨w.heap.size + 1, 0, none⟩) a a) 79)) (gv (List.replicate a 0)).toArray a (base := w.heap.size) (e := 77) (size := 1) (by simp) (by unfold maxLen; omega) (by simp [gv])
  rw [show (w.alloc (Obj.cells (rlC (Lg.new a b) (some ⟨w.heap.size + 1, 0, none⟩) a a) 79)).heap.size = w.heap.size + 1 by simp] at h
  exact h
set_option maxRecDepth 100000 in
set_option maxHeartbeats 1600000 in
theorem rcopy_any (l : Lg) (A : Option Addr) (n c : Nat) (hn : l.gens.length = n) (hs : n ≤ 1000) (w : World) (hr : Rd w.heap.size w A (gv l.gens)) :
    Calls Try.prog 35 #[.agg (rlC l A n c)] w (RetRL l w) := by
  have HR := Lib.hid hr
  have HN := Lib.hid hn
  have HS := Lib.hid hs
  clear hr hn hs
  unfold rlC
  obtain ⟨W, hW⟩ : ∃ W, W = ((w.alloc (.cells #[.int .i64 (l.size : Int), .int .i64 l.headI, .int .i64 l.slotI, .slice A n c, .int .u64 (l.last : Int)] 79)).alloc (.cells #[.int .i64 0, .int .i64 0, .int .i64 0, .slice none 0 0, .int .u64 0] 79)) := ⟨_, rfl⟩
  have hWs : W.heap.size = w.heap.size + 1 + 1 := by rw [hW]; simp
  have HWb := Lib.hid (show Below w.heap.size w W by rw [hW]; exact ((Below.refl _ _).alloc (Nat.le_refl _) _).alloc (by simp) _)
  have X1 := Lib.hid (show Blk W w.heap.size #[.int .i64 (l.size : Int), .int .i64 l.headI, .int .i64 l.slotI, .slice A n c, .int .u64 (l.last : Int)] 79 by rw [hW]; exact heap_alloc2_old _ _ _)
  have X2 := Lib.hid (show Blk W (w.heap.size + 1) #[.int .i64 0, .int .i64 0, .int .i64 0, .slice none 0 0, .int .u64 0] 79 by rw [hW]; exact heap_alloc2_new _ _ _)
  have HO := Lib.hid (show (W.alloc (.cells #[] 77)).ownsRow W.heap.size 77 1 (.slice (some ⟨W.heap.size, 0, none⟩) 0 0) 0 [] from World.ownsRow_lit W #[] 0 (Nat.le_refl _) (Nat.zero_le _) rfl)
  have HB := Lib.hid ((Below.refl W.heap.size W).alloc (Nat.le_refl _) (.cells #[] 77))
  have HR3 := Lib.hid (show Rd w.heap.size (W.alloc (.cells #[] 77)) A (gv l.gens) from (HR.out.below HWb.out).below (HB.out.mono (by rw [hWs]; omega)))
  rw [hWs, hW] at HO HB
  rw [hW] at HR3
  rw [hW] at X1 X2
  go_enter Try.func35, Try.ntmps35
  go_wp2_with (first
    | (at_builtin
       refine wpList_app _ rfl (.tmp 3) (.tmp 5) 76 rfl u64Elt (base := w.heap.size + 1 + 1) (v := .slice (some ⟨w.heap.size + 1 + 1, 0, none⟩) 0 0) rfl HO.out (m := n) rfl HR3.out (by rw [gv_length, HN.out]) (gv_one _) (by have := HS.out; omega) (by simp) ?_
       intro A3 c3 w3 ho3 hg3 _
       have hb3 : Below (w.heap.size + 1 + 1) ((w.alloc (.cells #[.int .i64 (l.size : Int), .int .i64 l.headI, .int .i64 l.slotI, .slice A n c, .int .u64 (l.last : Int)] 79)).alloc (.cells #[.int .i64 0, .int .i64 0, .int .i64 0, .slice none 0 0, .int .u64 0] 79)) w3 := app_below HB.out HO.out hg3 (Nat.le_refl _) (by simp)
       have Y1 := Lib.hid (show Blk w3 w.heap.size _ _ from (hb3.block _ (by omega)).trans X1.out)
       have Y2 := Lib.hid (show Blk w3 (w.heap.size + 1) _ _ from (hb3.block _ (by omega)).trans X2.out)
       have O3 := Lib.hid (own_eq ho3 (Nat.zero_add n) (List.nil_append _))
       rw [Nat.zero_add]
       have y1 := Y1.out.cell 3
       have y2 := Y1.out.free 3
       clear ho3 hg3 HO HB HR3)
    | (show wpList _ _ _ ({ dst := _, op := .load 79 (.tmp 1), type := _, pos := _, after := _, guard := _ } :: _) _ _
       apply Classical.byContradiction
       intro hneg))
  refine hneg ?_
  clear hneg
  obtain ⟨w4, hw4⟩ : ∃ x, x = w3.setCell ⟨w.heap.size, 3, none⟩ (.slice A3 n c3) := ⟨_, rfl⟩
  rw [← hw4]
  have hbut : But (fun k => k = w.heap.size) w3 w4 := by rw [hw4]; exact But.setCell (S := fun k => k = w.heap.size) (But.refl _) (Or.inl rfl) _
  have Z1 := Lib.hid (show Blk w4 w.heap.size #[.int .i64 (l.size : Int), .int .i64 l.headI, .int .i64 l.slotI, .slice A3 n c3, .int .u64 (l.last : Int)] 79 by rw [hw4]; exact heap_setCell_same _ _ _ _ _ _ Y1.out)
  have Z2 := Lib.hid (Y2.out.but hbut (by omega))
  have O4 := Lib.hid (Own.but O3.out hbut (fun k hk e => by have := (O3.out.lt k hk).1; omega))
  have HB4 := Lib.hid (show Below w.heap.size w w4 from ((HWb.out.trans (by rw [hW]; exact hb3.mono (by omega))).trans (hbut.below (fun k hk e => by omega) (by have := hb3.size; simp at this; omega))))
  clear hw4 hbut Y1 Y2 O3 hb3 y1 y2
  go_wp2_with (first
    | (refine wpList_load_row rfl 79 (.tmp 1) rfl w.heap.size rfl 79 #[.int .i64 (l.size : Int), .int .i64 l.headI, .int .i64 l.slotI, .slice A3 n c3, .int .u64 (l.last : Int)] (0, 0) _ Z1.out Try.underlying79 rfl rfl ?_)
    | (show wpList _ _ _ ({ dst := _, op := .store 79 (.tmp 2) (.tmp 8), type := _, pos := _, after := _, guard := _ } :: _) _ _
       apply Classical.byContradiction
       intro hneg))
  refine hneg ?_
  clear hneg
  refine wpList_store_row rfl 79 (.tmp 2) (.tmp 8) rfl (w.heap.size + 1) #[.int .i64 (l.size : Int), .int .i64 l.headI, .int .i64 l.slotI, .slice A3 n c3, .int .u64 (l.last : Int)] rfl rfl 79 _ Z2.out rfl rfl (by simp [Value.oneCell']) ?_
  go_wp2_with fail
  have Z5 := Lib.hid (show Blk (w4.setRow (w.heap.size + 1) #[.int .i64 (l.size : Int), .int .i64 l.headI, .int .i64 l.slotI, .slice A3 n c3, .int .u64 (l.last : Int)]) (w.heap.size + 1) _ _ from setRow_heap _ _ _ _ _ _ Z2.out)
  have hn := HN.out
  have hres := fun tm htm => results_cell_row (P := Try.prog) Try.results35 tm _ (w.heap.size + 1) 79 _ (0, 0) _ htm Z5.out Try.underlying79 rfl rfl
  refine bodyPost_ret (hres _ rfl) rfl ⟨A3, c3, by rw [hn]; rfl, ?_, below_setRow HB4.out (by omega) _⟩
  rw [hn]
  have hb5 : But (fun k => k = w.heap.size + 1) w4 (w4.setRow (w.heap.size + 1) #[.int .i64 (l.size : Int), .int .i64 l.headI, .int .i64 l.slotI, .slice A3 n c3, .int .u64 (l.last : Int)]) := But.setRow (S := fun k => k = w.heap.size + 1) (But.refl _) (Or.inl rfl) _
  exact own_more (Own.but O4.out hb5 (fun k hk e => by have := (O4.out.lt k hk).1; omega)) (by omega)
end Go.Proofs.Ytnplhagfmfggcaa.Lo
