/-
  Texts of this seat, one behind the other: MiNew, MiMd, MiMd2, MiMd3, MuMd, MuMd2, MuMd3, MiLaw, MuLaw, ScWalk, ScStep, ScAll, ScMd, ScStart, SxGd, SxMd.
-/
import Derived.Test.YtgfldfofiglefaaMn1
/-
  The contract of mirror.New.
-/
namespace Go.Proofs.Ytgfldfofiglefaa.Mi
open Go.RowKit Kd
attribute [local go_sem ↓] Go.wp_at_zero Go.wp_at_succ
section
variable {C : Duo} {G : Gd} {g : Nat} {w w1 w' : World} {s : Mr C} {A B : Option Addr} {n c m e : Nat} {F1 F : Nat → Prop}
def Mr.row (s : Mr C) (i : Nat) (l : List Bool) : Mr C := if i = 0 then ⟨s.d, l, s.b⟩ else ⟨s.d, s.a, l⟩
/-- A new row of what is stale. -/
theorem ml_setrow (hR : ∀ A n c B m e, G.R A n c B m e) (h : (ML C G g).At w s F) (hb : Below w.heap.size w w1) {q k i : Nat} {l : List Bool} (ho : w1.ownsRow w.heap.size 4 1 (.slice (some ⟨q, 0, none⟩) k k) k (bs l)) (hl : l.length = k) (hi : i < 2) :
    Mv (ML C G g) w F (w1.setCell ⟨g, 2 + i, none⟩ (.slice (some ⟨q, 0, none⟩) k k)) (s.row i l) (fun x => F x ∨ x = q) := by
  obtain ⟨A, n, c, B, m, e, F1, h, h1, h2⟩ := h
  have hlt := h.lt
  have hq := (ho.lt q rfl)
  have h0 : MrR C G g w1 s A n c B m e F1 := h.but (T := fun _ => False) (but_below hb) (fun _ _ h => h)
  have hT : But (fun x => x = g) w1 (w1.setCell ⟨g, 2 + i, none⟩ (.slice (some ⟨q, 0, none⟩) k k)) := but_one _
  have hgw : g < w.heap.size := h.blk.lt
  have ho0 : w1.ownsRow 0 4 1 (.slice (some ⟨q, 0, none⟩) k k) k (bs l) := ⟨ho.1, by
    rcases ho.2 with h3 | ⟨g', cap, cur, h3, _, h4⟩
    · exact .inl h3
    · exact .inr ⟨g', cap, cur, h3, Nat.zero_le _, h4⟩⟩
  have hfin : ∀ x, (F x ∨ x = q) → x < (w1.setCell ⟨g, 2 + i, none⟩ (.slice (some ⟨q, 0, none⟩) k k)).heap.size := by
    rintro x (hx | rfl)
    · exact Nat.lt_of_lt_of_le (h2 x hx) (Nat.le_trans hb.size hT.size)
    · exact Nat.lt_of_lt_of_le hq.2 hT.size
  have hnew : ∀ x, (F x ∨ x = q) → F x ∨ w.heap.size ≤ x := by
    rintro x (hx | rfl)
    · exact .inl hx
    · exact .inr hq.1
  have hbt : But F w (w1.setCell ⟨g, 2 + i, none⟩ (.slice (some ⟨q, 0, none⟩) k k)) := (but_below hb).trans (hT.mono (fun x hx => h1 x (.inl hx)))
  have hoT := Own.but ho0 hT (fun x hx hx' => by injection hx with hx; replace hx : q = x := hx; omega)
  have hdT := C.L.but h0.d hT (fun x hx hx' => h.ag (hx' ▸ hx))
  have hgb : ∀ x ∈ G.l, Blk (w1.setCell ⟨g, 2 + i, none⟩ (.slice (some ⟨q, 0, none⟩) k k)) x.1 x.2.1 x.2.2 ∧ ¬ F1 x.1 := fun x hx => ⟨(h0.gb x hx).1.but hT (fun hx' => h0.box_ne hx h0.blk (.inr rfl) hx'), (h0.gb x hx).2⟩
  rcases two hi with rfl | rfl
  · refine ⟨⟨some ⟨q, 0, none⟩, k, k, B, m, e, F1, ⟨blk_setN8 h0.blk 2 _, hoT, Own.but h0.b hT (fun x hx hx' => h.rows.2 x hx hx'), hl, h.bn, hdT, h.ag, ?_, h.ab, ?_, hR _ _ _ _ _ _, hgb⟩, ?_, hfin⟩, hnew, hbt⟩
    · intro x hx hf
      injection hx with hx; replace hx : q = x := hx
      have := C.L.lt h.d x hf; omega
    · intro x hx hx'
      injection hx with hx; replace hx : q = x := hx
      have := hlt x (.inr (.inr (.inl hx'))); omega
    · rintro x (hx | hx | hx | hx)
      · exact .inl (h1 x (.inl hx))
      · injection hx with hx; exact .inr hx.symm
      · exact .inl (h1 x (.inr (.inr (.inl hx))))
      · exact .inl (h1 x (.inr (.inr (.inr hx))))
  · refine ⟨⟨A, n, c, some ⟨q, 0, none⟩, k, k, F1, ⟨blk_setN8 h0.blk 3 _, Own.but h0.a hT (fun x hx hx' => h.rows.1 x hx hx'), hoT, h.an, hl, hdT, h.ag, h.aa, ?_, ?_, hR _ _ _ _ _ _, hgb⟩, ?_, hfin⟩, hnew, hbt⟩
    · intro x hx hf
      injection hx with hx; replace hx : q = x := hx
      have := C.L.lt h.d x hf; omega
    · intro x hx hx'
      injection hx' with hx'; replace hx' : q = x := hx'
      have := hlt x (.inr (.inl hx)); omega
    · rintro x (hx | hx | hx | hx)
      · exact .inl (h1 x (.inl hx))
      · exact .inl (h1 x (.inr (.inl hx)))
      · injection hx with hx; exact .inr hx.symm
      · exact .inl (h1 x (.inr (.inr (.inr hx))))
/-- How many places a mirror has; a new one. -/
def Duo.places (C : Duo) (d : C.L.St) : Nat := min (C.len d 0) (C.len d 1)
def newM (C : Duo) (d : C.L.St) : Mr C := ⟨d, List.replicate (C.places d) (!(C.there d 0)), List.replicate (C.places d) (!(C.there d 1))⟩
theorem ml_new (hR : ∀ A n c B m e, G.R A n c B m e) {d : C.L.St} (h : C.L.At w d F1) (hG : ∀ x ∈ G.l, Blk w x.1 x.2.1 x.2.2 ∧ ¬ F1 x.1) (hw1 : w1 = w.alloc (.cells (mrC C G none 0 0 none 0 0) 131)) : (ML C G w.heap.size).At w1 ⟨d, [], []⟩ (fun x => (F1 x ∨ ∃ y ∈ G.l, x = y.1) ∨ x = w.heap.size) := by
  have hb : Below w.heap.size w w1 := by rw [hw1]; exact (Below.refl _ _).alloc (Nat.le_refl _) _
  refine ⟨none, 0, 0, none, 0, 0, F1, ⟨by rw [hw1]; exact heap_alloc_new _ _, ⟨rfl, .inl ⟨rfl, rfl⟩⟩, ⟨rfl, .inl ⟨rfl, rfl⟩⟩, rfl, rfl, C.L.below h hb, fun hf => by have := C.L.lt h _ hf; omega, fun q hq => (by cases hq), fun q hq => (by cases hq), fun q hq => (by cases hq), hR _ _ _ _ _ _, fun x hx => ⟨(hG x hx).1.below hb, (hG x hx).2⟩⟩, ?_, ?_⟩
  · rintro x (hx | hx | hx | hx | hx)
    · exact .inr hx
    · cases hx
    · cases hx
    · exact .inl (.inl hx)
    · exact .inl (.inr hx)
  · rintro x ((hx | ⟨y, hy, rfl⟩) | rfl)
    · exact Nat.lt_of_lt_of_le (C.L.lt h x hx) hb.size
    · exact Nat.lt_of_lt_of_le (hG y hy).1.lt hb.size
    · rw [hw1]; simp
theorem ml_len (h : (ML C G g).At w s F) {i : Nat} (hi : i < 2) : Calls Try.prog 22 #[.pointer (C.ptr i)] w (RetB (.int .i64 (C.len s.d i : Int)) w) := by
  obtain ⟨F1, hd, _⟩ := ml_dev h
  exact C.clen hd hi
theorem ml_lenle (h : (ML C G g).At w s F) {i : Nat} (hi : i < 2) : C.len s.d i ≤ 4096 := by
  obtain ⟨F1, hd, _⟩ := ml_dev h
  exact C.len_le hd hi
theorem ml_rowcell (h : (ML C G g).At w s F) {i : Nat} (hi : i < 2) : (∃ v, w.cell? ⟨g, 2 + i, none⟩ = some v) ∧ w.frozen? ⟨g, 2 + i, none⟩ = false ∧ g < w.heap.size := by
  obtain ⟨A, n, c, B, m, e, F1, h, _⟩ := h
  rcases two hi with rfl | rfl
  · exact ⟨⟨_, h.blk.cell 2⟩, h.blk.free 2, h.blk.lt⟩
  · exact ⟨⟨_, h.blk.cell 3⟩, h.blk.free 3, h.blk.lt⟩
theorem own_moreN {w : World} {base base' n size : Nat} {e : TypeId} {v : Value} {xs : List Value} (h : w.ownsRow base e size v n xs) (hb : base' ≤ base) : w.ownsRow base' e size v n xs :=
  ⟨h.1, h.2.imp id (fun ⟨g, cap, cur, h1, h2, h3⟩ => ⟨g, cap, cur, h1, Nat.le_trans hb h2, h3⟩)⟩
theorem gd_cell (G : Gd) : G.v.oneCell' = true := by unfold Gd.v; split <;> rfl
theorem gd_form (G : Gd) : G.v = .nilFunc ∨ ∃ k c, G.v = .func (.func k) #[] c := by
  unfold Gd.v; split
  · exact .inl rfl
  · exact .inr ⟨_, _, rfl⟩
theorem build_mir (p q : Option Addr) (gv : Value) (hg : gv = .nilFunc ∨ ∃ k c, gv = .func (.func k) #[] c) (W : World) : (Instr.build 131 #[(0, .agg #[.pointer p, .pointer q]), (2, gv)]).run Try.prog W = .ok (.agg #[.pointer p, .pointer q, .slice none 0 0, .slice none 0 0, gv]) W := by
  rcases hg with rfl | ⟨k, c, rfl⟩ <;> kernel_rfl
theorem build_two (p q : Option Addr) (W : World) : (Instr.build 52 #[(0, .pointer p), (1, .pointer q)]).run Try.prog W = .ok (.agg #[.pointer p, .pointer q]) W := by kernel_rfl
set_option maxRecDepth 100000 in
set_option maxHeartbeats 12800000 in
theorem new_anyG (hR : ∀ A n c B m e, G.R A n c B m e) {d : C.L.St} (h : C.L.At w d F1) (hG : ∀ x ∈ G.l, Blk w x.1 x.2.1 x.2.2 ∧ ¬ F1 x.1) {FF : Nat → Prop} (hFF : FF = fun x => F1 x ∨ ∃ y ∈ G.l, x = y.1) :
    Calls Try.prog 28 #[.pointer (C.ptr 0), .pointer (C.ptr 1), G.v] w (fun e w' => ∃ g F', e = .returned (.pointer (some ⟨g, 0, none⟩)) ∧ (ML C G g).At w' (newM C d) F' ∧ (∀ q, F' q → FF q ∨ w.heap.size ≤ q) ∧ But FF w w') := by
  obtain ⟨w1, hw1⟩ : ∃ w1, w1 = w.alloc (.cells (mrC C G none 0 0 none 0 0) 131) := ⟨_, rfl⟩
  have H := Lib.hid h
  have HA := Lib.hid (show (ML C G w.heap.size).At w1 ⟨d, [], []⟩ (fun x => FF x ∨ x = w.heap.size) from by rw [hFF]; exact ml_new hR h hG hw1)
  have HR := Lib.hid hR
  obtain ⟨p, hp⟩ : ∃ p, p = C.ptr 0 := ⟨_, rfl⟩
  obtain ⟨q, hq⟩ : ∃ q, q = C.ptr 1 := ⟨_, rfl⟩
  have hgf := gd_form G
  obtain ⟨gv, hgv⟩ : ∃ gv, gv = G.v := ⟨_, rfl⟩
  have HL0 := Lib.hid (show ∀ W s' F', (ML C G w.heap.size).At W s' F' → s'.d = d → Calls Try.prog 22 #[.pointer p] W (RetB (.int .i64 (C.len d 0 : Int)) W) from fun W s' F' h hd => by rw [hp, ← hd]; exact ml_len h (by omega))
  have HL1 := Lib.hid (show ∀ W s' F', (ML C G w.heap.size).At W s' F' → s'.d = d → Calls Try.prog 22 #[.pointer q] W (RetB (.int .i64 (C.len d 1 : Int)) W) from fun W s' F' h hd => by rw [hq, ← hd]; exact ml_len h (by omega))
  have HLE := Lib.hid (show C.places d ≤ 4096 from Nat.le_trans (Nat.min_le_left _ _) (C.len_le h (i := 0) (by omega)))
  have HBM := Lib.hid (build_mir p q gv (by rw [hgv]; exact hgf))
  have HB2 := Lib.hid (build_two p q)
  have HMC : mrC C G none 0 0 none 0 0 = #[.pointer p, .pointer q, .slice none 0 0, .slice none 0 0, gv] := by rw [mrC, hp, hq, hgv]
  rw [HMC] at hw1
  rw [← hp, ← hq, ← hgv]
  have BW1 := Lib.hid (show Below w.heap.size w w1 from by rw [hw1]; exact (Below.refl _ _).alloc (Nat.le_refl _) _)
  obtain ⟨g, hg⟩ : ∃ g, g = w.heap.size := ⟨_, rfl⟩
  rw [← hg] at HA HL0 HL1
  have HG := Lib.hid hg
  obtain ⟨x, hx⟩ : ∃ x, x = C.there d 0 := ⟨_, rfl⟩
  obtain ⟨y, hy⟩ : ∃ y, y = C.there d 1 := ⟨_, rfl⟩
  obtain ⟨k, hk⟩ : ∃ k, k = C.places d := ⟨_, rfl⟩
  have HN := Lib.hid (show newM C d = ⟨d, List.replicate k (!x), List.replicate k (!y)⟩ by rw [newM, hx, hy, hk])
  obtain ⟨la, hla⟩ : ∃ la, la = C.len d 0 := ⟨_, rfl⟩
  obtain ⟨lb, hlb⟩ : ∃ lb, lb = C.len d 1 := ⟨_, rfl⟩
  rw [← hla] at HL0
  rw [← hlb] at HL1
  have HKM := Lib.hid (show (if lb < la then (lb : Int) else (la : Int)) = (k : Int) by rw [hk, Duo.places, ← hla, ← hlb]; split <;> omega)
  rw [← hk] at HLE
  have HET := Lib.hid (each_there HA.out)
  rw [show (Mr.d (⟨d, [], []⟩ : Mr C)) = d from rfl, ← hx, ← hy] at HET
  rw [HN.out]
  clear hp hq hgf hgv HMC h hG hFF hR hx hy hk hla hlb HN
  go_enter Try.func28, Try.ntmps28
  go_wp2_with (first
    | (refine wpList_build rfl 52 #[(0, .tmp 10), (1, .tmp 11)] rfl (v := .agg #[.pointer p, .pointer q]) ?hbld ?_; case hbld => (simp only [List.map_toArray, List.map_cons, List.map_nil]; exact HB2.out _))
    | (refine wpList_build rfl 131 #[(0, .tmp 12), (2, .tmp 13)] rfl (v := .agg #[.pointer p, .pointer q, .slice none 0 0, .slice none 0 0, gv]) ?hbld ?_; case hbld => (simp only [List.map_toArray, List.map_cons, List.map_nil]; exact HBM.out _)))
  rw [← hw1, ← hg]
  clear hw1 hg
  refine HET.out.mono ?_
  rintro e w2 ⟨rfl, F2, hm2⟩
  have M2 := Lib.hid hm2
  clear hm2 HET HB2 HBM
  go_wp2_with fail
  go_loopw [19] (fun i wr => ∃ (j : Nat) (F' : Nat → Prop) (s' : Mr C), i = .int .i64 j ∧ Mv (ML C G g) w1 (fun x => FF x ∨ x = g) wr s' F' ∧ s'.d = d ∧ ((j = 0 ∧ s' = ⟨d, [], []⟩) ∨ (j = 1 ∧ s' = ⟨d, List.replicate k (!x), []⟩) ∨ (j = 2 ∧ s' = ⟨d, List.replicate k (!x), List.replicate k (!y)⟩))) (fun i _ => 2 - (intOf i).toNat)
  case atStart => exact ⟨0, F2, _, rfl, M2.out, rfl, .inl ⟨rfl, rfl⟩⟩
  case round =>
    clear M2
    obtain ⟨j, F', s', rfl, hm, hsd, hj⟩ := hrel
    have M := Lib.hid hm
    have HSD := Lib.hid hsd
    clear hm hsd
    rcases hj with ⟨rfl, hs⟩ | ⟨rfl, hs⟩ | ⟨rfl, hs⟩
    · skip
      have HS := Lib.hid hs
      clear hs
      go_wp2_with (refine wpList_execg8 (o := { dst := some 22, op := .index 50 (.tmp 18) (.tmp 19), type := _, pos := _, after := _, guard := _ }) (v := .bool x) (w' := wr) rfl ?hix ?_; case hix => kernel_rfl)
      refine wp_region_held_drew (S := fun _ => True) (by kernel_rfl) trivial (fun hh => ?_)
      have HH := Lib.hid hh
      clear hh
      refine wpAnyH_take (i := 0) (v := ?vN00) rfl (by kernel_rfl) (by kernel_rfl) (by kernel_rfl) (fun _ _ _ h => h) (Or.inl ⟨by rfl, fun w' _ => ?yN00⟩) HH.out ?_
      case yN00 => (go_simp; try with_reducible rfl)
      refine wpAnyH_take (i := 1) (v := ?vN01) rfl (by kernel_rfl) (by kernel_rfl) (by kernel_rfl) (fun _ _ _ h => h) (Or.inl ⟨by rfl, fun w' _ => ?yN01⟩) HH.out ?_
      case yN01 => (go_simp; try with_reducible rfl)
      try simp only [List.getElem_toArray, List.getElem_cons_succ, List.getElem_cons_zero, Act.put, List.setIfInBounds_toArray, List.set_cons_zero, List.set_cons_succ]
      refine wpAnyH_take (i := 2) (v := ?vN02) rfl (by kernel_rfl) (by kernel_rfl) (by kernel_rfl) (fun _ _ _ h => h) (Or.inl ⟨by rfl, fun w' _ => ?yN02⟩) HH.out ?_
      case yN02 => (go_simp; try with_reducible rfl)
      refine wpAnyH_take (i := 3) (v := ?vN03) rfl (by kernel_rfl) (by kernel_rfl) (by kernel_rfl) (fun _ _ _ h => h) (Or.inl ⟨by rfl, fun w' _ => ?yN03⟩) HH.out ?_
      case yN03 => (go_simp; try with_reducible rfl)
      refine wpAnyH_take (i := 5) (v := ?vN05) rfl (by kernel_rfl) (by kernel_rfl) (by kernel_rfl) (fun _ _ _ h => h) (Or.inl ⟨by rfl, fun w' _ => ?yN05⟩) HH.out ?_
      case yN05 => (go_simp; try with_reducible rfl)
      try simp only [List.getElem_toArray, List.getElem_cons_succ, List.getElem_cons_zero, Act.put, List.setIfInBounds_toArray, List.set_cons_zero, List.set_cons_succ]
      refine wpAnyH_take (i := 7) (v := ?vN07) rfl (by kernel_rfl) (by kernel_rfl) (by kernel_rfl) (fun _ _ _ h => h) (Or.inl ⟨by rfl, fun w' _ => ?yN07⟩) HH.out ?_
      case yN07 => (go_simp; try with_reducible rfl)
      refine wpAnyH_take (i := 11) (v := ?vN011) rfl (by kernel_rfl) (by kernel_rfl) (by kernel_rfl) (fun _ _ _ h => h) (Or.inl ⟨by rfl, fun w' _ => ?yN011⟩) HH.out ?_
      case yN011 => (go_simp; try with_reducible rfl)
      refine wpAnyH_take (i := 12) (v := ?vN012) rfl (by kernel_rfl) (by kernel_rfl) (by kernel_rfl) (fun _ _ _ h => h) (Or.inl ⟨by rfl, fun w' _ => ?yN012⟩) HH.out ?_
      case yN012 => (go_simp; try with_reducible rfl)
      try simp only [List.getElem_toArray, List.getElem_cons_succ, List.getElem_cons_zero, Act.put, List.setIfInBounds_toArray, List.set_cons_zero, List.set_cons_succ]
      refine wpAnyH_ready (rs := [4, 6]) (by kernel_rfl) (by simp) (AllReadyH.cons rfl (fun K hK => ?_) (AllReadyH.cons rfl (fun K hK => ?_) AllReadyH.nil))
      · skip
        go_simp
        refine hK.out _ _ trivial (fun hh => ?_)
        have HH' := Lib.hid hh
        clear hh hK K HH
        have HH := Lib.hid HH'.out
        clear HH'
        have B1 := Lib.hid (show Below wr.heap.size wr (World.alloc wr.drew (.cells #[.bool (!x)] 4)) from ((Below.refl wr.heap.size wr).drew).alloc ((Below.refl wr.heap.size wr).drew).size _)
        have X1 := Lib.hid (show Blk (World.alloc wr.drew (.cells #[.bool (!x)] 4)) wr.drew.heap.size #[.bool (!x)] 4 from heap_alloc_new _ _)
        try simp only [List.getElem_toArray, List.getElem_cons_succ, List.getElem_cons_zero, Act.put, List.setIfInBounds_toArray, List.set_cons_zero, List.set_cons_succ]
        refine wpAnyH_ready (rs := [6]) (by kernel_rfl) (by simp) (AllReadyH.cons rfl (fun K hK => ?_) AllReadyH.nil)
        go_simp
        refine (HL0.out _ _ _ ((ML C G g).below M.out.at_ (B1.out)) HSD.out).mono ?_
        rintro e v2 ⟨rfl, bw⟩
        have B2 := Lib.hid ((B1.out).trans (bw.mono (B1.out).size))
        have X2 := Lib.hid (Blk.below (X1.out) bw)
        clear bw
        go_simp
        refine hK.out _ _ trivial (fun hh => ?_)
        have HH' := Lib.hid hh
        clear hh hK K HH
        have HH := Lib.hid HH'.out
        clear HH'
        try simp only [List.getElem_toArray, List.getElem_cons_succ, List.getElem_cons_zero, Act.put, List.setIfInBounds_toArray, List.set_cons_zero, List.set_cons_succ]
        refine wpAnyH_ready (rs := [8]) (by kernel_rfl) (by simp) (AllReadyH.cons rfl (fun K hK => ?_) AllReadyH.nil)
        go_simp
        refine (HL1.out _ _ _ ((ML C G g).below M.out.at_ (B2.out)) HSD.out).mono ?_
        rintro e v3 ⟨rfl, bw⟩
        have B3 := Lib.hid ((B2.out).trans (bw.mono (B2.out).size))
        have X3 := Lib.hid (Blk.below (X2.out) bw)
        clear bw
        go_simp
        refine hK.out _ _ trivial (fun hh => ?_)
        have HH' := Lib.hid hh
        clear hh hK K HH
        have HH := Lib.hid HH'.out
        clear HH'
        try simp only [List.getElem_toArray, List.getElem_cons_succ, List.getElem_cons_zero, Act.put, List.setIfInBounds_toArray, List.set_cons_zero, List.set_cons_succ]
        refine wpAnyH_take (i := 9) (v := .int .i64 (k : Int)) rfl (by kernel_rfl) (by kernel_rfl) (by kernel_rfl) (fun _ _ _ h => h) (Or.inl ⟨by rfl, fun w' hw' => ?ym39⟩) HH.out ?_
        case ym39 => (go_simp; exact HKM.out)
        try simp only [List.getElem_toArray, List.getElem_cons_succ, List.getElem_cons_zero, Act.put, List.setIfInBounds_toArray, List.set_cons_zero, List.set_cons_succ]
        refine wpAnyH_ready (rs := [10]) (by kernel_rfl) (by simp) (AllReadyH.cons rfl (fun K hK => ?_) AllReadyH.nil)
        go_simp
        refine (repeat_any (a := ⟨wr.drew.heap.size, 0, none⟩) ((X3.out).cell 0) k HLE.out).mono ?_
        rintro e v9 ⟨q9, rfl, ho9, bw9⟩
        have HS9 := Lib.hid (ml_setrow HR.out M.out.at_ ((B3.out).trans (bw9.mono (B3.out).size)) (own_moreN ho9 (B3.out).size) (List.length_replicate ..) (i := 0) (by omega))
        obtain ⟨⟨u9, c9⟩, f9, _⟩ := ml_rowcell ((ML C G g).below M.out.at_ ((B3.out).trans (bw9.mono (B3.out).size))) (i := 0) (by omega)
        have c9' : v9.cell? ⟨g, 2, none⟩ = some u9 := c9
        have f9' : v9.frozen? ⟨g, 2, none⟩ = false := f9
        clear bw9 ho9 c9 f9
        go_simp
        refine hK.out _ _ trivial (fun hh => ?_)
        have HH' := Lib.hid hh
        clear hh hK K HH
        have HH := Lib.hid HH'.out
        clear HH'
        try simp only [List.getElem_toArray, List.getElem_cons_succ, List.getElem_cons_zero, Act.put, List.setIfInBounds_toArray, List.set_cons_zero, List.set_cons_succ]
        refine wpAnyH_take (i := 13) (v := ?vz313) rfl (by kernel_rfl) (by kernel_rfl) (by kernel_rfl) (fun _ _ _ h => h) (Or.inl ⟨by rfl, fun w' _ => ?yz313⟩) HH.out ?_
        case yz313 => (go_simp; try with_reducible rfl)
        try simp only [List.getElem_toArray, List.getElem_cons_succ, List.getElem_cons_zero, Act.put, List.setIfInBounds_toArray, List.set_cons_zero, List.set_cons_succ]
        refine wpAnyH_ready (rs := [14]) (by kernel_rfl) (by simp) (AllReadyH.cons rfl (fun K hK => ?_) AllReadyH.nil)
        go_simp
        refine hK.out _ _ trivial (fun hh => ?_)
        have HH' := Lib.hid hh
        clear hh hK K HH
        have HH := Lib.hid HH'.out
        clear HH'
        refine wpAnyH_done (by kernel_rfl) ?_ _
        go_wp2_with fail
        go_roundw
        case rel => exact ⟨1, _, _, rfl, M.out.trans HS9.out, HSD.out, .inr (.inl ⟨rfl, by rw [HS.out]; rfl⟩)⟩
        case measure => simp [intOf]
      · skip
        go_simp
        refine (HL0.out _ _ _ ((ML C G g).below M.out.at_ ((Below.refl wr.heap.size wr).drew)) HSD.out).mono ?_
        rintro e v4 ⟨rfl, bw⟩
        have B4 := Lib.hid (((Below.refl wr.heap.size wr).drew).trans (bw.mono ((Below.refl wr.heap.size wr).drew).size))
        clear bw
        go_simp
        refine hK.out _ _ trivial (fun hh => ?_)
        have HH' := Lib.hid hh
        clear hh hK K HH
        have HH := Lib.hid HH'.out
        clear HH'
        try simp only [List.getElem_toArray, List.getElem_cons_succ, List.getElem_cons_zero, Act.put, List.setIfInBounds_toArray, List.set_cons_zero, List.set_cons_succ]
        refine wpAnyH_ready (rs := [4, 8]) (by kernel_rfl) (by simp) (AllReadyH.cons rfl (fun K hK => ?_) (AllReadyH.cons rfl (fun K hK => ?_) AllReadyH.nil))
        · skip
          go_simp
          refine hK.out _ _ trivial (fun hh => ?_)
          have HH' := Lib.hid hh
          clear hh hK K HH
          have HH := Lib.hid HH'.out
          clear HH'
          have B5 := Lib.hid (show Below wr.heap.size wr (World.alloc v4 (.cells #[.bool (!x)] 4)) from (B4.out).alloc (B4.out).size _)
          have X5 := Lib.hid (show Blk (World.alloc v4 (.cells #[.bool (!x)] 4)) v4.heap.size #[.bool (!x)] 4 from heap_alloc_new _ _)
          try simp only [List.getElem_toArray, List.getElem_cons_succ, List.getElem_cons_zero, Act.put, List.setIfInBounds_toArray, List.set_cons_zero, List.set_cons_succ]
          refine wpAnyH_ready (rs := [8]) (by kernel_rfl) (by simp) (AllReadyH.cons rfl (fun K hK => ?_) AllReadyH.nil)
          go_simp
          refine (HL1.out _ _ _ ((ML C G g).below M.out.at_ (B5.out)) HSD.out).mono ?_
          rintro e v6 ⟨rfl, bw⟩
          have B6 := Lib.hid ((B5.out).trans (bw.mono (B5.out).size))
          have X6 := Lib.hid (Blk.below (X5.out) bw)
          clear bw
          go_simp
          refine hK.out _ _ trivial (fun hh => ?_)
          have HH' := Lib.hid hh
          clear hh hK K HH
          have HH := Lib.hid HH'.out
          clear HH'
          try simp only [List.getElem_toArray, List.getElem_cons_succ, List.getElem_cons_zero, Act.put, List.setIfInBounds_toArray, List.set_cons_zero, List.set_cons_succ]
          refine wpAnyH_take (i := 9) (v := .int .i64 (k : Int)) rfl (by kernel_rfl) (by kernel_rfl) (by kernel_rfl) (fun _ _ _ h => h) (Or.inl ⟨by rfl, fun w' hw' => ?ym69⟩) HH.out ?_
          case ym69 => (go_simp; exact HKM.out)
          try simp only [List.getElem_toArray, List.getElem_cons_succ, List.getElem_cons_zero, Act.put, List.setIfInBounds_toArray, List.set_cons_zero, List.set_cons_succ]
          refine wpAnyH_ready (rs := [10]) (by kernel_rfl) (by simp) (AllReadyH.cons rfl (fun K hK => ?_) AllReadyH.nil)
          go_simp
          refine (repeat_any (a := ⟨v4.heap.size, 0, none⟩) ((X6.out).cell 0) k HLE.out).mono ?_
          rintro e v9 ⟨q9, rfl, ho9, bw9⟩
          have HS9 := Lib.hid (ml_setrow HR.out M.out.at_ ((B6.out).trans (bw9.mono (B6.out).size)) (own_moreN ho9 (B6.out).size) (List.length_replicate ..) (i := 0) (by omega))
          obtain ⟨⟨u9, c9⟩, f9, _⟩ := ml_rowcell ((ML C G g).below M.out.at_ ((B6.out).trans (bw9.mono (B6.out).size))) (i := 0) (by omega)
          have c9' : v9.cell? ⟨g, 2, none⟩ = some u9 := c9
          have f9' : v9.frozen? ⟨g, 2, none⟩ = false := f9
          clear bw9 ho9 c9 f9
          go_simp
          refine hK.out _ _ trivial (fun hh => ?_)
          have HH' := Lib.hid hh
          clear hh hK K HH
          have HH := Lib.hid HH'.out
          clear HH'
          try simp only [List.getElem_toArray, List.getElem_cons_succ, List.getElem_cons_zero, Act.put, List.setIfInBounds_toArray, List.set_cons_zero, List.set_cons_succ]
          refine wpAnyH_take (i := 13) (v := ?vz613) rfl (by kernel_rfl) (by kernel_rfl) (by kernel_rfl) (fun _ _ _ h => h) (Or.inl ⟨by rfl, fun w' _ => ?yz613⟩) HH.out ?_
          case yz613 => (go_simp; try with_reducible rfl)
          try simp only [List.getElem_toArray, List.getElem_cons_succ, List.getElem_cons_zero, Act.put, List.setIfInBounds_toArray, List.set_cons_zero, List.set_cons_succ]
          refine wpAnyH_ready (rs := [14]) (by kernel_rfl) (by simp) (AllReadyH.cons rfl (fun K hK => ?_) AllReadyH.nil)
          go_simp
          refine hK.out _ _ trivial (fun hh => ?_)
          have HH' := Lib.hid hh
          clear hh hK K HH
          have HH := Lib.hid HH'.out
          clear HH'
          refine wpAnyH_done (by kernel_rfl) ?_ _
          go_wp2_with fail
          go_roundw
          case rel => exact ⟨1, _, _, rfl, M.out.trans HS9.out, HSD.out, .inr (.inl ⟨rfl, by rw [HS.out]; rfl⟩)⟩
          case measure => simp [intOf]
        · skip
          go_simp
          refine (HL1.out _ _ _ ((ML C G g).below M.out.at_ (B4.out)) HSD.out).mono ?_
          rintro e v7 ⟨rfl, bw⟩
          have B7 := Lib.hid ((B4.out).trans (bw.mono (B4.out).size))
          clear bw
          go_simp
          refine hK.out _ _ trivial (fun hh => ?_)
          have HH' := Lib.hid hh
          clear hh hK K HH
          have HH := Lib.hid HH'.out
          clear HH'
          try simp only [List.getElem_toArray, List.getElem_cons_succ, List.getElem_cons_zero, Act.put, List.setIfInBounds_toArray, List.set_cons_zero, List.set_cons_succ]
          refine wpAnyH_take (i := 9) (v := .int .i64 (k : Int)) rfl (by kernel_rfl) (by kernel_rfl) (by kernel_rfl) (fun _ _ _ h => h) (Or.inl ⟨by rfl, fun w' hw' => ?ym79⟩) HH.out ?_
          case ym79 => (go_simp; exact HKM.out)
          try simp only [List.getElem_toArray, List.getElem_cons_succ, List.getElem_cons_zero, Act.put, List.setIfInBounds_toArray, List.set_cons_zero, List.set_cons_succ]
          refine wpAnyH_ready (rs := [4]) (by kernel_rfl) (by simp) (AllReadyH.cons rfl (fun K hK => ?_) AllReadyH.nil)
          go_simp
          refine hK.out _ _ trivial (fun hh => ?_)
          have HH' := Lib.hid hh
          clear hh hK K HH
          have HH := Lib.hid HH'.out
          clear HH'
          have B8 := Lib.hid (show Below wr.heap.size wr (World.alloc v7 (.cells #[.bool (!x)] 4)) from (B7.out).alloc (B7.out).size _)
          have X8 := Lib.hid (show Blk (World.alloc v7 (.cells #[.bool (!x)] 4)) v7.heap.size #[.bool (!x)] 4 from heap_alloc_new _ _)
          try simp only [List.getElem_toArray, List.getElem_cons_succ, List.getElem_cons_zero, Act.put, List.setIfInBounds_toArray, List.set_cons_zero, List.set_cons_succ]
          refine wpAnyH_ready (rs := [10]) (by kernel_rfl) (by simp) (AllReadyH.cons rfl (fun K hK => ?_) AllReadyH.nil)
          go_simp
          refine (repeat_any (a := ⟨v7.heap.size, 0, none⟩) ((X8.out).cell 0) k HLE.out).mono ?_
          rintro e v9 ⟨q9, rfl, ho9, bw9⟩
          have HS9 := Lib.hid (ml_setrow HR.out M.out.at_ ((B8.out).trans (bw9.mono (B8.out).size)) (own_moreN ho9 (B8.out).size) (List.length_replicate ..) (i := 0) (by omega))
          obtain ⟨⟨u9, c9⟩, f9, _⟩ := ml_rowcell ((ML C G g).below M.out.at_ ((B8.out).trans (bw9.mono (B8.out).size))) (i := 0) (by omega)
          have c9' : v9.cell? ⟨g, 2, none⟩ = some u9 := c9
          have f9' : v9.frozen? ⟨g, 2, none⟩ = false := f9
          clear bw9 ho9 c9 f9
          go_simp
          refine hK.out _ _ trivial (fun hh => ?_)
          have HH' := Lib.hid hh
          clear hh hK K HH
          have HH := Lib.hid HH'.out
          clear HH'
          try simp only [List.getElem_toArray, List.getElem_cons_succ, List.getElem_cons_zero, Act.put, List.setIfInBounds_toArray, List.set_cons_zero, List.set_cons_succ]
          refine wpAnyH_take (i := 13) (v := ?vz813) rfl (by kernel_rfl) (by kernel_rfl) (by kernel_rfl) (fun _ _ _ h => h) (Or.inl ⟨by rfl, fun w' _ => ?yz813⟩) HH.out ?_
          case yz813 => (go_simp; try with_reducible rfl)
          try simp only [List.getElem_toArray, List.getElem_cons_succ, List.getElem_cons_zero, Act.put, List.setIfInBounds_toArray, List.set_cons_zero, List.set_cons_succ]
          refine wpAnyH_ready (rs := [14]) (by kernel_rfl) (by simp) (AllReadyH.cons rfl (fun K hK => ?_) AllReadyH.nil)
          go_simp
          refine hK.out _ _ trivial (fun hh => ?_)
          have HH' := Lib.hid hh
          clear hh hK K HH
          have HH := Lib.hid HH'.out
          clear HH'
          refine wpAnyH_done (by kernel_rfl) ?_ _
          go_wp2_with fail
          go_roundw
          case rel => exact ⟨1, _, _, rfl, M.out.trans HS9.out, HSD.out, .inr (.inl ⟨rfl, by rw [HS.out]; rfl⟩)⟩
          case measure => simp [intOf]
    · skip
      have HS := Lib.hid hs
      clear hs
      go_wp2_with (refine wpList_execg8 (o := { dst := some 22, op := .index 50 (.tmp 18) (.tmp 19), type := _, pos := _, after := _, guard := _ }) (v := .bool y) (w' := wr) rfl ?hix ?_; case hix => kernel_rfl)
      refine wp_region_held_drew (S := fun _ => True) (by kernel_rfl) trivial (fun hh => ?_)
      have HH := Lib.hid hh
      clear hh
      refine wpAnyH_take (i := 0) (v := ?vN10) rfl (by kernel_rfl) (by kernel_rfl) (by kernel_rfl) (fun _ _ _ h => h) (Or.inl ⟨by rfl, fun w' _ => ?yN10⟩) HH.out ?_
      case yN10 => (go_simp; try with_reducible rfl)
      refine wpAnyH_take (i := 1) (v := ?vN11) rfl (by kernel_rfl) (by kernel_rfl) (by kernel_rfl) (fun _ _ _ h => h) (Or.inl ⟨by rfl, fun w' _ => ?yN11⟩) HH.out ?_
      case yN11 => (go_simp; try with_reducible rfl)
      try simp only [List.getElem_toArray, List.getElem_cons_succ, List.getElem_cons_zero, Act.put, List.setIfInBounds_toArray, List.set_cons_zero, List.set_cons_succ]
      refine wpAnyH_take (i := 2) (v := ?vN12) rfl (by kernel_rfl) (by kernel_rfl) (by kernel_rfl) (fun _ _ _ h => h) (Or.inl ⟨by rfl, fun w' _ => ?yN12⟩) HH.out ?_
      case yN12 => (go_simp; try with_reducible rfl)
      refine wpAnyH_take (i := 3) (v := ?vN13) rfl (by kernel_rfl) (by kernel_rfl) (by kernel_rfl) (fun _ _ _ h => h) (Or.inl ⟨by rfl, fun w' _ => ?yN13⟩) HH.out ?_
      case yN13 => (go_simp; try with_reducible rfl)
      refine wpAnyH_take (i := 5) (v := ?vN15) rfl (by kernel_rfl) (by kernel_rfl) (by kernel_rfl) (fun _ _ _ h => h) (Or.inl ⟨by rfl, fun w' _ => ?yN15⟩) HH.out ?_
      case yN15 => (go_simp; try with_reducible rfl)
      try simp only [List.getElem_toArray, List.getElem_cons_succ, List.getElem_cons_zero, Act.put, List.setIfInBounds_toArray, List.set_cons_zero, List.set_cons_succ]
      refine wpAnyH_take (i := 7) (v := ?vN17) rfl (by kernel_rfl) (by kernel_rfl) (by kernel_rfl) (fun _ _ _ h => h) (Or.inl ⟨by rfl, fun w' _ => ?yN17⟩) HH.out ?_
      case yN17 => (go_simp; try with_reducible rfl)
      refine wpAnyH_take (i := 11) (v := ?vN111) rfl (by kernel_rfl) (by kernel_rfl) (by kernel_rfl) (fun _ _ _ h => h) (Or.inl ⟨by rfl, fun w' _ => ?yN111⟩) HH.out ?_
      case yN111 => (go_simp; try with_reducible rfl)
      refine wpAnyH_take (i := 12) (v := ?vN112) rfl (by kernel_rfl) (by kernel_rfl) (by kernel_rfl) (fun _ _ _ h => h) (Or.inl ⟨by rfl, fun w' _ => ?yN112⟩) HH.out ?_
      case yN112 => (go_simp; try with_reducible rfl)
      try simp only [List.getElem_toArray, List.getElem_cons_succ, List.getElem_cons_zero, Act.put, List.setIfInBounds_toArray, List.set_cons_zero, List.set_cons_succ]
      refine wpAnyH_ready (rs := [4, 6]) (by kernel_rfl) (by simp) (AllReadyH.cons rfl (fun K hK => ?_) (AllReadyH.cons rfl (fun K hK => ?_) AllReadyH.nil))
      · skip
        go_simp
        refine hK.out _ _ trivial (fun hh => ?_)
        have HH' := Lib.hid hh
        clear hh hK K HH
        have HH := Lib.hid HH'.out
        clear HH'
        have B9 := Lib.hid (show Below wr.heap.size wr (World.alloc wr.drew (.cells #[.bool (!y)] 4)) from ((Below.refl wr.heap.size wr).drew).alloc ((Below.refl wr.heap.size wr).drew).size _)
        have X9 := Lib.hid (show Blk (World.alloc wr.drew (.cells #[.bool (!y)] 4)) wr.drew.heap.size #[.bool (!y)] 4 from heap_alloc_new _ _)
        try simp only [List.getElem_toArray, List.getElem_cons_succ, List.getElem_cons_zero, Act.put, List.setIfInBounds_toArray, List.set_cons_zero, List.set_cons_succ]
        refine wpAnyH_ready (rs := [6]) (by kernel_rfl) (by simp) (AllReadyH.cons rfl (fun K hK => ?_) AllReadyH.nil)
        go_simp
        refine (HL0.out _ _ _ ((ML C G g).below M.out.at_ (B9.out)) HSD.out).mono ?_
        rintro e v10 ⟨rfl, bw⟩
        have B10 := Lib.hid ((B9.out).trans (bw.mono (B9.out).size))
        have X10 := Lib.hid (Blk.below (X9.out) bw)
        clear bw
        go_simp
        refine hK.out _ _ trivial (fun hh => ?_)
        have HH' := Lib.hid hh
        clear hh hK K HH
        have HH := Lib.hid HH'.out
        clear HH'
        try simp only [List.getElem_toArray, List.getElem_cons_succ, List.getElem_cons_zero, Act.put, List.setIfInBounds_toArray, List.set_cons_zero, List.set_cons_succ]
        refine wpAnyH_ready (rs := [8]) (by kernel_rfl) (by simp) (AllReadyH.cons rfl (fun K hK => ?_) AllReadyH.nil)
        go_simp
        refine (HL1.out _ _ _ ((ML C G g).below M.out.at_ (B10.out)) HSD.out).mono ?_
        rintro e v11 ⟨rfl, bw⟩
        have B11 := Lib.hid ((B10.out).trans (bw.mono (B10.out).size))
        have X11 := Lib.hid (Blk.below (X10.out) bw)
        clear bw
        go_simp
        refine hK.out _ _ trivial (fun hh => ?_)
        have HH' := Lib.hid hh
        clear hh hK K HH
        have HH := Lib.hid HH'.out
        clear HH'
        try simp only [List.getElem_toArray, List.getElem_cons_succ, List.getElem_cons_zero, Act.put, List.setIfInBounds_toArray, List.set_cons_zero, List.set_cons_succ]
        refine wpAnyH_take (i := 9) (v := .int .i64 (k : Int)) rfl (by kernel_rfl) (by kernel_rfl) (by kernel_rfl) (fun _ _ _ h => h) (Or.inl ⟨by rfl, fun w' hw' => ?ym119⟩) HH.out ?_
        case ym119 => (go_simp; exact HKM.out)
        try simp only [List.getElem_toArray, List.getElem_cons_succ, List.getElem_cons_zero, Act.put, List.setIfInBounds_toArray, List.set_cons_zero, List.set_cons_succ]
        refine wpAnyH_ready (rs := [10]) (by kernel_rfl) (by simp) (AllReadyH.cons rfl (fun K hK => ?_) AllReadyH.nil)
        go_simp
        refine (repeat_any (a := ⟨wr.drew.heap.size, 0, none⟩) ((X11.out).cell 0) k HLE.out).mono ?_
        rintro e v9 ⟨q9, rfl, ho9, bw9⟩
        have HS9 := Lib.hid (ml_setrow HR.out M.out.at_ ((B11.out).trans (bw9.mono (B11.out).size)) (own_moreN ho9 (B11.out).size) (List.length_replicate ..) (i := 1) (by omega))
        obtain ⟨⟨u9, c9⟩, f9, _⟩ := ml_rowcell ((ML C G g).below M.out.at_ ((B11.out).trans (bw9.mono (B11.out).size))) (i := 1) (by omega)
        have c9' : v9.cell? ⟨g, 3, none⟩ = some u9 := c9
        have f9' : v9.frozen? ⟨g, 3, none⟩ = false := f9
        clear bw9 ho9 c9 f9
        go_simp
        refine hK.out _ _ trivial (fun hh => ?_)
        have HH' := Lib.hid hh
        clear hh hK K HH
        have HH := Lib.hid HH'.out
        clear HH'
        try simp only [List.getElem_toArray, List.getElem_cons_succ, List.getElem_cons_zero, Act.put, List.setIfInBounds_toArray, List.set_cons_zero, List.set_cons_succ]
        refine wpAnyH_take (i := 13) (v := ?vz1113) rfl (by kernel_rfl) (by kernel_rfl) (by kernel_rfl) (fun _ _ _ h => h) (Or.inl ⟨by rfl, fun w' _ => ?yz1113⟩) HH.out ?_
        case yz1113 => (go_simp; try with_reducible rfl)
        try simp only [List.getElem_toArray, List.getElem_cons_succ, List.getElem_cons_zero, Act.put, List.setIfInBounds_toArray, List.set_cons_zero, List.set_cons_succ]
        refine wpAnyH_ready (rs := [14]) (by kernel_rfl) (by simp) (AllReadyH.cons rfl (fun K hK => ?_) AllReadyH.nil)
        go_simp
        refine hK.out _ _ trivial (fun hh => ?_)
        have HH' := Lib.hid hh
        clear hh hK K HH
        have HH := Lib.hid HH'.out
        clear HH'
        refine wpAnyH_done (by kernel_rfl) ?_ _
        go_wp2_with fail
        go_roundw
        case rel => exact ⟨2, _, _, rfl, M.out.trans HS9.out, HSD.out, .inr (.inr ⟨rfl, by rw [HS.out]; rfl⟩)⟩
        case measure => simp [intOf]
      · skip
        go_simp
        refine (HL0.out _ _ _ ((ML C G g).below M.out.at_ ((Below.refl wr.heap.size wr).drew)) HSD.out).mono ?_
        rintro e v12 ⟨rfl, bw⟩
        have B12 := Lib.hid (((Below.refl wr.heap.size wr).drew).trans (bw.mono ((Below.refl wr.heap.size wr).drew).size))
        clear bw
        go_simp
        refine hK.out _ _ trivial (fun hh => ?_)
        have HH' := Lib.hid hh
        clear hh hK K HH
        have HH := Lib.hid HH'.out
        clear HH'
        try simp only [List.getElem_toArray, List.getElem_cons_succ, List.getElem_cons_zero, Act.put, List.setIfInBounds_toArray, List.set_cons_zero, List.set_cons_succ]
        refine wpAnyH_ready (rs := [4, 8]) (by kernel_rfl) (by simp) (AllReadyH.cons rfl (fun K hK => ?_) (AllReadyH.cons rfl (fun K hK => ?_) AllReadyH.nil))
        · skip
          go_simp
          refine hK.out _ _ trivial (fun hh => ?_)
          have HH' := Lib.hid hh
          clear hh hK K HH
          have HH := Lib.hid HH'.out
          clear HH'
          have B13 := Lib.hid (show Below wr.heap.size wr (World.alloc v12 (.cells #[.bool (!y)] 4)) from (B12.out).alloc (B12.out).size _)
          have X13 := Lib.hid (show Blk (World.alloc v12 (.cells #[.bool (!y)] 4)) v12.heap.size #[.bool (!y)] 4 from heap_alloc_new _ _)
          try simp only [List.getElem_toArray, List.getElem_cons_succ, List.getElem_cons_zero, Act.put, List.setIfInBounds_toArray, List.set_cons_zero, List.set_cons_succ]
          refine wpAnyH_ready (rs := [8]) (by kernel_rfl) (by simp) (AllReadyH.cons rfl (fun K hK => ?_) AllReadyH.nil)
          go_simp
          refine (HL1.out _ _ _ ((ML C G g).below M.out.at_ (B13.out)) HSD.out).mono ?_
          rintro e v14 ⟨rfl, bw⟩
          have B14 := Lib.hid ((B13.out).trans (bw.mono (B13.out).size))
          have X14 := Lib.hid (Blk.below (X13.out) bw)
          clear bw
          go_simp
          refine hK.out _ _ trivial (fun hh => ?_)
          have HH' := Lib.hid hh
          clear hh hK K HH
          have HH := Lib.hid HH'.out
          clear HH'
          try simp only [List.getElem_toArray, List.getElem_cons_succ, List.getElem_cons_zero, Act.put, List.setIfInBounds_toArray, List.set_cons_zero, List.set_cons_succ]
          refine wpAnyH_take (i := 9) (v := .int .i64 (k : Int)) rfl (by kernel_rfl) (by kernel_rfl) (by kernel_rfl) (fun _ _ _ h => h) (Or.inl ⟨by rfl, fun w' hw' => ?ym149⟩) HH.out ?_
          case ym149 => (go_simp; exact HKM.out)
          try simp only [List.getElem_toArray, List.getElem_cons_succ, List.getElem_cons_zero, Act.put, List.setIfInBounds_toArray, List.set_cons_zero, List.set_cons_succ]
          refine wpAnyH_ready (rs := [10]) (by kernel_rfl) (by simp) (AllReadyH.cons rfl (fun K hK => ?_) AllReadyH.nil)
          go_simp
          refine (repeat_any (a := ⟨v12.heap.size, 0, none⟩) ((X14.out).cell 0) k HLE.out).mono ?_
          rintro e v9 ⟨q9, rfl, ho9, bw9⟩
          have HS9 := Lib.hid (ml_setrow HR.out M.out.at_ ((B14.out).trans (bw9.mono (B14.out).size)) (own_moreN ho9 (B14.out).size) (List.length_replicate ..) (i := 1) (by omega))
          obtain ⟨⟨u9, c9⟩, f9, _⟩ := ml_rowcell ((ML C G g).below M.out.at_ ((B14.out).trans (bw9.mono (B14.out).size))) (i := 1) (by omega)
          have c9' : v9.cell? ⟨g, 3, none⟩ = some u9 := c9
          have f9' : v9.frozen? ⟨g, 3, none⟩ = false := f9
          clear bw9 ho9 c9 f9
          go_simp
          refine hK.out _ _ trivial (fun hh => ?_)
          have HH' := Lib.hid hh
          clear hh hK K HH
          have HH := Lib.hid HH'.out
          clear HH'
          try simp only [List.getElem_toArray, List.getElem_cons_succ, List.getElem_cons_zero, Act.put, List.setIfInBounds_toArray, List.set_cons_zero, List.set_cons_succ]
          refine wpAnyH_take (i := 13) (v := ?vz1413) rfl (by kernel_rfl) (by kernel_rfl) (by kernel_rfl) (fun _ _ _ h => h) (Or.inl ⟨by rfl, fun w' _ => ?yz1413⟩) HH.out ?_
          case yz1413 => (go_simp; try with_reducible rfl)
          try simp only [List.getElem_toArray, List.getElem_cons_succ, List.getElem_cons_zero, Act.put, List.setIfInBounds_toArray, List.set_cons_zero, List.set_cons_succ]
          refine wpAnyH_ready (rs := [14]) (by kernel_rfl) (by simp) (AllReadyH.cons rfl (fun K hK => ?_) AllReadyH.nil)
          go_simp
          refine hK.out _ _ trivial (fun hh => ?_)
          have HH' := Lib.hid hh
          clear hh hK K HH
          have HH := Lib.hid HH'.out
          clear HH'
          refine wpAnyH_done (by kernel_rfl) ?_ _
          go_wp2_with fail
          go_roundw
          case rel => exact ⟨2, _, _, rfl, M.out.trans HS9.out, HSD.out, .inr (.inr ⟨rfl, by rw [HS.out]; rfl⟩)⟩
          case measure => simp [intOf]
        · skip
          go_simp
          refine (HL1.out _ _ _ ((ML C G g).below M.out.at_ (B12.out)) HSD.out).mono ?_
          rintro e v15 ⟨rfl, bw⟩
          have B15 := Lib.hid ((B12.out).trans (bw.mono (B12.out).size))
          clear bw
          go_simp
          refine hK.out _ _ trivial (fun hh => ?_)
          have HH' := Lib.hid hh
          clear hh hK K HH
          have HH := Lib.hid HH'.out
          clear HH'
          try simp only [List.getElem_toArray, List.getElem_cons_succ, List.getElem_cons_zero, Act.put, List.setIfInBounds_toArray, List.set_cons_zero, List.set_cons_succ]
          refine wpAnyH_take (i := 9) (v := .int .i64 (k : Int)) rfl (by kernel_rfl) (by kernel_rfl) (by kernel_rfl) (fun _ _ _ h => h) (Or.inl ⟨by rfl, fun w' hw' => ?ym159⟩) HH.out ?_
          case ym159 => (go_simp; exact HKM.out)
          try simp only [List.getElem_toArray, List.getElem_cons_succ, List.getElem_cons_zero, Act.put, List.setIfInBounds_toArray, List.set_cons_zero, List.set_cons_succ]
          refine wpAnyH_ready (rs := [4]) (by kernel_rfl) (by simp) (AllReadyH.cons rfl (fun K hK => ?_) AllReadyH.nil)
          go_simp
          refine hK.out _ _ trivial (fun hh => ?_)
          have HH' := Lib.hid hh
          clear hh hK K HH
          have HH := Lib.hid HH'.out
          clear HH'
          have B16 := Lib.hid (show Below wr.heap.size wr (World.alloc v15 (.cells #[.bool (!y)] 4)) from (B15.out).alloc (B15.out).size _)
          have X16 := Lib.hid (show Blk (World.alloc v15 (.cells #[.bool (!y)] 4)) v15.heap.size #[.bool (!y)] 4 from heap_alloc_new _ _)
          try simp only [List.getElem_toArray, List.getElem_cons_succ, List.getElem_cons_zero, Act.put, List.setIfInBounds_toArray, List.set_cons_zero, List.set_cons_succ]
          refine wpAnyH_ready (rs := [10]) (by kernel_rfl) (by simp) (AllReadyH.cons rfl (fun K hK => ?_) AllReadyH.nil)
          go_simp
          refine (repeat_any (a := ⟨v15.heap.size, 0, none⟩) ((X16.out).cell 0) k HLE.out).mono ?_
          rintro e v9 ⟨q9, rfl, ho9, bw9⟩
          have HS9 := Lib.hid (ml_setrow HR.out M.out.at_ ((B16.out).trans (bw9.mono (B16.out).size)) (own_moreN ho9 (B16.out).size) (List.length_replicate ..) (i := 1) (by omega))
          obtain ⟨⟨u9, c9⟩, f9, _⟩ := ml_rowcell ((ML C G g).below M.out.at_ ((B16.out).trans (bw9.mono (B16.out).size))) (i := 1) (by omega)
          have c9' : v9.cell? ⟨g, 3, none⟩ = some u9 := c9
          have f9' : v9.frozen? ⟨g, 3, none⟩ = false := f9
          clear bw9 ho9 c9 f9
          go_simp
          refine hK.out _ _ trivial (fun hh => ?_)
          have HH' := Lib.hid hh
          clear hh hK K HH
          have HH := Lib.hid HH'.out
          clear HH'
          try simp only [List.getElem_toArray, List.getElem_cons_succ, List.getElem_cons_zero, Act.put, List.setIfInBounds_toArray, List.set_cons_zero, List.set_cons_succ]
          refine wpAnyH_take (i := 13) (v := ?vz1613) rfl (by kernel_rfl) (by kernel_rfl) (by kernel_rfl) (fun _ _ _ h => h) (Or.inl ⟨by rfl, fun w' _ => ?yz1613⟩) HH.out ?_
          case yz1613 => (go_simp; try with_reducible rfl)
          try simp only [List.getElem_toArray, List.getElem_cons_succ, List.getElem_cons_zero, Act.put, List.setIfInBounds_toArray, List.set_cons_zero, List.set_cons_succ]
          refine wpAnyH_ready (rs := [14]) (by kernel_rfl) (by simp) (AllReadyH.cons rfl (fun K hK => ?_) AllReadyH.nil)
          go_simp
          refine hK.out _ _ trivial (fun hh => ?_)
          have HH' := Lib.hid hh
          clear hh hK K HH
          have HH := Lib.hid HH'.out
          clear HH'
          refine wpAnyH_done (by kernel_rfl) ?_ _
          go_wp2_with fail
          go_roundw
          case rel => exact ⟨2, _, _, rfl, M.out.trans HS9.out, HSD.out, .inr (.inr ⟨rfl, by rw [HS.out]; rfl⟩)⟩
          case measure => simp [intOf]
    · have HS := Lib.hid hs
      clear hs
      go_wp2_with fail
      go_ret
      refine ⟨g, F', rfl, by rw [← HS.out]; exact M.out.at_, fun q hq => ?_, ?_⟩
      · rcases M.out.new q hq with (h1 | h1) | h1
        · exact .inl h1
        · exact .inr (by rw [h1, HG.out]; exact Nat.le_refl _)
        · exact .inr (Nat.le_trans BW1.out.size h1)
      · exact but_step (but_below (T := FF) BW1.out) M.out.but (fun q hq => hq.imp id (fun e => by rw [e, HG.out]; exact Nat.le_refl _))
theorem new_any (hR : ∀ A n c B m e, G.R A n c B m e) {d : C.L.St} (h : C.L.At w d F1) (hl : G.l = [] := by rfl) :
    Calls Try.prog 28 #[.pointer (C.ptr 0), .pointer (C.ptr 1), G.v] w (fun e w' => ∃ g F', e = .returned (.pointer (some ⟨g, 0, none⟩)) ∧ (ML C G g).At w' (newM C d) F' ∧ (∀ q, F' q → F1 q ∨ w.heap.size ≤ q) ∧ But F1 w w') := by
  have hF : (fun x => F1 x ∨ ∃ y ∈ G.l, x = y.1) = F1 := funext fun x => propext ⟨fun hx => hx.elim id (fun ⟨y, hy, _⟩ => by rw [hl] at hy; cases hy), .inl⟩
  exact new_anyG hR h (fun x hx => by rw [hl] at hx; cases hx) hF.symm
end
end Go.Proofs.Ytgfldfofiglefaa.Mi
/-
  A mirror of two devices of powers of their own that never fail, as the document tells of it: two lists, which of them are there, what is stale. No program.
-/
namespace Go.Proofs.Ytgfldfofiglefaa.Mi
open Kd
structure Md where
  l0 : List (List UInt8)
  l1 : List (List UInt8)
  o0 : Bool
  o1 : Bool
  a : List Bool
  b : List Bool
def Md.l (x : Md) (i : Nat) : List (List UInt8) := if i = 0 then x.l0 else x.l1
def Md.o (x : Md) (i : Nat) : Bool := if i = 0 then x.o0 else x.o1
def Md.st (x : Md) (i : Nat) : List Bool := if i = 0 then x.a else x.b
def Md.setL (x : Md) (i k : Nat) (y : List UInt8) : Md := if i = 0 then { x with l0 := x.l0.set k y } else { x with l1 := x.l1.set k y }
def Md.put (x : Md) (i k : Nat) (v : Bool) : Md := if i = 0 then { x with a := x.a.set k v } else { x with b := x.b.set k v }
/-- A sector is written to a device, if it is there. -/
def Md.wd (x : Md) (i k : Nat) (y : List UInt8) : Md := if x.o i then x else x.setL i k y
def Md.has (x : Md) (n : Int) : Bool := decide (0 ≤ n) && decide (n < x.a.length)
section
variable {p1 g1 p2 g2 : Nat}
abbrev Two (p1 g1 p2 g2 : Nat) : Duo := duo (uno p1 g1) (uno p2 g2)
structure Sees (s : Mr (Two p1 g1 p2 g2)) (x : Md) (m : Nat) : Prop where
  d0 : See s.d.1 x.l0 x.o0 m
  d1 : See s.d.2 x.l1 x.o1 m
  a : s.a = x.a
  b : s.b = x.b
  n0 : x.l0.length = x.a.length
  n1 : x.l1.length = x.a.length
  nb : x.b.length = x.a.length
variable {s : Mr (Two p1 g1 p2 g2)} {x : Md} {m : Nat} {G : Gd}
theorem Sees.more (h : Sees s x m) {m' : Nat} (hm : m ≤ m') : Sees s x m' := ⟨h.d0.more hm, h.d1.more hm, h.a, h.b, h.n0, h.n1, h.nb⟩
theorem Sees.ok (h : Sees s x m) : s.ok x.a.length := ⟨by rw [h.a], by rw [h.b]; exact h.nb⟩
theorem Sees.st (h : Sees s x m) (i : Nat) : s.st i = x.st i := by
  unfold Mr.st Md.st; split
  · exact h.a
  · exact h.b
theorem Sees.most (h : Sees s x m) : (Two p1 g1 p2 g2).most s.d ≤ m := by
  have h0 := h.d0.few
  have h1 := h.d1.few
  show max (mostS s.d.1) (mostS s.d.2) ≤ m
  unfold mostS
  rw [if_pos h.d0.ds, if_pos h.d1.ds]
  omega
theorem Sees.has (h : Sees s x m) (n : Int) : Mi.has s n = x.has n := by rw [Mi.has, Md.has, h.a]
theorem Sees.rd (h : Sees s x m) {i : Nat} (hi : i < 2) (n : Int) :
    (Two p1 g1 p2 g2).rd s.d i n = (if x.o i then 13 else if n < 0 ∨ (x.a.length : Int) ≤ n then 2 else 0, if x.o i = false ∧ 0 ≤ n ∧ n < (x.a.length : Int) then (x.l i).getD n.toNat zeroS else zeroS) := by
  rcases two hi with rfl | rfl
  · show (refuseN s.d.1.p (s.d.1.at 0) n, readS s.d.1.p (s.d.1.at 0) n) = _
    rw [h.d0.refuse, h.d0.read, h.n0]; rfl
  · show (refuseN s.d.2.p (s.d.2.at 0) n, readS s.d.2.p (s.d.2.at 0) n) = _
    rw [h.d1.refuse, h.d1.read, h.n1]; rfl
theorem Sees.there (h : Sees s x m) {i : Nat} (hi : i < 2) : (Two p1 g1 p2 g2).there s.d i = !(x.o i) := by
  have hp : ((Two p1 g1 p2 g2).ptr i).isSome = true := by rcases two hi with rfl | rfl <;> rfl
  rw [Duo.there, hp, h.rd hi]
  cases x.o i
  · show (true && ((if false = true then (13 : Int) else if (0 : Int) < 0 ∨ (x.a.length : Int) ≤ 0 then 2 else 0) != 13)) = true
    rw [if_neg (by simp)]
    split <;> rfl
  · rfl
/-- A place's reading. -/
theorem Sees.rd_at (h : Sees s x m) {i k : Nat} (hi : i < 2) (hk : k < x.a.length) : (Two p1 g1 p2 g2).rd s.d i (k : Int) = (if x.o i then 13 else 0, if x.o i then zeroS else (x.l i).getD k zeroS) := by
  rw [h.rd hi]
  cases x.o i
  · simp only [Bool.false_eq_true, if_false, true_and]
    rw [if_neg (by omega), if_pos ⟨by omega, by omega⟩, Int.toNat_natCast]
  · simp
theorem Sees.rdOk (h : Sees s x m) {i k : Nat} (hi : i < 2) (hk : k < x.a.length) : Mi.rdOk (Two p1 g1 p2 g2) G s.d i (k : Int) = (!(x.o i) && G.f k ((x.l i).getD k zeroS)) := by
  rw [Mi.rdOk, h.rd_at hi hk]
  cases x.o i <;> rfl
/-- Does a device have a place right? -/
def Md.right (f : Int → List UInt8 → Bool) (x : Md) (i k : Nat) : Bool := !((x.st i).getD k false) && (!(x.o i) && f k ((x.l i).getD k zeroS))
theorem Sees.right (h : Sees s x m) {i k : Nat} (hi : i < 2) (hk : k < x.a.length) : Mi.right (Two p1 g1 p2 g2) G s i k = x.right G.f i k := by
  rw [Mi.right, Md.right, h.st, h.rdOk hi hk]
theorem Sees.rightV (h : Sees s x m) {i k : Nat} (hi : i < 2) (hk : k < x.a.length) (hr : x.right G.f i k = true) : Mi.rightV (Two p1 g1 p2 g2) G s i k = (x.l i).getD k zeroS := by
  have ho : x.o i = false := by
    rw [Md.right] at hr
    cases ho : x.o i
    · rfl
    · rw [ho] at hr; simp at hr
  rw [Mi.rightV, h.right hi hk, hr, if_pos rfl, h.rd_at hi hk, ho]; rfl
/-! ### Writing -/
theorem Sees.put (h : Sees s x m) (i k : Nat) (v : Bool) : Sees (s.put i k v) (x.put i k v) m := by
  unfold Mr.put Md.put
  split
  · exact ⟨h.d0, h.d1, by show s.a.set k v = x.a.set k v; rw [h.a], h.b, by show x.l0.length = (x.a.set k v).length; rw [List.length_set]; exact h.n0, by show x.l1.length = (x.a.set k v).length; rw [List.length_set]; exact h.n1, by show x.b.length = (x.a.set k v).length; rw [List.length_set]; exact h.nb⟩
  · exact ⟨h.d0, h.d1, h.a, by show s.b.set k v = x.b.set k v; rw [h.b], h.n0, h.n1, by show (x.b.set k v).length = x.a.length; rw [List.length_set]; exact h.nb⟩
theorem Sees.wd (h : Sees s x m) {i k : Nat} (hi : i < 2) (hk : k < x.a.length) (y : List UInt8) :
    ((Two p1 g1 p2 g2).wr s.d i (k : Int) y).1 = (if x.o i then 13 else 0) ∧ Sees (s.dev ((Two p1 g1 p2 g2).wr s.d i (k : Int) y).2) (x.wd i k y) (m + 1) := by
  rcases two hi with rfl | rfl
  · cases ho : x.o0 with
    | true =>
      have hw := h.d0.write_no (n := (k : Int)) (x := y) (by rw [ho]; simp)
      have e : (Two p1 g1 p2 g2).wr s.d 0 (k : Int) y = (13, s.d) := by
        show ((s.d.1.write 0 k y).1, ((s.d.1.write 0 k y).2, s.d.2)) = _
        rw [hw, ho]; rfl
      rw [e]
      refine ⟨by rw [show x.o 0 = true from ho]; rfl, ?_⟩
      rw [Md.wd, show x.o 0 = true from ho, if_pos rfl]
      exact h.more (Nat.le_succ _)
    | false =>
      obtain ⟨h1, h2⟩ := h.d0.write_yes (x := y) ho (k := k) (by rw [h.n0]; exact hk)
      refine ⟨by show (s.d.1.write 0 k y).1 = _; rw [h1, show x.o 0 = false from ho]; rfl, ?_⟩
      rw [Md.wd, show x.o 0 = false from ho, if_neg (by simp)]
      exact ⟨h2, h.d1.more (Nat.le_succ _), h.a, h.b, by show (x.l0.set k y).length = _; rw [List.length_set]; exact h.n0, h.n1, h.nb⟩
  · cases ho : x.o1 with
    | true =>
      have hw := h.d1.write_no (n := (k : Int)) (x := y) (by rw [ho]; simp)
      have e : (Two p1 g1 p2 g2).wr s.d 1 (k : Int) y = (13, s.d) := by
        show ((s.d.2.write 0 k y).1, (s.d.1, (s.d.2.write 0 k y).2)) = _
        rw [hw, ho]; rfl
      rw [e]
      refine ⟨by rw [show x.o 1 = true from ho]; rfl, ?_⟩
      rw [Md.wd, show x.o 1 = true from ho, if_pos rfl]
      exact h.more (Nat.le_succ _)
    | false =>
      obtain ⟨h1, h2⟩ := h.d1.write_yes (x := y) ho (k := k) (by rw [h.n1]; exact hk)
      refine ⟨by show (s.d.2.write 0 k y).1 = _; rw [h1, show x.o 1 = false from ho]; rfl, ?_⟩
      rw [Md.wd, show x.o 1 = false from ho, if_neg (by simp)]
      exact ⟨h.d0.more (Nat.le_succ _), h2, h.a, h.b, h.n0, by show (x.l1.set k y).length = _; rw [List.length_set]; exact h.n1, h.nb⟩
theorem wd_o (x : Md) (i k j : Nat) (y : List UInt8) : (x.wd i k y).o j = x.o j := by
  unfold Md.wd Md.setL Md.o; (repeat' split) <;> rfl
theorem wd_a (x : Md) (i k : Nat) (y : List UInt8) : (x.wd i k y).a = x.a := by
  unfold Md.wd Md.setL; (repeat' split) <;> rfl
/-- What Write, and Choose, tell and make of it. -/
def Md.write (x : Md) (n : Int) (y : List UInt8) : Int × Md :=
  if x.has n then (if x.o0 && x.o1 then (13, x) else (0, (((x.wd 0 n.toNat y).wd 1 n.toNat y).put 0 n.toNat x.o0).put 1 n.toNat x.o1)) else (2, x)
theorem has_place {x : Md} {n : Int} (h : x.has n = true) : ∃ k : Nat, n = (k : Int) ∧ k < x.a.length := by
  rw [Md.has] at h
  simp at h
  exact ⟨n.toNat, by omega, by omega⟩
theorem eq13 (o : Bool) : ((if o then (13 : Int) else 0) == 0) = !o := by cases o <;> rfl
theorem Sees.write (h : Sees s x m) (n : Int) (y : List UInt8) : (s.write n y).1 = (x.write n y).1 ∧ Sees (s.write n y).2 (x.write n y).2 (m + 2) := by
  rw [Mr.write, Md.write, h.has]
  cases hh : x.has n with
  | false => exact ⟨rfl, h.more (by omega)⟩
  | true =>
    obtain ⟨k, rfl, hk⟩ := has_place hh
    rw [if_pos rfl, if_pos rfl, Int.toNat_natCast]
    obtain ⟨e0, h0⟩ := h.wd (i := 0) (by omega) hk y
    obtain ⟨e1, h1⟩ := h0.wd (i := 1) (by omega) (by rw [wd_a]; exact hk) y
    have e1' : ((Two p1 g1 p2 g2).wr (s.w0 (k : Int) y 0).d 1 (k : Int) y).1 = _ := e1
    rw [wd_o] at e1'
    rw [e0, e1', eq13, eq13]
    have h2 : Sees ((s.w0 (k : Int) y 0).w0 (k : Int) y 1) ((x.wd 0 k y).wd 1 k y) (m + 1 + 1) := h1
    rw [Mr.reach, show x.o 0 = x.o0 from rfl, show x.o 1 = x.o1 from rfl]
    cases ho0 : x.o0 <;> cases ho1 : x.o1
    · exact ⟨rfl, (h2.put 0 k false).put 1 k false⟩
    · exact ⟨rfl, (h2.put 0 k false).put 1 k true⟩
    · exact ⟨rfl, (h2.put 0 k true).put 1 k false⟩
    · refine ⟨rfl, ?_⟩
      have hx : (x.wd 0 k y).wd 1 k y = x := by
        have h3 : x.wd 0 k y = x := by rw [Md.wd, show x.o 0 = true from ho0, if_pos rfl]
        rw [h3, Md.wd, show x.o 1 = true from ho1, if_pos rfl]
      rw [hx] at h2
      exact h2
end
end Go.Proofs.Ytgfldfofiglefaa.Mi
/-
  .. and what Choose, Flush, Read, Heal, Both, Sync, New, Out and Rot make of it. No program.
-/
namespace Go.Proofs.Ytgfldfofiglefaa.Mi
open Kd
section
variable {p1 g1 p2 g2 : Nat} {s : Mr (Two p1 g1 p2 g2)} {x : Md} {m : Nat} {G : Gd}
theorem list_set_self {α : Type} (l : List α) (k : Nat) (d : α) : l.set k (l.getD k d) = l := by
  apply List.ext_getElem?
  intro j
  rw [List.getElem?_set]
  split
  · rename_i h; subst h
    split
    · rename_i h; rw [List.getD_eq_getElem?_getD, List.getElem?_eq_getElem h]; rfl
    · rename_i h; rw [List.getElem?_eq_none (by omega)]
  · rfl
theorem wd_same {i k : Nat} (h : x.o i = false) : x.wd i k ((x.l i).getD k zeroS) = x := by
  rw [Md.wd, h, if_neg (by simp), Md.setL]
  unfold Md.l
  split
  · show { x with l0 := x.l0.set k (x.l0.getD k zeroS) } = x
    rw [list_set_self]
  · show { x with l1 := x.l1.set k (x.l1.getD k zeroS) } = x
    rw [list_set_self]
theorem Sees.c1 (h : Sees s x m) {i k : Nat} (hi : i < 2) (hk : k < x.a.length) (y : List UInt8) : (s.c1 (k : Int) y i).1 = !(x.o i) ∧ Sees (s.c1 (k : Int) y i).2 (x.wd i k y) (m + 1) := by
  obtain ⟨e, hw⟩ := h.wd hi hk y
  rw [Mr.c1, h.rd_at hi hk]
  cases ho : x.o i with
  | true =>
    rw [if_neg (by simp)]
    refine ⟨rfl, ?_⟩
    rw [Md.wd, ho, if_pos rfl]
    exact h.more (Nat.le_succ _)
  | false =>
    rw [if_pos (by simp)]
    by_cases hy : (x.l i).getD k zeroS = y
    · rw [if_pos (by simpa using hy)]
      refine ⟨rfl, ?_⟩
      rw [← hy, wd_same ho]
      exact h.more (Nat.le_succ _)
    · rw [if_neg (by simpa using hy)]
      exact ⟨by rw [e, eq13, ho], hw⟩
theorem Sees.choose (h : Sees s x m) (n : Int) (y : List UInt8) : (s.choose n y).1 = (x.write n y).1 ∧ Sees (s.choose n y).2 (x.write n y).2 (m + 2) := by
  rw [Mr.choose, Md.write, h.has]
  cases hh : x.has n with
  | false => exact ⟨rfl, h.more (by omega)⟩
  | true =>
    obtain ⟨k, rfl, hk⟩ := has_place hh
    rw [if_pos rfl, if_pos rfl, Int.toNat_natCast]
    obtain ⟨e0, h0⟩ := h.c1 (i := 0) (by omega) hk y
    obtain ⟨e1, h1⟩ := h0.c1 (i := 1) (by omega) (by rw [wd_a]; exact hk) y
    rw [wd_o] at e1
    rw [e0, e1]
    have h2 : Sees ((s.c1 (k : Int) y 0).2.c1 (k : Int) y 1).2 ((x.wd 0 k y).wd 1 k y) (m + 1 + 1) := h1
    rw [Mr.reach, show x.o 0 = x.o0 from rfl, show x.o 1 = x.o1 from rfl]
    cases ho0 : x.o0 <;> cases ho1 : x.o1
    · exact ⟨rfl, (h2.put 0 k false).put 1 k false⟩
    · exact ⟨rfl, (h2.put 0 k false).put 1 k true⟩
    · exact ⟨rfl, (h2.put 0 k true).put 1 k false⟩
    · refine ⟨rfl, ?_⟩
      have hx : (x.wd 0 k y).wd 1 k y = x := by
        have h3 : x.wd 0 k y = x := by rw [Md.wd, show x.o 0 = true from ho0, if_pos rfl]
        rw [h3, Md.wd, show x.o 1 = true from ho1, if_pos rfl]
      rw [hx] at h2
      exact h2
/-! ### Flushing: m is 0 of what is out -/
/-- Nothing waits of a device that is out. -/
structure Dry (s : Mr (Two p1 g1 p2 g2)) (x : Md) : Prop where
  d0 : x.o0 = true → See s.d.1 x.l0 x.o0 0
  d1 : x.o1 = true → See s.d.2 x.l1 x.o1 0
theorem Sees.dry (h : Sees s x 0) : Dry s x := ⟨fun _ => h.d0, fun _ => h.d1⟩
theorem Dry.put (h : Dry s x) (i k : Nat) (v : Bool) : Dry (s.put i k v) (x.put i k v) := by
  unfold Mr.put Md.put; split <;> exact ⟨h.d0, h.d1⟩
theorem Dry.wd (h : Dry s x) (hs : Sees s x m) {i k : Nat} (hi : i < 2) (y : List UInt8) : Dry (s.dev ((Two p1 g1 p2 g2).wr s.d i (k : Int) y).2) (x.wd i k y) := by
  rcases two hi with rfl | rfl
  · cases ho : x.o0 with
    | true =>
      have hw := hs.d0.write_no (n := (k : Int)) (x := y) (by rw [ho]; simp)
      have e : ((Two p1 g1 p2 g2).wr s.d 0 (k : Int) y).2 = s.d := by
        show ((s.d.1.write 0 k y).2, s.d.2) = _
        rw [hw]; rfl
      rw [e, Md.wd, show x.o 0 = true from ho, if_pos rfl]
      exact h
    | false =>
      rw [Md.wd, show x.o 0 = false from ho, if_neg (by simp)]
      exact ⟨fun h1 => (by have h2 : x.o0 = true := h1; rw [ho] at h2; cases h2), h.d1⟩
  · cases ho : x.o1 with
    | true =>
      have hw := hs.d1.write_no (n := (k : Int)) (x := y) (by rw [ho]; simp)
      have e : ((Two p1 g1 p2 g2).wr s.d 1 (k : Int) y).2 = s.d := by
        show (s.d.1, (s.d.2.write 0 k y).2) = _
        rw [hw]; rfl
      rw [e, Md.wd, show x.o 1 = true from ho, if_pos rfl]
      exact h
    | false =>
      rw [Md.wd, show x.o 1 = false from ho, if_neg (by simp)]
      exact ⟨h.d0, fun h1 => (by have h2 : x.o1 = true := h1; rw [ho] at h2; cases h2)⟩
theorem Sees.fl (h : Sees s x m) (hd : Dry s x) : s.flushed = (!x.o0, !x.o1) ∧ Sees ((s.fl0 0).fl0 1) x 0 := by
  have e0 : ((Two p1 g1 p2 g2).fl s.d 0) = ((s.d.1.flush 0).1, ((s.d.1.flush 0).2, s.d.2)) := rfl
  have e1 : ((Two p1 g1 p2 g2).fl (s.fl0 0).d 1) = ((s.d.2.flush 0).1, ((s.d.1.flush 0).2, (s.d.2.flush 0).2)) := rfl
  have h0 : ((s.d.1.flush 0).1 == 0) = !x.o0 ∧ See (s.d.1.flush 0).2 x.l0 x.o0 0 := by
    cases ho : x.o0 with
    | true => rw [h.d0.flush_no ho]; exact ⟨rfl, ho ▸ hd.d0 ho⟩
    | false => obtain ⟨h1, h2⟩ := h.d0.flush_yes ho; rw [h1]; exact ⟨rfl, ho ▸ h2⟩
  have h1 : ((s.d.2.flush 0).1 == 0) = !x.o1 ∧ See (s.d.2.flush 0).2 x.l1 x.o1 0 := by
    cases ho : x.o1 with
    | true => rw [h.d1.flush_no ho]; exact ⟨rfl, ho ▸ hd.d1 ho⟩
    | false => obtain ⟨h1, h2⟩ := h.d1.flush_yes ho; rw [h1]; exact ⟨rfl, ho ▸ h2⟩
  refine ⟨?_, h0.2, h1.2, h.a, h.b, h.n0, h.n1, h.nb⟩
  rw [Mr.flushed, e1]
  show (((s.d.1.flush 0).1 == 0), ((s.d.2.flush 0).1 == 0)) = _
  rw [h0.1, h1.1]
theorem Sees.flush (h : Sees s x m) (hd : Dry s x) : s.flush.1 = (if x.o0 && x.o1 then 13 else 0) ∧ Sees s.flush.2 x 0 := by
  obtain ⟨h1, h2⟩ := h.fl hd
  rw [Mr.flush, h1, h.there (by omega), h.there (by omega), show x.o 0 = x.o0 from rfl, show x.o 1 = x.o1 from rfl]
  refine ⟨?_, h2⟩
  cases x.o0 <;> cases x.o1 <;> rfl
/-! ### Reading -/
def Md.read (f : Int → List UInt8 → Bool) (x : Md) (n : Int) : List UInt8 × Int :=
  if x.has n then (if x.right f 0 n.toNat then (x.l0.getD n.toNat zeroS, 0) else if x.right f 1 n.toNat then (x.l1.getD n.toNat zeroS, 0) else (zeroS, if x.o0 && x.o1 then 13 else 9)) else (zeroS, 2)
theorem right_in {f : Int → List UInt8 → Bool} {i k : Nat} (hr : x.right f i k = true) : x.o i = false := by
  rw [Md.right] at hr
  cases ho : x.o i
  · rfl
  · rw [ho] at hr; simp at hr
theorem Sees.read (h : Sees s x m) (n : Int) : readM (Two p1 g1 p2 g2) G s n = x.read G.f n := by
  rw [readM, Md.read, h.has]
  cases hh : x.has n with
  | false => rfl
  | true =>
    obtain ⟨k, rfl, hk⟩ := has_place hh
    rw [if_pos rfl, if_pos rfl, Int.toNat_natCast, h.right (by omega) hk, h.right (by omega) hk, h.rd_at (by omega) hk, h.rd_at (by omega) hk, h.there (by omega), h.there (by omega)]
    cases h0 : x.right G.f 0 k with
    | true => simp only [if_true, right_in h0]; rfl
    | false =>
      simp only [Bool.false_eq_true, if_false]
      cases h1 : x.right G.f 1 k with
      | true => simp only [if_true, right_in h1]; rfl
      | false =>
        simp only [Bool.false_eq_true, if_false]
        rw [show x.o 0 = x.o0 from rfl, show x.o 1 = x.o1 from rfl]
        cases x.o0 <;> cases x.o1 <;> rfl
/-- What Both tells. -/
def Md.bothTo (f : Int → List UInt8 → Bool) (x : Md) (k : Nat) : Nat → List (List UInt8)
  | 0 => []
  | p + 1 => x.bothTo f k p ++ if !(x.o p) && f k ((x.l p).getD k zeroS) then [(x.l p).getD k zeroS] else []
def Md.both (f : Int → List UInt8 → Bool) (x : Md) (n : Int) : List (List UInt8) := if x.has n then x.bothTo f n.toNat 2 else []
theorem Sees.bothTo (h : Sees s x m) {k : Nat} (hk : k < x.a.length) : ∀ p, p ≤ 2 → Mi.bothTo (Two p1 g1 p2 g2) G s.d (k : Int) p = x.bothTo G.f k p
  | 0, _ => rfl
  | p + 1, hp => by
    rw [Mi.bothTo, Md.bothTo, h.bothTo hk p (by omega), h.rdOk (by omega) hk, h.rd_at (by omega) hk]
    cases ho : x.o p
    · rfl
    · rfl
theorem Sees.both (h : Sees s x m) (n : Int) : bothL G s n = x.both G.f n := by
  rw [bothL, Md.both, h.has]
  cases hh : x.has n with
  | false => rfl
  | true =>
    obtain ⟨k, rfl, hk⟩ := has_place hh
    rw [if_pos rfl, if_pos rfl, Int.toNat_natCast, h.bothTo hk 2 (by omega)]
/-! ### Healing -/
def Md.mend (x : Md) (i k : Nat) (y : List UInt8) : Md := (x.setL i k y).put i k false
theorem Sees.mend (h : Sees s x m) {i k : Nat} (hi : i < 2) (hk : k < x.a.length) (ho : x.o i = false) (y : List UInt8) : (s.mend i k y).1 = 0 ∧ Sees (s.mend i k y).2 (x.mend i k y) (m + 1) := by
  obtain ⟨e, hw⟩ := h.wd hi hk y
  rw [ho] at e
  rw [Md.wd, ho, if_neg (by simp)] at hw
  rw [Mr.mend]
  rw [e]
  exact ⟨rfl, hw.put i k false⟩
def Md.heal (f : Int → List UInt8 → Bool) (x : Md) (n : Int) : (Int × Int) × Md :=
  if x.has n then
    if x.o0 || x.o1 then ((0, 13), x)
    else if x.right f 0 n.toNat then
      (if x.right f 1 n.toNat && decide (x.l0.getD n.toNat zeroS = x.l1.getD n.toNat zeroS) then ((0, 0), x) else ((1, 0), x.mend 1 n.toNat (x.l0.getD n.toNat zeroS)))
    else if x.right f 1 n.toNat then ((1, 0), x.mend 0 n.toNat (x.l1.getD n.toNat zeroS)) else ((2, 0), x)
  else ((0, 2), x)
theorem Sees.healTo (h : Sees s x m) {i k : Nat} (hi : i < 2) (hk : k < x.a.length) (ho : x.o i = false) (y : List UInt8) : (s.healTo i k y).1 = (1, 0) ∧ Sees (s.healTo i k y).2 (x.mend i k y) (m + 1) := by
  obtain ⟨e, hw⟩ := h.mend hi hk ho y
  rw [Mr.healTo, e]
  exact ⟨rfl, hw⟩
theorem Sees.heal (h : Sees s x m) (n : Int) : (s.heal G n).1 = (x.heal G.f n).1 ∧ Sees (s.heal G n).2 (x.heal G.f n).2 (m + 1) := by
  rw [Mr.heal, Md.heal, h.has]
  cases hh : x.has n with
  | false => exact ⟨rfl, h.more (by omega)⟩
  | true =>
    obtain ⟨k, rfl, hk⟩ := has_place hh
    rw [if_pos rfl, if_pos rfl, Int.toNat_natCast, h.there (by omega), h.there (by omega), h.right (by omega) hk, h.right (by omega) hk, show x.o 0 = x.o0 from rfl, show x.o 1 = x.o1 from rfl]
    cases ho0 : x.o0 with
    | true => exact ⟨rfl, h.more (by omega)⟩
    | false =>
      cases ho1 : x.o1 with
      | true => exact ⟨rfl, h.more (by omega)⟩
      | false =>
        rw [if_pos (show ((!false) && !false) = true from rfl), if_neg (show ¬ (false || false) = true by simp)]
        cases h0 : x.right G.f 0 k with
        | true =>
          have v0 : Mi.rightV (Two p1 g1 p2 g2) G s 0 k = x.l0.getD k zeroS := h.rightV (i := 0) (by omega) hk h0
          simp only [if_true, v0]
          cases h1 : x.right G.f 1 k with
          | true =>
            have v1 : Mi.rightV (Two p1 g1 p2 g2) G s 1 k = x.l1.getD k zeroS := h.rightV (i := 1) (by omega) hk h1
            simp only [if_true, v1, Bool.true_and]
            by_cases he : x.l0.getD k zeroS = x.l1.getD k zeroS
            · rw [if_pos he, if_pos (decide_eq_true he)]; exact ⟨rfl, h.more (by omega)⟩
            · rw [if_neg he, if_neg (by rw [decide_eq_false he]; simp)]; exact h.healTo (i := 1) (by omega) hk ho1 _
          | false => simp only [Bool.false_eq_true, if_false, Bool.false_and]; exact h.healTo (i := 1) (by omega) hk ho1 _
        | false =>
          simp only [Bool.false_eq_true, if_false]
          cases h1 : x.right G.f 1 k with
          | true =>
            have v1 : Mi.rightV (Two p1 g1 p2 g2) G s 1 k = x.l1.getD k zeroS := h.rightV (i := 1) (by omega) hk h1
            simp only [if_true, v1]; exact h.healTo (i := 0) (by omega) hk ho0 _
          | false => simp only [Bool.false_eq_true, if_false]; exact ⟨trivial, h.more (by omega)⟩
/-! ### New -/
def Md.new (n : Nat) : Md := ⟨List.replicate n zeroS, List.replicate n zeroS, false, false, List.replicate n false, List.replicate n false⟩
theorem sees_new {S T : Sy} {L0 L1 : List (List UInt8)} {o0 o1 : Bool} {n : Nat} (h0 : See S L0 o0 m) (h1 : See T L1 o1 m) (e0 : L0.length = n) (e1 : L1.length = n) :
    Sees (newM (Two p1 g1 p2 g2) (S, T)) ⟨L0, L1, o0, o1, List.replicate n o0, List.replicate n o1⟩ m := by
  have hs : Sees (⟨(S, T), List.replicate n o0, List.replicate n o1⟩ : Mr (Two p1 g1 p2 g2)) ⟨L0, L1, o0, o1, List.replicate n o0, List.replicate n o1⟩ m :=
    ⟨h0, h1, rfl, rfl, by rw [List.length_replicate]; exact e0, by rw [List.length_replicate]; exact e1, by rw [List.length_replicate, List.length_replicate]⟩
  have hp : (Two p1 g1 p2 g2).places (S, T) = n := by
    show min (S.at 0).st.length (T.at 0).st.length = n
    rw [h0.len, h1.len, e0, e1, Nat.min_self]
  have t0 : (Two p1 g1 p2 g2).there (S, T) 0 = !o0 := hs.there (i := 0) (by omega)
  have t1 : (Two p1 g1 p2 g2).there (S, T) 1 = !o1 := hs.there (i := 1) (by omega)
  have e : newM (Two p1 g1 p2 g2) (S, T) = ⟨(S, T), List.replicate n o0, List.replicate n o1⟩ := by
    show (⟨(S, T), List.replicate ((Two p1 g1 p2 g2).places (S, T)) (!((Two p1 g1 p2 g2).there (S, T) 0)), List.replicate ((Two p1 g1 p2 g2).places (S, T)) (!((Two p1 g1 p2 g2).there (S, T) 1))⟩ : Mr (Two p1 g1 p2 g2)) = _
    rw [hp, t0, t1, Bool.not_not, Bool.not_not]
  rw [e]
  exact hs
end
end Go.Proofs.Ytgfldfofiglefaa.Mi
/-
  .. Sync, Out, Rot; what waits of what is out. No program.
-/
namespace Go.Proofs.Ytgfldfofiglefaa.Mi
open Kd
section
variable {p1 g1 p2 g2 : Nat} {s : Mr (Two p1 g1 p2 g2)} {x : Md} {m : Nat} {G : Gd}
theorem dry_in (h0 : x.o0 = false) (h1 : x.o1 = false) : Dry s x := ⟨fun h => (by rw [h0] at h; cases h), fun h => (by rw [h1] at h; cases h)⟩
theorem Dry.write (hd : Dry s x) (h : Sees s x m) (n : Int) (y : List UInt8) : Dry (s.write n y).2 (x.write n y).2 := by
  rw [Mr.write, Md.write, h.has]
  cases hh : x.has n with
  | false => exact hd
  | true =>
    obtain ⟨k, rfl, hk⟩ := has_place hh
    rw [if_pos rfl, if_pos rfl, Int.toNat_natCast]
    obtain ⟨e0, h0⟩ := h.wd (i := 0) (by omega) hk y
    obtain ⟨e1, _⟩ := h0.wd (i := 1) (by omega) (by rw [wd_a]; exact hk) y
    have e1' : ((Two p1 g1 p2 g2).wr (s.w0 (k : Int) y 0).d 1 (k : Int) y).1 = _ := e1
    rw [wd_o] at e1'
    rw [e0, e1', eq13, eq13]
    have h2 : Dry ((s.w0 (k : Int) y 0).w0 (k : Int) y 1) ((x.wd 0 k y).wd 1 k y) := (hd.wd h (by omega) y).wd h0 (by omega) y
    rw [Mr.reach, show x.o 0 = x.o0 from rfl, show x.o 1 = x.o1 from rfl]
    cases ho0 : x.o0 <;> cases ho1 : x.o1
    · exact (h2.put 0 k false).put 1 k false
    · exact (h2.put 0 k false).put 1 k true
    · exact (h2.put 0 k true).put 1 k false
    · have hx : (x.wd 0 k y).wd 1 k y = x := by
        have h3 : x.wd 0 k y = x := by rw [Md.wd, show x.o 0 = true from ho0, if_pos rfl]
        rw [h3, Md.wd, show x.o 1 = true from ho1, if_pos rfl]
      rw [hx] at h2
      exact h2
theorem Dry.c1 (hd : Dry s x) (h : Sees s x m) {i k : Nat} (hi : i < 2) (hk : k < x.a.length) (y : List UInt8) : Dry (s.c1 (k : Int) y i).2 (x.wd i k y) := by
  have hw := hd.wd h hi y (k := k)
  rw [Mr.c1, h.rd_at hi hk]
  cases ho : x.o i with
  | true =>
    rw [if_neg (by simp), Md.wd, ho, if_pos rfl]
    exact hd
  | false =>
    rw [if_pos (by simp)]
    by_cases hy : (x.l i).getD k zeroS = y
    · rw [if_pos (by simpa using hy), ← hy, wd_same ho]
      exact hd
    · rw [if_neg (by simpa using hy)]
      exact hw
theorem Dry.choose (hd : Dry s x) (h : Sees s x m) (n : Int) (y : List UInt8) : Dry (s.choose n y).2 (x.write n y).2 := by
  rw [Mr.choose, Md.write, h.has]
  cases hh : x.has n with
  | false => exact hd
  | true =>
    obtain ⟨k, rfl, hk⟩ := has_place hh
    rw [if_pos rfl, if_pos rfl, Int.toNat_natCast]
    obtain ⟨e0, h0⟩ := h.c1 (i := 0) (by omega) hk y
    obtain ⟨e1, _⟩ := h0.c1 (i := 1) (by omega) (by rw [wd_a]; exact hk) y
    rw [wd_o] at e1
    rw [e0, e1]
    have h2 : Dry ((s.c1 (k : Int) y 0).2.c1 (k : Int) y 1).2 ((x.wd 0 k y).wd 1 k y) := (hd.c1 h (by omega) hk y).c1 h0 (by omega) (by rw [wd_a]; exact hk) y
    rw [Mr.reach, show x.o 0 = x.o0 from rfl, show x.o 1 = x.o1 from rfl]
    cases ho0 : x.o0 <;> cases ho1 : x.o1
    · exact (h2.put 0 k false).put 1 k false
    · exact (h2.put 0 k false).put 1 k true
    · exact (h2.put 0 k true).put 1 k false
    · have hx : (x.wd 0 k y).wd 1 k y = x := by
        have h3 : x.wd 0 k y = x := by rw [Md.wd, show x.o 0 = true from ho0, if_pos rfl]
        rw [h3, Md.wd, show x.o 1 = true from ho1, if_pos rfl]
      rw [hx] at h2
      exact h2
theorem setL_o (x : Md) (i k : Nat) (y : List UInt8) : (x.setL i k y).o0 = x.o0 ∧ (x.setL i k y).o1 = x.o1 ∧ (x.setL i k y).a = x.a := by unfold Md.setL; split <;> exact ⟨rfl, rfl, rfl⟩
theorem put_o (x : Md) (i k : Nat) (v : Bool) : (x.put i k v).o0 = x.o0 ∧ (x.put i k v).o1 = x.o1 ∧ (x.put i k v).a.length = x.a.length := by
  unfold Md.put; split
  · exact ⟨rfl, rfl, by simp⟩
  · exact ⟨rfl, rfl, rfl⟩
theorem mend_o (x : Md) (i k : Nat) (y : List UInt8) : (x.mend i k y).o0 = x.o0 ∧ (x.mend i k y).o1 = x.o1 ∧ (x.mend i k y).a.length = x.a.length := by
  obtain ⟨h1, h2, h3⟩ := put_o (x.setL i k y) i k false
  obtain ⟨h4, h5, h6⟩ := setL_o x i k y
  exact ⟨h1.trans h4, h2.trans h5, h3.trans (by rw [h6])⟩
theorem Dry.heal (hd : Dry s x) (h : Sees s x m) (n : Int) : Dry (s.heal G n).2 (x.heal G.f n).2 := by
  by_cases hc : x.has n = true ∧ x.o0 = false ∧ x.o1 = false
  · obtain ⟨hh, h0, h1⟩ := hc
    have e : (x.heal G.f n).2.o0 = false ∧ (x.heal G.f n).2.o1 = false := by
      rw [Md.heal, hh, if_pos rfl, if_neg (by rw [h0, h1]; simp)]
      split
      · split
        · exact ⟨h0, h1⟩
        · obtain ⟨a, b, _⟩ := mend_o x 1 n.toNat (x.l0.getD n.toNat zeroS); exact ⟨a.trans h0, b.trans h1⟩
      · split
        · obtain ⟨a, b, _⟩ := mend_o x 0 n.toNat (x.l1.getD n.toNat zeroS); exact ⟨a.trans h0, b.trans h1⟩
        · exact ⟨h0, h1⟩
    exact dry_in e.1 e.2
  · have e : (s.heal G n).2 = s ∧ (x.heal G.f n).2 = x := by
      rw [Mr.heal, Md.heal, h.has]
      cases hh : x.has n with
      | false => exact ⟨rfl, rfl⟩
      | true =>
        rw [if_pos rfl, if_pos rfl, h.there (by omega), h.there (by omega), show x.o 0 = x.o0 from rfl, show x.o 1 = x.o1 from rfl]
        cases h0 : x.o0 with
        | true => exact ⟨rfl, rfl⟩
        | false =>
          cases h1 : x.o1 with
          | true => exact ⟨rfl, rfl⟩
          | false => exact absurd ⟨hh, h0, h1⟩ hc
    rw [e.1, e.2]
    exact hd
/-! ### Sync -/
def Md.catch1 (f : Int → List UInt8 → Bool) (x : Md) (i k : Nat) : Md := if (x.st i).getD k false && x.right f (1 - i) k then x.mend i k ((x.l (1 - i)).getD k zeroS) else x
def Md.catchTo (f : Int → List UInt8 → Bool) (x : Md) (i : Nat) : Nat → Md
  | 0 => x
  | k + 1 => (x.catchTo f i k).catch1 f i k
theorem catch1_o (f : Int → List UInt8 → Bool) (x : Md) (i k : Nat) : (x.catch1 f i k).o0 = x.o0 ∧ (x.catch1 f i k).o1 = x.o1 ∧ (x.catch1 f i k).a.length = x.a.length := by
  unfold Md.catch1; split
  · exact mend_o _ _ _ _
  · exact ⟨rfl, rfl, rfl⟩
theorem catchTo_o (f : Int → List UInt8 → Bool) (x : Md) (i : Nat) : ∀ k, (x.catchTo f i k).o0 = x.o0 ∧ (x.catchTo f i k).o1 = x.o1 ∧ (x.catchTo f i k).a.length = x.a.length
  | 0 => ⟨rfl, rfl, rfl⟩
  | k + 1 => by
    obtain ⟨a, b, c⟩ := catchTo_o f x i k
    obtain ⟨d, e, g⟩ := catch1_o f (x.catchTo f i k) i k
    exact ⟨d.trans a, e.trans b, g.trans c⟩
theorem Sees.catch1 (h : Sees s x m) {i k : Nat} (hi : i < 2) (hk : k < x.a.length) (ho : x.o i = false) : Sees (s.catch1 G i k) (x.catch1 G.f i k) (m + 1) := by
  rw [Mr.catch1, Md.catch1, h.st, h.right (by omega) hk]
  split
  · rename_i hc
    have hr : x.right G.f (1 - i) k = true := by
      cases hr : x.right G.f (1 - i) k
      · rw [hr, Bool.and_false] at hc; cases hc
      · rfl
    rw [h.rightV (by omega) hk hr]
    exact (h.mend hi hk ho _).2
  · exact h.more (Nat.le_succ _)
theorem Sees.catchTo (h : Sees s x m) {i : Nat} (hi : i < 2) (ho0 : x.o0 = false) (ho1 : x.o1 = false) : ∀ k, k ≤ x.a.length → Sees (s.catchTo G i k) (x.catchTo G.f i k) (m + k)
  | 0, _ => h
  | k + 1, hk => by
    obtain ⟨a, b, c⟩ := catchTo_o G.f x i k
    refine (h.catchTo hi ho0 ho1 k (by omega)).catch1 hi (by rw [c]; omega) ?_
    rcases two hi with rfl | rfl
    · exact a.trans ho0
    · exact b.trans ho1
def Md.caught (f : Int → List UInt8 → Bool) (x : Md) : Md := (x.catchTo f 0 x.a.length).catchTo f 1 x.a.length
def Md.sync (f : Int → List UInt8 → Bool) (x : Md) : Int × Md :=
  if x.o0 || x.o1 then (13, x) else (if cnt (x.caught f).a = 0 ∧ cnt (x.caught f).b = 0 then 0 else 9, x.caught f)
theorem Sees.sync (h : Sees s x 0) : (s.sync G x.a.length).1 = (x.sync G.f).1 ∧ Sees (s.sync G x.a.length).2 (x.sync G.f).2 0 := by
  rw [Mr.sync, Md.sync, h.there (by omega), h.there (by omega), show x.o 0 = x.o0 from rfl, show x.o 1 = x.o1 from rfl]
  cases ho0 : x.o0 with
  | true => exact ⟨rfl, h⟩
  | false =>
    cases ho1 : x.o1 with
    | true => exact ⟨rfl, h⟩
    | false =>
      rw [if_pos (show ((!false) && !false) = true from rfl), if_neg (show ¬ (false || false) = true by simp)]
      obtain ⟨a, b, c⟩ := catchTo_o G.f x 0 x.a.length
      have h1 := h.catchTo (G := G) (i := 0) (by omega) ho0 ho1 x.a.length (Nat.le_refl _)
      have h2 : Sees (s.caught G x.a.length) (x.caught G.f) (0 + x.a.length + x.a.length) := h1.catchTo (i := 1) (by omega) (a.trans ho0) (b.trans ho1) x.a.length (by rw [c]; exact Nat.le_refl _)
      obtain ⟨d, e, g⟩ := catchTo_o G.f (x.catchTo G.f 0 x.a.length) 1 x.a.length
      have o0 : (x.caught G.f).o0 = false := (d.trans a).trans ho0
      have o1 : (x.caught G.f).o1 = false := (e.trans b).trans ho1
      obtain ⟨h3, h4⟩ := h2.fl (dry_in o0 o1)
      rw [o0, o1] at h3
      rw [if_pos (show (s.caught G x.a.length).flushed = (true, true) from h3)]
      refine ⟨?_, h4⟩
      rw [show (((s.caught G x.a.length).fl0 0).fl0 1).a = (x.caught G.f).a from h4.a, show (((s.caught G x.a.length).fl0 0).fl0 1).b = (x.caught G.f).b from h4.b]
theorem Dry.sync (h : Sees s x 0) : Dry (s.sync G x.a.length).2 (x.sync G.f).2 := (h.sync).2.dry
/-! ### Out, Rot -/
def Md.out (x : Md) (i : Nat) (on : Bool) : Md := if i = 0 then { x with o0 := on } else { x with o1 := on }
theorem Sees.out0 (h : Sees s x 0) (on : Bool) : Sees (⟨(s.d.1.put 0 ((s.d.1.at 0).out on), s.d.2), s.a, s.b⟩ : Mr (Two p1 g1 p2 g2)) (x.out 0 on) 0 := ⟨h.d0.out on, h.d1, h.a, h.b, h.n0, h.n1, h.nb⟩
theorem Sees.out1 (h : Sees s x 0) (on : Bool) : Sees (⟨(s.d.1, s.d.2.put 0 ((s.d.2.at 0).out on)), s.a, s.b⟩ : Mr (Two p1 g1 p2 g2)) (x.out 1 on) 0 := ⟨h.d0, h.d1.out on, h.a, h.b, h.n0, h.n1, h.nb⟩
theorem See.rot {S : Sy} {L : List (List UInt8)} {g : Bool} (h : See S L g 0) (i a : Int) (b : UInt8) : See (S.rot 0 i a b) (if hasByte L.length i a then rotL L i.toNat a.toNat b else L) g 0 := by
  have hl : (S.at 0).st.length = L.length := h.len
  rw [Sy.rot, hl]
  split
  · have hd0 : 0 < S.ds.length := by rw [h.ds]; omega
    have ha : (S.put 0 ((S.at 0).rot i.toNat a.toNat b)).at 0 = (S.at 0).rot i.toNat a.toNat b := by rw [at_put _ hd0, if_pos rfl]
    refine ⟨by rw [len_put]; exact h.ds, h.p, ?_, fun j hj => ?_, by rw [ha]; exact h.gone, by rw [ha]; exact h.lies, by rw [ha]; exact h.few⟩
    · rw [ha, ← h.stable]; rfl
    · rw [ha, Dv.now]
      show nowL (rotL (S.at 0).st i.toNat a.toNat b) (S.at 0).wt j = _
      rw [h.dry, Kd.flush_nil, h.stable]
  · exact h
def Md.rot (x : Md) (i : Nat) (n a : Int) (b : UInt8) : Md := if hasByte x.a.length n a then (if i = 0 then { x with l0 := rotL x.l0 n.toNat a.toNat b } else { x with l1 := rotL x.l1 n.toNat a.toNat b }) else x
theorem rotL_length (L : List (List UInt8)) (n a : Nat) (b : UInt8) : (rotL L n a b).length = L.length := by rw [rotL, List.length_set]
theorem Sees.rot0 (h : Sees s x 0) (n a : Int) (b : UInt8) : Sees (⟨(s.d.1.rot 0 n a b, s.d.2), s.a, s.b⟩ : Mr (Two p1 g1 p2 g2)) (x.rot 0 n a b) 0 := by
  have h1 := h.d0.rot n a b
  rw [h.n0] at h1
  rw [Md.rot]
  split
  · rename_i hc
    rw [if_pos hc] at h1
    exact ⟨h1, h.d1, h.a, h.b, by show (rotL _ _ _ _).length = _; rw [rotL_length]; exact h.n0, h.n1, h.nb⟩
  · rename_i hc
    rw [if_neg hc] at h1
    exact ⟨h1, h.d1, h.a, h.b, h.n0, h.n1, h.nb⟩
theorem Sees.rot1 (h : Sees s x 0) (n a : Int) (b : UInt8) : Sees (⟨(s.d.1, s.d.2.rot 0 n a b), s.a, s.b⟩ : Mr (Two p1 g1 p2 g2)) (x.rot 1 n a b) 0 := by
  have h1 := h.d1.rot n a b
  rw [h.n1] at h1
  rw [Md.rot]
  split
  · rename_i hc
    rw [if_pos hc] at h1
    exact ⟨h.d0, h1, h.a, h.b, h.n0, by show (rotL _ _ _ _).length = _; rw [rotL_length]; exact h.n1, h.nb⟩
  · rename_i hc
    rw [if_neg hc] at h1
    exact ⟨h.d0, h1, h.a, h.b, h.n0, h.n1, h.nb⟩
end
end Go.Proofs.Ytgfldfofiglefaa.Mi
/-
  A mirror of two devices of one power that never fails, as the document tells of it. No program.
-/
namespace Go.Proofs.Ytgfldfofiglefaa.Mu
open Kd Mi
section
variable {pw g1 g2 : Nat} {s : Mr (one pw g1 g2)} {x : Md} {m : Nat} {G : Gd}
structure Sees (s : Mr (one pw g1 g2)) (x : Md) (m : Nat) : Prop where
  d0 : See s.d 0 x.l0 x.o0 m
  d1 : See s.d 1 x.l1 x.o1 m
  a : s.a = x.a
  b : s.b = x.b
  n0 : x.l0.length = x.a.length
  n1 : x.l1.length = x.a.length
  nb : x.b.length = x.a.length
theorem Sees.more (h : Sees s x m) {m' : Nat} (hm : m ≤ m') : Sees s x m' := ⟨h.d0.more hm, h.d1.more hm, h.a, h.b, h.n0, h.n1, h.nb⟩
theorem Sees.ok (h : Sees s x m) : s.ok x.a.length := ⟨by rw [h.a], by rw [h.b]; exact h.nb⟩
theorem Sees.st (h : Sees s x m) (i : Nat) : s.st i = x.st i := by
  unfold Mr.st Md.st; split
  · exact h.a
  · exact h.b
theorem Sees.most (h : Sees s x m) : (one pw g1 g2).most s.d ≤ m := by
  show mostD s.d ≤ m
  unfold mostD
  rw [if_pos h.d0.ds]
  exact Nat.max_le.2 ⟨h.d0.few, h.d1.few⟩
theorem Sees.has (h : Sees s x m) (n : Int) : Mi.has s n = x.has n := by rw [Mi.has, Md.has, h.a]
theorem Sees.rd (h : Sees s x m) {i : Nat} (hi : i < 2) (n : Int) :
    (one pw g1 g2).rd s.d i n = (if x.o i then 13 else if n < 0 ∨ (x.a.length : Int) ≤ n then 2 else 0, if x.o i = false ∧ 0 ≤ n ∧ n < (x.a.length : Int) then (x.l i).getD n.toNat zeroS else zeroS) := by
  rcases two hi with rfl | rfl
  · show (refuseN s.d.p (s.d.at 0) n, readS s.d.p (s.d.at 0) n) = _
    rw [h.d0.refuse, h.d0.read, h.n0]; rfl
  · show (refuseN s.d.p (s.d.at 1) n, readS s.d.p (s.d.at 1) n) = _
    rw [h.d1.refuse, h.d1.read, h.n1]; rfl
theorem Sees.there (h : Sees s x m) {i : Nat} (hi : i < 2) : (one pw g1 g2).there s.d i = !(x.o i) := by
  have hp : ((one pw g1 g2).ptr i).isSome = true := by rcases two hi with rfl | rfl <;> rfl
  rw [Duo.there, hp, h.rd hi]
  cases x.o i
  · show (true && ((if false = true then (13 : Int) else if (0 : Int) < 0 ∨ (x.a.length : Int) ≤ 0 then 2 else 0) != 13)) = true
    rw [if_neg (by simp)]
    split <;> rfl
  · rfl
/-- A place's reading. -/
theorem Sees.rd_at (h : Sees s x m) {i k : Nat} (hi : i < 2) (hk : k < x.a.length) : (one pw g1 g2).rd s.d i (k : Int) = (if x.o i then 13 else 0, if x.o i then zeroS else (x.l i).getD k zeroS) := by
  rw [h.rd hi]
  cases x.o i
  · simp only [Bool.false_eq_true, if_false, true_and]
    rw [if_neg (by omega), if_pos ⟨by omega, by omega⟩, Int.toNat_natCast]
  · simp
theorem Sees.rdOk (h : Sees s x m) {i k : Nat} (hi : i < 2) (hk : k < x.a.length) : Mi.rdOk (one pw g1 g2) G s.d i (k : Int) = (!(x.o i) && G.f k ((x.l i).getD k zeroS)) := by
  rw [Mi.rdOk, h.rd_at hi hk]
  cases x.o i <;> rfl
theorem Sees.right (h : Sees s x m) {i k : Nat} (hi : i < 2) (hk : k < x.a.length) : Mi.right (one pw g1 g2) G s i k = x.right G.f i k := by
  rw [Mi.right, Md.right, h.st, h.rdOk hi hk]
theorem Sees.rightV (h : Sees s x m) {i k : Nat} (hi : i < 2) (hk : k < x.a.length) (hr : x.right G.f i k = true) : Mi.rightV (one pw g1 g2) G s i k = (x.l i).getD k zeroS := by
  have ho : x.o i = false := by
    rw [Md.right] at hr
    cases ho : x.o i
    · rfl
    · rw [ho] at hr; simp at hr
  rw [Mi.rightV, h.right hi hk, hr, if_pos rfl, h.rd_at hi hk, ho]; rfl
theorem Sees.put (h : Sees s x m) (i k : Nat) (v : Bool) : Sees (s.put i k v) (x.put i k v) m := by
  unfold Mr.put Md.put
  split
  · exact ⟨h.d0, h.d1, by show s.a.set k v = x.a.set k v; rw [h.a], h.b, by show x.l0.length = (x.a.set k v).length; rw [List.length_set]; exact h.n0, by show x.l1.length = (x.a.set k v).length; rw [List.length_set]; exact h.n1, by show x.b.length = (x.a.set k v).length; rw [List.length_set]; exact h.nb⟩
  · exact ⟨h.d0, h.d1, h.a, by show s.b.set k v = x.b.set k v; rw [h.b], h.n0, h.n1, by show (x.b.set k v).length = x.a.length; rw [List.length_set]; exact h.nb⟩
theorem Sees.wd (h : Sees s x m) {i k : Nat} (hi : i < 2) (hk : k < x.a.length) (y : List UInt8) :
    ((one pw g1 g2).wr s.d i (k : Int) y).1 = (if x.o i then 13 else 0) ∧ Sees (s.dev ((one pw g1 g2).wr s.d i (k : Int) y).2) (x.wd i k y) (m + 1) := by
  rcases two hi with rfl | rfl
  · cases ho : x.o0 with
    | true =>
      have hw : (one pw g1 g2).wr s.d 0 (k : Int) y = _ := h.d0.write_no (n := (k : Int)) (x := y) (by rw [ho]; simp)
      rw [hw, ho]
      refine ⟨by rw [show x.o 0 = true from ho]; rfl, ?_⟩
      rw [Md.wd, show x.o 0 = true from ho, if_pos rfl]
      exact h.more (Nat.le_succ _)
    | false =>
      obtain ⟨h1, h2, h3⟩ := h.d0.write_yes (x := y) ho (k := k) (by rw [h.n0]; exact hk)
      refine ⟨by show (s.d.write 0 k y).1 = _; rw [h1, show x.o 0 = false from ho]; rfl, ?_⟩
      rw [Md.wd, show x.o 0 = false from ho, if_neg (by simp)]
      exact ⟨h2, (h3 (by omega) h.d1).more (Nat.le_succ _), h.a, h.b, by show (x.l0.set k y).length = _; rw [List.length_set]; exact h.n0, h.n1, h.nb⟩
  · cases ho : x.o1 with
    | true =>
      have hw : (one pw g1 g2).wr s.d 1 (k : Int) y = _ := h.d1.write_no (n := (k : Int)) (x := y) (by rw [ho]; simp)
      rw [hw, ho]
      refine ⟨by rw [show x.o 1 = true from ho]; rfl, ?_⟩
      rw [Md.wd, show x.o 1 = true from ho, if_pos rfl]
      exact h.more (Nat.le_succ _)
    | false =>
      obtain ⟨h1, h2, h3⟩ := h.d1.write_yes (x := y) ho (k := k) (by rw [h.n1]; exact hk)
      refine ⟨by show (s.d.write 1 k y).1 = _; rw [h1, show x.o 1 = false from ho]; rfl, ?_⟩
      rw [Md.wd, show x.o 1 = false from ho, if_neg (by simp)]
      exact ⟨(h3 (by omega) h.d0).more (Nat.le_succ _), h2, h.a, h.b, h.n0, by show (x.l1.set k y).length = _; rw [List.length_set]; exact h.n1, h.nb⟩
theorem Sees.write (h : Sees s x m) (n : Int) (y : List UInt8) : (s.write n y).1 = (x.write n y).1 ∧ Sees (s.write n y).2 (x.write n y).2 (m + 2) := by
  rw [Mr.write, Md.write, h.has]
  cases hh : x.has n with
  | false => exact ⟨rfl, h.more (by omega)⟩
  | true =>
    obtain ⟨k, rfl, hk⟩ := has_place hh
    rw [if_pos rfl, if_pos rfl, Int.toNat_natCast]
    obtain ⟨e0, h0⟩ := h.wd (i := 0) (by omega) hk y
    obtain ⟨e1, h1⟩ := h0.wd (i := 1) (by omega) (by rw [wd_a]; exact hk) y
    have e1' : ((one pw g1 g2).wr (s.w0 (k : Int) y 0).d 1 (k : Int) y).1 = _ := e1
    rw [wd_o] at e1'
    rw [e0, e1', eq13, eq13]
    have h2 : Sees ((s.w0 (k : Int) y 0).w0 (k : Int) y 1) ((x.wd 0 k y).wd 1 k y) (m + 1 + 1) := h1
    rw [Mr.reach, show x.o 0 = x.o0 from rfl, show x.o 1 = x.o1 from rfl]
    cases ho0 : x.o0 <;> cases ho1 : x.o1
    · exact ⟨rfl, (h2.put 0 k false).put 1 k false⟩
    · exact ⟨rfl, (h2.put 0 k false).put 1 k true⟩
    · exact ⟨rfl, (h2.put 0 k true).put 1 k false⟩
    · refine ⟨rfl, ?_⟩
      have hx : (x.wd 0 k y).wd 1 k y = x := by
        have h3 : x.wd 0 k y = x := by rw [Md.wd, show x.o 0 = true from ho0, if_pos rfl]
        rw [h3, Md.wd, show x.o 1 = true from ho1, if_pos rfl]
      rw [hx] at h2
      exact h2
end
end Go.Proofs.Ytgfldfofiglefaa.Mu
/-
  .. and what Choose, Flush, Read, Heal, Both, New make of it. No program.
-/
namespace Go.Proofs.Ytgfldfofiglefaa.Mu
open Kd Mi
section
variable {pw g1 g2 : Nat} {s : Mr (one pw g1 g2)} {x : Md} {m : Nat} {G : Gd}
theorem Sees.c1 (h : Sees s x m) {i k : Nat} (hi : i < 2) (hk : k < x.a.length) (y : List UInt8) : (s.c1 (k : Int) y i).1 = !(x.o i) ∧ Sees (s.c1 (k : Int) y i).2 (x.wd i k y) (m + 1) := by
  obtain ⟨e, hw⟩ := h.wd hi hk y
  rw [Mr.c1, h.rd_at hi hk]
  cases ho : x.o i with
  | true =>
    rw [if_neg (by simp)]
    refine ⟨rfl, ?_⟩
    rw [Md.wd, ho, if_pos rfl]
    exact h.more (Nat.le_succ _)
  | false =>
    rw [if_pos (by simp)]
    by_cases hy : (x.l i).getD k zeroS = y
    · rw [if_pos (by simpa using hy)]
      refine ⟨rfl, ?_⟩
      rw [← hy, wd_same ho]
      exact h.more (Nat.le_succ _)
    · rw [if_neg (by simpa using hy)]
      exact ⟨by rw [e, eq13, ho], hw⟩
theorem Sees.choose (h : Sees s x m) (n : Int) (y : List UInt8) : (s.choose n y).1 = (x.write n y).1 ∧ Sees (s.choose n y).2 (x.write n y).2 (m + 2) := by
  rw [Mr.choose, Md.write, h.has]
  cases hh : x.has n with
  | false => exact ⟨rfl, h.more (by omega)⟩
  | true =>
    obtain ⟨k, rfl, hk⟩ := has_place hh
    rw [if_pos rfl, if_pos rfl, Int.toNat_natCast]
    obtain ⟨e0, h0⟩ := h.c1 (i := 0) (by omega) hk y
    obtain ⟨e1, h1⟩ := h0.c1 (i := 1) (by omega) (by rw [wd_a]; exact hk) y
    rw [wd_o] at e1
    rw [e0, e1]
    have h2 : Sees ((s.c1 (k : Int) y 0).2.c1 (k : Int) y 1).2 ((x.wd 0 k y).wd 1 k y) (m + 1 + 1) := h1
    rw [Mr.reach, show x.o 0 = x.o0 from rfl, show x.o 1 = x.o1 from rfl]
    cases ho0 : x.o0 <;> cases ho1 : x.o1
    · exact ⟨rfl, (h2.put 0 k false).put 1 k false⟩
    · exact ⟨rfl, (h2.put 0 k false).put 1 k true⟩
    · exact ⟨rfl, (h2.put 0 k true).put 1 k false⟩
    · refine ⟨rfl, ?_⟩
      have hx : (x.wd 0 k y).wd 1 k y = x := by
        have h3 : x.wd 0 k y = x := by rw [Md.wd, show x.o 0 = true from ho0, if_pos rfl]
        rw [h3, Md.wd, show x.o 1 = true from ho1, if_pos rfl]
      rw [hx] at h2
      exact h2
structure Dry (s : Mr (one pw g1 g2)) (x : Md) : Prop where
  d0 : x.o0 = true → See s.d 0 x.l0 x.o0 0
  d1 : x.o1 = true → See s.d 1 x.l1 x.o1 0
theorem Sees.dry (h : Sees s x 0) : Dry s x := ⟨fun _ => h.d0, fun _ => h.d1⟩
theorem Dry.put (h : Dry s x) (i k : Nat) (v : Bool) : Dry (s.put i k v) (x.put i k v) := by
  unfold Mr.put Md.put; split <;> exact ⟨h.d0, h.d1⟩
theorem Dry.wd (h : Dry s x) (hs : Sees s x m) {i k : Nat} (hi : i < 2) (hk : k < x.a.length) (y : List UInt8) : Dry (s.dev ((one pw g1 g2).wr s.d i (k : Int) y).2) (x.wd i k y) := by
  rcases two hi with rfl | rfl
  · cases ho : x.o0 with
    | true =>
      have hw : (one pw g1 g2).wr s.d 0 (k : Int) y = _ := hs.d0.write_no (n := (k : Int)) (x := y) (by rw [ho]; simp)
      rw [hw, Md.wd, show x.o 0 = true from ho, if_pos rfl]
      exact h
    | false =>
      obtain ⟨h1, h2, h3⟩ := hs.d0.write_yes (x := y) ho (k := k) (by rw [hs.n0]; exact hk)
      rw [Md.wd, show x.o 0 = false from ho, if_neg (by simp)]
      exact ⟨fun h1 => (by have h2 : x.o0 = true := h1; rw [ho] at h2; cases h2), fun h4 => h3 (by omega) (h.d1 h4)⟩
  · cases ho : x.o1 with
    | true =>
      have hw : (one pw g1 g2).wr s.d 1 (k : Int) y = _ := hs.d1.write_no (n := (k : Int)) (x := y) (by rw [ho]; simp)
      rw [hw, Md.wd, show x.o 1 = true from ho, if_pos rfl]
      exact h
    | false =>
      obtain ⟨h1, h2, h3⟩ := hs.d1.write_yes (x := y) ho (k := k) (by rw [hs.n1]; exact hk)
      rw [Md.wd, show x.o 1 = false from ho, if_neg (by simp)]
      exact ⟨fun h4 => h3 (by omega) (h.d0 h4), fun h1 => (by have h2 : x.o1 = true := h1; rw [ho] at h2; cases h2)⟩
theorem Sees.fl (h : Sees s x m) (hd : Dry s x) : s.flushed = (!x.o0, !x.o1) ∧ Sees ((s.fl0 0).fl0 1) x 0 := by
  have h0 : ((s.d.flush 0).1 == 0) = !x.o0 ∧ See (s.d.flush 0).2 0 x.l0 x.o0 0 ∧ ∀ {L' g' m'}, See s.d 1 L' g' m' → See (s.d.flush 0).2 1 L' g' m' := by
    cases ho : x.o0 with
    | true => rw [h.d0.flush_no ho]; exact ⟨rfl, ho ▸ hd.d0 ho, fun h => h⟩
    | false => obtain ⟨h1, h2, h3⟩ := h.d0.flush_yes ho; rw [h1]; exact ⟨rfl, ho ▸ h2, fun h => h3 (by omega) h⟩
  have hs1 := h0.2.2 h.d1
  have h1 : (((s.d.flush 0).2.flush 1).1 == 0) = !x.o1 ∧ See ((s.d.flush 0).2.flush 1).2 1 x.l1 x.o1 0 ∧ See ((s.d.flush 0).2.flush 1).2 0 x.l0 x.o0 0 := by
    cases ho : x.o1 with
    | true => rw [hs1.flush_no ho]; exact ⟨rfl, ho ▸ h0.2.2 (hd.d1 ho), h0.2.1⟩
    | false => obtain ⟨h1, h2, h3⟩ := hs1.flush_yes ho; rw [h1]; exact ⟨rfl, ho ▸ h2, h3 (by omega) h0.2.1⟩
  refine ⟨?_, h1.2.2, h1.2.1, h.a, h.b, h.n0, h.n1, h.nb⟩
  rw [Mr.flushed]
  show (((s.d.flush 0).1 == 0), (((s.d.flush 0).2.flush 1).1 == 0)) = _
  rw [h0.1, h1.1]
theorem Sees.flush (h : Sees s x m) (hd : Dry s x) : s.flush.1 = (if x.o0 && x.o1 then 13 else 0) ∧ Sees s.flush.2 x 0 := by
  obtain ⟨h1, h2⟩ := h.fl hd
  rw [Mr.flush, h1, h.there (by omega), h.there (by omega), show x.o 0 = x.o0 from rfl, show x.o 1 = x.o1 from rfl]
  refine ⟨?_, h2⟩
  cases x.o0 <;> cases x.o1 <;> rfl
theorem Sees.read (h : Sees s x m) (n : Int) : readM (one pw g1 g2) G s n = x.read G.f n := by
  rw [readM, Md.read, h.has]
  cases hh : x.has n with
  | false => rfl
  | true =>
    obtain ⟨k, rfl, hk⟩ := has_place hh
    rw [if_pos rfl, if_pos rfl, Int.toNat_natCast, h.right (by omega) hk, h.right (by omega) hk, h.rd_at (by omega) hk, h.rd_at (by omega) hk, h.there (by omega), h.there (by omega)]
    cases h0 : x.right G.f 0 k with
    | true => simp only [if_true, right_in h0]; rfl
    | false =>
      simp only [Bool.false_eq_true, if_false]
      cases h1 : x.right G.f 1 k with
      | true => simp only [if_true, right_in h1]; rfl
      | false =>
        simp only [Bool.false_eq_true, if_false]
        rw [show x.o 0 = x.o0 from rfl, show x.o 1 = x.o1 from rfl]
        cases x.o0 <;> cases x.o1 <;> rfl
theorem Sees.bothTo (h : Sees s x m) {k : Nat} (hk : k < x.a.length) : ∀ p, p ≤ 2 → Mi.bothTo (one pw g1 g2) G s.d (k : Int) p = x.bothTo G.f k p
  | 0, _ => rfl
  | p + 1, hp => by
    rw [Mi.bothTo, Md.bothTo, h.bothTo hk p (by omega), h.rdOk (by omega) hk, h.rd_at (by omega) hk]
    cases ho : x.o p
    · rfl
    · rfl
theorem Sees.both (h : Sees s x m) (n : Int) : bothL G s n = x.both G.f n := by
  rw [bothL, Md.both, h.has]
  cases hh : x.has n with
  | false => rfl
  | true =>
    obtain ⟨k, rfl, hk⟩ := has_place hh
    rw [if_pos rfl, if_pos rfl, Int.toNat_natCast, h.bothTo hk 2 (by omega)]
theorem Sees.mend (h : Sees s x m) {i k : Nat} (hi : i < 2) (hk : k < x.a.length) (ho : x.o i = false) (y : List UInt8) : (s.mend i k y).1 = 0 ∧ Sees (s.mend i k y).2 (x.mend i k y) (m + 1) := by
  obtain ⟨e, hw⟩ := h.wd hi hk y
  rw [ho] at e
  rw [Md.wd, ho, if_neg (by simp)] at hw
  rw [Mr.mend]
  rw [e]
  exact ⟨rfl, hw.put i k false⟩
theorem Sees.healTo (h : Sees s x m) {i k : Nat} (hi : i < 2) (hk : k < x.a.length) (ho : x.o i = false) (y : List UInt8) : (s.healTo i k y).1 = (1, 0) ∧ Sees (s.healTo i k y).2 (x.mend i k y) (m + 1) := by
  obtain ⟨e, hw⟩ := h.mend hi hk ho y
  rw [Mr.healTo, e]
  exact ⟨rfl, hw⟩
theorem Sees.heal (h : Sees s x m) (n : Int) : (s.heal G n).1 = (x.heal G.f n).1 ∧ Sees (s.heal G n).2 (x.heal G.f n).2 (m + 1) := by
  rw [Mr.heal, Md.heal, h.has]
  cases hh : x.has n with
  | false => exact ⟨rfl, h.more (by omega)⟩
  | true =>
    obtain ⟨k, rfl, hk⟩ := has_place hh
    rw [if_pos rfl, if_pos rfl, Int.toNat_natCast, h.there (by omega), h.there (by omega), h.right (by omega) hk, h.right (by omega) hk, show x.o 0 = x.o0 from rfl, show x.o 1 = x.o1 from rfl]
    cases ho0 : x.o0 with
    | true => exact ⟨rfl, h.more (by omega)⟩
    | false =>
      cases ho1 : x.o1 with
      | true => exact ⟨rfl, h.more (by omega)⟩
      | false =>
        rw [if_pos (show ((!false) && !false) = true from rfl), if_neg (show ¬ (false || false) = true by simp)]
        cases h0 : x.right G.f 0 k with
        | true =>
          have v0 : Mi.rightV (one pw g1 g2) G s 0 k = x.l0.getD k zeroS := h.rightV (i := 0) (by omega) hk h0
          simp only [if_true, v0]
          cases h1 : x.right G.f 1 k with
          | true =>
            have v1 : Mi.rightV (one pw g1 g2) G s 1 k = x.l1.getD k zeroS := h.rightV (i := 1) (by omega) hk h1
            simp only [if_true, v1, Bool.true_and]
            by_cases he : x.l0.getD k zeroS = x.l1.getD k zeroS
            · rw [if_pos he, if_pos (decide_eq_true he)]; exact ⟨rfl, h.more (by omega)⟩
            · rw [if_neg he, if_neg (by rw [decide_eq_false he]; simp)]; exact h.healTo (i := 1) (by omega) hk ho1 _
          | false => simp only [Bool.false_eq_true, if_false, Bool.false_and]; exact h.healTo (i := 1) (by omega) hk ho1 _
        | false =>
          simp only [Bool.false_eq_true, if_false]
          cases h1 : x.right G.f 1 k with
          | true =>
            have v1 : Mi.rightV (one pw g1 g2) G s 1 k = x.l1.getD k zeroS := h.rightV (i := 1) (by omega) hk h1
            simp only [if_true, v1]; exact h.healTo (i := 0) (by omega) hk ho0 _
          | false => simp only [Bool.false_eq_true, if_false]; exact ⟨trivial, h.more (by omega)⟩
theorem sees_new {S : Sy} {L0 L1 : List (List UInt8)} {o0 o1 : Bool} {n : Nat} (h0 : See S 0 L0 o0 m) (h1 : See S 1 L1 o1 m) (e0 : L0.length = n) (e1 : L1.length = n) :
    Sees (newM (one pw g1 g2) S) ⟨L0, L1, o0, o1, List.replicate n o0, List.replicate n o1⟩ m := by
  have hs : Sees (⟨S, List.replicate n o0, List.replicate n o1⟩ : Mr (one pw g1 g2)) ⟨L0, L1, o0, o1, List.replicate n o0, List.replicate n o1⟩ m :=
    ⟨h0, h1, rfl, rfl, by rw [List.length_replicate]; exact e0, by rw [List.length_replicate]; exact e1, by rw [List.length_replicate, List.length_replicate]⟩
  have hp : (one pw g1 g2).places S = n := by
    show min (S.at 0).st.length (S.at 1).st.length = n
    rw [h0.len, h1.len, e0, e1, Nat.min_self]
  have t0 : (one pw g1 g2).there S 0 = !o0 := hs.there (i := 0) (by omega)
  have t1 : (one pw g1 g2).there S 1 = !o1 := hs.there (i := 1) (by omega)
  have e : newM (one pw g1 g2) S = ⟨S, List.replicate n o0, List.replicate n o1⟩ := by
    show (⟨S, List.replicate ((one pw g1 g2).places S) (!((one pw g1 g2).there S 0)), List.replicate ((one pw g1 g2).places S) (!((one pw g1 g2).there S 1))⟩ : Mr (one pw g1 g2)) = _
    rw [hp, t0, t1, Bool.not_not, Bool.not_not]
  rw [e]
  exact hs
end
end Go.Proofs.Ytgfldfofiglefaa.Mu
/-
  .. Sync, Out, Rot; what waits of what is out. No program.
-/
namespace Go.Proofs.Ytgfldfofiglefaa.Mu
open Kd Mi
section
variable {pw g1 g2 : Nat} {s : Mr (one pw g1 g2)} {x : Md} {m : Nat} {G : Gd}
theorem dry_in (h0 : x.o0 = false) (h1 : x.o1 = false) : Dry s x := ⟨fun h => (by rw [h0] at h; cases h), fun h => (by rw [h1] at h; cases h)⟩
theorem Dry.write (hd : Dry s x) (h : Sees s x m) (n : Int) (y : List UInt8) : Dry (s.write n y).2 (x.write n y).2 := by
  rw [Mr.write, Md.write, h.has]
  cases hh : x.has n with
  | false => exact hd
  | true =>
    obtain ⟨k, rfl, hk⟩ := has_place hh
    rw [if_pos rfl, if_pos rfl, Int.toNat_natCast]
    obtain ⟨e0, h0⟩ := h.wd (i := 0) (by omega) hk y
    obtain ⟨e1, _⟩ := h0.wd (i := 1) (by omega) (by rw [wd_a]; exact hk) y
    have e1' : ((one pw g1 g2).wr (s.w0 (k : Int) y 0).d 1 (k : Int) y).1 = _ := e1
    rw [wd_o] at e1'
    rw [e0, e1', eq13, eq13]
    have h2 : Dry ((s.w0 (k : Int) y 0).w0 (k : Int) y 1) ((x.wd 0 k y).wd 1 k y) := (hd.wd h (by omega) hk y).wd h0 (by omega) (by rw [wd_a]; exact hk) y
    rw [Mr.reach, show x.o 0 = x.o0 from rfl, show x.o 1 = x.o1 from rfl]
    cases ho0 : x.o0 <;> cases ho1 : x.o1
    · exact (h2.put 0 k false).put 1 k false
    · exact (h2.put 0 k false).put 1 k true
    · exact (h2.put 0 k true).put 1 k false
    · have hx : (x.wd 0 k y).wd 1 k y = x := by
        have h3 : x.wd 0 k y = x := by rw [Md.wd, show x.o 0 = true from ho0, if_pos rfl]
        rw [h3, Md.wd, show x.o 1 = true from ho1, if_pos rfl]
      rw [hx] at h2
      exact h2
theorem Dry.c1 (hd : Dry s x) (h : Sees s x m) {i k : Nat} (hi : i < 2) (hk : k < x.a.length) (y : List UInt8) : Dry (s.c1 (k : Int) y i).2 (x.wd i k y) := by
  have hw := hd.wd h hi hk y
  rw [Mr.c1, h.rd_at hi hk]
  cases ho : x.o i with
  | true =>
    rw [if_neg (by simp), Md.wd, ho, if_pos rfl]
    exact hd
  | false =>
    rw [if_pos (by simp)]
    by_cases hy : (x.l i).getD k zeroS = y
    · rw [if_pos (by simpa using hy), ← hy, wd_same ho]
      exact hd
    · rw [if_neg (by simpa using hy)]
      exact hw
theorem Dry.choose (hd : Dry s x) (h : Sees s x m) (n : Int) (y : List UInt8) : Dry (s.choose n y).2 (x.write n y).2 := by
  rw [Mr.choose, Md.write, h.has]
  cases hh : x.has n with
  | false => exact hd
  | true =>
    obtain ⟨k, rfl, hk⟩ := has_place hh
    rw [if_pos rfl, if_pos rfl, Int.toNat_natCast]
    obtain ⟨e0, h0⟩ := h.c1 (i := 0) (by omega) hk y
    obtain ⟨e1, _⟩ := h0.c1 (i := 1) (by omega) (by rw [wd_a]; exact hk) y
    rw [wd_o] at e1
    rw [e0, e1]
    have h2 : Dry ((s.c1 (k : Int) y 0).2.c1 (k : Int) y 1).2 ((x.wd 0 k y).wd 1 k y) := (hd.c1 h (by omega) hk y).c1 h0 (by omega) (by rw [wd_a]; exact hk) y
    rw [Mr.reach, show x.o 0 = x.o0 from rfl, show x.o 1 = x.o1 from rfl]
    cases ho0 : x.o0 <;> cases ho1 : x.o1
    · exact (h2.put 0 k false).put 1 k false
    · exact (h2.put 0 k false).put 1 k true
    · exact (h2.put 0 k true).put 1 k false
    · have hx : (x.wd 0 k y).wd 1 k y = x := by
        have h3 : x.wd 0 k y = x := by rw [Md.wd, show x.o 0 = true from ho0, if_pos rfl]
        rw [h3, Md.wd, show x.o 1 = true from ho1, if_pos rfl]
      rw [hx] at h2
      exact h2
theorem Dry.heal (hd : Dry s x) (h : Sees s x m) (n : Int) : Dry (s.heal G n).2 (x.heal G.f n).2 := by
  by_cases hc : x.has n = true ∧ x.o0 = false ∧ x.o1 = false
  · obtain ⟨hh, h0, h1⟩ := hc
    have e : (x.heal G.f n).2.o0 = false ∧ (x.heal G.f n).2.o1 = false := by
      rw [Md.heal, hh, if_pos rfl, if_neg (by rw [h0, h1]; simp)]
      split
      · split
        · exact ⟨h0, h1⟩
        · obtain ⟨a, b, _⟩ := mend_o x 1 n.toNat (x.l0.getD n.toNat zeroS); exact ⟨a.trans h0, b.trans h1⟩
      · split
        · obtain ⟨a, b, _⟩ := mend_o x 0 n.toNat (x.l1.getD n.toNat zeroS); exact ⟨a.trans h0, b.trans h1⟩
        · exact ⟨h0, h1⟩
    exact dry_in e.1 e.2
  · have e : (s.heal G n).2 = s ∧ (x.heal G.f n).2 = x := by
      rw [Mr.heal, Md.heal, h.has]
      cases hh : x.has n with
      | false => exact ⟨rfl, rfl⟩
      | true =>
        rw [if_pos rfl, if_pos rfl, h.there (by omega), h.there (by omega), show x.o 0 = x.o0 from rfl, show x.o 1 = x.o1 from rfl]
        cases h0 : x.o0 with
        | true => exact ⟨rfl, rfl⟩
        | false =>
          cases h1 : x.o1 with
          | true => exact ⟨rfl, rfl⟩
          | false => exact absurd ⟨hh, h0, h1⟩ hc
    rw [e.1, e.2]
    exact hd
theorem Sees.catch1 (h : Sees s x m) {i k : Nat} (hi : i < 2) (hk : k < x.a.length) (ho : x.o i = false) : Sees (s.catch1 G i k) (x.catch1 G.f i k) (m + 1) := by
  rw [Mr.catch1, Md.catch1, h.st, h.right (by omega) hk]
  split
  · rename_i hc
    have hr : x.right G.f (1 - i) k = true := by
      cases hr : x.right G.f (1 - i) k
      · rw [hr, Bool.and_false] at hc; cases hc
      · rfl
    rw [h.rightV (by omega) hk hr]
    exact (h.mend hi hk ho _).2
  · exact h.more (Nat.le_succ _)
theorem Sees.catchTo (h : Sees s x m) {i : Nat} (hi : i < 2) (ho0 : x.o0 = false) (ho1 : x.o1 = false) : ∀ k, k ≤ x.a.length → Sees (s.catchTo G i k) (x.catchTo G.f i k) (m + k)
  | 0, _ => h
  | k + 1, hk => by
    obtain ⟨a, b, c⟩ := catchTo_o G.f x i k
    refine (h.catchTo hi ho0 ho1 k (by omega)).catch1 hi (by rw [c]; omega) ?_
    rcases two hi with rfl | rfl
    · exact a.trans ho0
    · exact b.trans ho1
theorem Sees.sync (h : Sees s x 0) : (s.sync G x.a.length).1 = (x.sync G.f).1 ∧ Sees (s.sync G x.a.length).2 (x.sync G.f).2 0 := by
  rw [Mr.sync, Md.sync, h.there (by omega), h.there (by omega), show x.o 0 = x.o0 from rfl, show x.o 1 = x.o1 from rfl]
  cases ho0 : x.o0 with
  | true => exact ⟨rfl, h⟩
  | false =>
    cases ho1 : x.o1 with
    | true => exact ⟨rfl, h⟩
    | false =>
      rw [if_pos (show ((!false) && !false) = true from rfl), if_neg (show ¬ (false || false) = true by simp)]
      obtain ⟨a, b, c⟩ := catchTo_o G.f x 0 x.a.length
      have h1 := h.catchTo (G := G) (i := 0) (by omega) ho0 ho1 x.a.length (Nat.le_refl _)
      have h2 : Sees (s.caught G x.a.length) (x.caught G.f) (0 + x.a.length + x.a.length) := h1.catchTo (i := 1) (by omega) (a.trans ho0) (b.trans ho1) x.a.length (by rw [c]; exact Nat.le_refl _)
      obtain ⟨d, e, g⟩ := catchTo_o G.f (x.catchTo G.f 0 x.a.length) 1 x.a.length
      have o0 : (x.caught G.f).o0 = false := (d.trans a).trans ho0
      have o1 : (x.caught G.f).o1 = false := (e.trans b).trans ho1
      obtain ⟨h3, h4⟩ := h2.fl (dry_in o0 o1)
      rw [o0, o1] at h3
      rw [if_pos (show (s.caught G x.a.length).flushed = (true, true) from h3)]
      refine ⟨?_, h4⟩
      rw [show (((s.caught G x.a.length).fl0 0).fl0 1).a = (x.caught G.f).a from h4.a, show (((s.caught G x.a.length).fl0 0).fl0 1).b = (x.caught G.f).b from h4.b]
theorem Dry.sync (h : Sees s x 0) : Dry (s.sync G x.a.length).2 (x.sync G.f).2 := (h.sync).2.dry
theorem Sees.out0 (h : Sees s x 0) (on : Bool) : Sees (⟨s.d.put 0 ((s.d.at 0).out on), s.a, s.b⟩ : Mr (one pw g1 g2)) (x.out 0 on) 0 := ⟨h.d0.out on, h.d1.put _ (by omega), h.a, h.b, h.n0, h.n1, h.nb⟩
theorem Sees.out1 (h : Sees s x 0) (on : Bool) : Sees (⟨s.d.put 1 ((s.d.at 1).out on), s.a, s.b⟩ : Mr (one pw g1 g2)) (x.out 1 on) 0 := ⟨h.d0.put _ (by omega), h.d1.out on, h.a, h.b, h.n0, h.n1, h.nb⟩
theorem Sees.rot0 (h : Sees s x 0) (n a : Int) (b : UInt8) : Sees (⟨s.d.rot 0 n a b, s.a, s.b⟩ : Mr (one pw g1 g2)) (x.rot 0 n a b) 0 := by
  have h1 := h.d0.rot n a b
  have h2 := h.d1.rot_other (i := 0) n a b (by omega)
  rw [h.n0] at h1
  rw [Md.rot]
  split
  · rename_i hc
    rw [if_pos hc] at h1
    exact ⟨h1, h2, h.a, h.b, by show (rotL _ _ _ _).length = _; rw [Mi.rotL_length]; exact h.n0, h.n1, h.nb⟩
  · rename_i hc
    rw [if_neg hc] at h1
    exact ⟨h1, h2, h.a, h.b, h.n0, h.n1, h.nb⟩
theorem Sees.rot1 (h : Sees s x 0) (n a : Int) (b : UInt8) : Sees (⟨s.d.rot 1 n a b, s.a, s.b⟩ : Mr (one pw g1 g2)) (x.rot 1 n a b) 0 := by
  have h1 := h.d1.rot n a b
  have h2 := h.d0.rot_other (i := 1) n a b (by omega)
  rw [h.n1] at h1
  rw [Md.rot]
  split
  · rename_i hc
    rw [if_pos hc] at h1
    exact ⟨h2, h1, h.a, h.b, h.n0, by show (rotL _ _ _ _).length = _; rw [Mi.rotL_length]; exact h.n1, h.nb⟩
  · rename_i hc
    rw [if_neg hc] at h1
    exact ⟨h2, h1, h.a, h.b, h.n0, h.n1, h.nb⟩
end
end Go.Proofs.Ytgfldfofiglefaa.Mu
/-
  Two devices, and a mirror of them, in the laws: what each call tells, and makes of what is told of them.
-/
namespace Go.Proofs.Ytgfldfofiglefaa.Mi
open Go.RowKit Kd
section
variable {p1 g1 p2 g2 g : Nat} {G : Gd} {w0 w w1 w' : World} {F F' : Nat → Prop} {m : Nat}
/-- Two devices, new behind w0. -/
structure LD (p1 g1 p2 g2 : Nat) (w0 w : World) (d : (Two p1 g1 p2 g2).L.St) (F : Nat → Prop) (L0 L1 : List (List UInt8)) (o0 o1 : Bool) (m : Nat) : Prop where
  live : LiveA (Two p1 g1 p2 g2).L w0 w d F
  d0 : See d.1 L0 o0 m
  d1 : See d.2 L1 o1 m
/-- A mirror of them. -/
structure LM (p1 g1 p2 g2 : Nat) (G : Gd) (g : Nat) (w0 w : World) (s : Mr (Two p1 g1 p2 g2)) (F : Nat → Prop) (x : Md) (m : Nat) : Prop where
  live : LiveA (ML (Two p1 g1 p2 g2) G g) w0 w s F
  sees : Sees s x m
  dry : Dry s x
/-- It returns v; the mirror is x now. -/
def RetM (v : Value) (p1 g1 p2 g2 : Nat) (G : Gd) (g : Nat) (w0 : World) (x : Md) (m : Nat) (F : Nat → Prop) (w : World) (e : Ending) (w' : World) : Prop :=
  e = .returned v ∧ ∃ (s : Mr (Two p1 g1 p2 g2)) (F' : Nat → Prop), LM p1 g1 p2 g2 G g w0 w' s F' x m ∧ Mv (ML (Two p1 g1 p2 g2) G g) w F w' s F'
variable {s s' : Mr (Two p1 g1 p2 g2)} {x x' : Md}
theorem LM.ret (h : LM p1 g1 p2 g2 G g w0 w s F x m) {v : Value} {e : Ending} {m' : Nat} (hr : RetA (ML (Two p1 g1 p2 g2) G g) v s' F w e w') (hs : Sees s' x' m') (hd : Dry s' x') : RetM v p1 g1 p2 g2 G g w0 x' m' F w e w' := by
  obtain ⟨rfl, F', hm⟩ := hr
  exact ⟨rfl, s', F', ⟨h.live.step hm, hs, hd⟩, hm⟩
theorem LM.below (h : LM p1 g1 p2 g2 G g w0 w s F x m) (hb : Below w.heap.size w w') : LM p1 g1 p2 g2 G g w0 w' s F x m := ⟨h.live.below hb, h.sees, h.dry⟩
theorem LM.more (h : LM p1 g1 p2 g2 G g w0 w s F x m) {m' : Nat} (hm : m ≤ m') : LM p1 g1 p2 g2 G g w0 w s F x m' := ⟨h.live, h.sees.more hm, h.dry⟩
theorem lm_write (h : LM p1 g1 p2 g2 G g w0 w s F x m) (n : Int) (y : List UInt8) (hy : y.length = 128) (hm : m < 900000) :
    Calls Try.prog 41 #[.pointer (some ⟨g, 0, none⟩), .int .i64 n, .agg (bva y)] w (RetM (.int .i64 (x.write n y).1) p1 g1 p2 g2 G g w0 (x.write n y).2 (m + 2) F w) := by
  obtain ⟨h1, h2⟩ := h.sees.write n y
  have hc := mwrite_any h.live.at_ h.sees.ok n y hy (Nat.lt_of_le_of_lt h.sees.most hm)
  rw [h1] at hc
  exact hc.mono fun _ _ hr => h.ret hr h2 (h.dry.write h.sees n y)
theorem lm_choose (h : LM p1 g1 p2 g2 G g w0 w s F x m) (n : Int) (y : List UInt8) (hy : y.length = 128) (hm : m < 900000) :
    Calls Try.prog 82 #[.pointer (some ⟨g, 0, none⟩), .int .i64 n, .agg (bva y)] w (RetM (.int .i64 (x.write n y).1) p1 g1 p2 g2 G g w0 (x.write n y).2 (m + 2) F w) := by
  obtain ⟨h1, h2⟩ := h.sees.choose n y
  have hc := mchoose_any h.live.at_ h.sees.ok n y hy (Nat.lt_of_le_of_lt h.sees.most hm)
  rw [h1] at hc
  exact hc.mono fun _ _ hr => h.ret hr h2 (h.dry.choose h.sees n y)
theorem lm_flush (h : LM p1 g1 p2 g2 G g w0 w s F x m) :
    Calls Try.prog 42 #[.pointer (some ⟨g, 0, none⟩)] w (RetM (.int .i64 (if x.o0 && x.o1 then 13 else 0)) p1 g1 p2 g2 G g w0 x 0 F w) := by
  obtain ⟨h1, h2⟩ := h.sees.flush h.dry
  have hc := mflushm_any h.live.at_
  rw [h1] at hc
  exact hc.mono fun _ _ hr => h.ret hr h2 h2.dry
theorem lm_read (h : LM p1 g1 p2 g2 G g w0 w s F x m) (n : Int) :
    Calls Try.prog 35 #[.pointer (some ⟨g, 0, none⟩), .int .i64 n] w (RetM (.tuple #[.agg (bva (x.read G.f n).1), .int .i64 (x.read G.f n).2]) p1 g1 p2 g2 G g w0 x m F w) := by
  have hc := mread_any h.live.at_ (by rw [h.sees.ok.1, h.sees.ok.2]) n
  rw [h.sees.read n] at hc
  exact hc.mono fun _ _ hr => h.ret hr h.sees h.dry
theorem lm_heal (h : LM p1 g1 p2 g2 G g w0 w s F x m) (n : Int) (hm : m < 900000) :
    Calls Try.prog 34 #[.pointer (some ⟨g, 0, none⟩), .int .i64 n] w (RetM (tup2 (x.heal G.f n).1) p1 g1 p2 g2 G g w0 (x.heal G.f n).2 (m + 1) F w) := by
  obtain ⟨h1, h2⟩ := h.sees.heal (G := G) n
  have hc := heal_any h.live.at_ h.sees.ok n (Nat.lt_of_le_of_lt h.sees.most (by omega))
  rw [h1] at hc
  exact hc.mono fun _ _ hr => h.ret hr h2 (h.dry.heal h.sees n)
theorem lm_sync (h : LM p1 g1 p2 g2 G g w0 w s F x 0) (hk : x.a.length ≤ 5000) :
    Calls Try.prog 33 #[.pointer (some ⟨g, 0, none⟩)] w (RetM (.int .i64 (x.sync G.f).1) p1 g1 p2 g2 G g w0 (x.sync G.f).2 0 F w) := by
  obtain ⟨h1, h2⟩ := h.sees.sync (G := G)
  have hc := sync_any h.live.at_ h.sees.ok hk (Nat.lt_of_le_of_lt h.sees.most (by omega))
  rw [h1] at hc
  exact hc.mono fun _ _ hr => h.ret hr h2 h2.dry
theorem lm_stale (h : LM p1 g1 p2 g2 G g w0 w s F x m) : Calls Try.prog 84 #[.pointer (some ⟨g, 0, none⟩)] w (RetB (.tuple #[.int .i64 (cnt x.a), .int .i64 (cnt x.b)]) w) := by
  have hc := stale_any h.live.at_
  rwa [h.sees.a, h.sees.b] at hc
theorem lm_both (h : LM p1 g1 p2 g2 G g w0 w s F x m) (n : Int) : Calls Try.prog 36 #[.pointer (some ⟨g, 0, none⟩), .int .i64 n] w (RetSec (x.both G.f n) w) := by
  have hc := both_any h.live.at_ n
  rwa [h.sees.both n] at hc
theorem lm_len (h : LM p1 g1 p2 g2 G g w0 w s F x m) : Calls Try.prog 31 #[.pointer (some ⟨g, 0, none⟩)] w (RetB (.int .i64 x.a.length) w) := by
  have hc := mlen_any h.live.at_
  rwa [h.sees.a] at hc
/-! ### The devices beneath a mirror -/
theorem ml_fst (h : (ML (Two p1 g1 p2 g2) G g).At w s F) : ∃ F1, Kd.Sys w p1 [g1] s.d.1 F1 ∧ s.d.1.ds.length = 1 ∧ ∀ {v : Value} {S : Sy} {e w'}, S.ds.length = 1 → RetS v p1 [g1] S F1 w e w' → RetA (ML (Two p1 g1 p2 g2) G g) v ⟨(S, s.d.2), s.a, s.b⟩ F w e w' := by
  obtain ⟨F0, hd, hl⟩ := ml_dev h
  obtain ⟨F1, h1, hl1⟩ := pair_fst hd
  exact ⟨F1, h1.1, h1.2, fun hS hr => hl (hl1 (RetS.reta hS hr))⟩
theorem ml_snd (h : (ML (Two p1 g1 p2 g2) G g).At w s F) : ∃ F2, Kd.Sys w p2 [g2] s.d.2 F2 ∧ s.d.2.ds.length = 1 ∧ ∀ {v : Value} {S : Sy} {e w'}, S.ds.length = 1 → RetS v p2 [g2] S F2 w e w' → RetA (ML (Two p1 g1 p2 g2) G g) v ⟨(s.d.1, S), s.a, s.b⟩ F w e w' := by
  obtain ⟨F0, hd, hl⟩ := ml_dev h
  obtain ⟨F1, h1, hl1⟩ := pair_snd hd
  exact ⟨F1, h1.1, h1.2, fun hS hr => hl (hl1 (RetS.reta hS hr))⟩
theorem lm_out0 (h : LM p1 g1 p2 g2 G g w0 w s F x 0) (on : Bool) : Calls Try.prog 27 #[.pointer (some ⟨g1, 0, none⟩), .bool on] w (RetM (.tuple #[]) p1 g1 p2 g2 G g w0 (x.out 0 on) 0 F w) := by
  obtain ⟨F1, h1, h2, hl⟩ := ml_fst h.live.at_
  have hs := h.sees.out0 on
  exact (out_sys h1 0 (by rw [h2]; omega) on).mono fun _ _ hr => h.ret (hl ((len_put _).trans h2) hr) hs hs.dry
theorem lm_out1 (h : LM p1 g1 p2 g2 G g w0 w s F x 0) (on : Bool) : Calls Try.prog 27 #[.pointer (some ⟨g2, 0, none⟩), .bool on] w (RetM (.tuple #[]) p1 g1 p2 g2 G g w0 (x.out 1 on) 0 F w) := by
  obtain ⟨F1, h1, h2, hl⟩ := ml_snd h.live.at_
  have hs := h.sees.out1 on
  exact (out_sys h1 0 (by rw [h2]; omega) on).mono fun _ _ hr => h.ret (hl ((len_put _).trans h2) hr) hs hs.dry
theorem rot_ds {S : Sy} (n a : Int) (b : UInt8) : (S.rot 0 n a b).ds.length = S.ds.length := by rw [Sy.rot]; split; exact len_put _; rfl
theorem lm_rot0 (h : LM p1 g1 p2 g2 G g w0 w s F x 0) (n a : Int) (b : UInt8) : Calls Try.prog 57 #[.pointer (some ⟨g1, 0, none⟩), .int .i64 n, .int .i64 a, .int .u8 (b.toNat : Int)] w (RetM (.bool (hasByte x.a.length n a)) p1 g1 p2 g2 G g w0 (x.rot 0 n a b) 0 F w) := by
  obtain ⟨F1, h1, h2, hl⟩ := ml_fst h.live.at_
  have hs := h.sees.rot0 n a b
  have hc := rot_sys h1 0 (by rw [h2]; omega) n a b
  rw [h.sees.d0.len, h.sees.n0] at hc
  exact hc.mono fun _ _ hr => h.ret (hl ((rot_ds n a b).trans h2) hr) hs hs.dry
theorem lm_rot1 (h : LM p1 g1 p2 g2 G g w0 w s F x 0) (n a : Int) (b : UInt8) : Calls Try.prog 57 #[.pointer (some ⟨g2, 0, none⟩), .int .i64 n, .int .i64 a, .int .u8 (b.toNat : Int)] w (RetM (.bool (hasByte x.a.length n a)) p1 g1 p2 g2 G g w0 (x.rot 1 n a b) 0 F w) := by
  obtain ⟨F1, h1, h2, hl⟩ := ml_snd h.live.at_
  have hs := h.sees.rot1 n a b
  have hc := rot_sys h1 0 (by rw [h2]; omega) n a b
  rw [h.sees.d1.len, h.sees.n1] at hc
  exact hc.mono fun _ _ hr => h.ret (hl ((rot_ds n a b).trans h2) hr) hs hs.dry
/-! ### Two devices ahead of a mirror -/
theorem LD.below {d : (Two p1 g1 p2 g2).L.St} {L0 L1 : List (List UInt8)} {o0 o1 : Bool} (h : LD p1 g1 p2 g2 w0 w d F L0 L1 o0 o1 m) (hb : Below w.heap.size w w') : LD p1 g1 p2 g2 w0 w' d F L0 L1 o0 o1 m := ⟨h.live.below hb, h.d0, h.d1⟩
theorem ld_new {S T : Sy} {F1 F2 : Nat → Prop} {L0 L1 : List (List UInt8)} {o0 o1 : Bool} (h1 : Live w0 w1 p1 [g1] S F1) (h2 : Live w1 w p2 [g2] T F2) (s1 : See S L0 o0 m) (s2 : See T L1 o1 m) :
    LD p1 g1 p2 g2 w0 w (S, T) (fun q => F1 q ∨ F2 q) L0 L1 o0 o1 m := by
  have hl1 := h1.lt
  refine ⟨⟨⟨F1, F2, ⟨(h1.below h2.bel).sys, s1.ds⟩, ⟨h2.sys, s2.ds⟩, fun q a b => by have := hl1 q a; have := h2.new q b; omega, fun q a => .inl a, fun q a => .inr a, ?_⟩, ?_, h1.bel.trans (h2.bel.mono h1.bel.size)⟩, s1, s2⟩
  · rintro q (hq | hq)
    · exact Nat.lt_of_lt_of_le (hl1 q hq) h2.bel.size
    · exact h2.lt q hq
  · rintro q (hq | hq)
    · exact h1.new q hq
    · exact Nat.le_trans h1.bel.size (h2.new q hq)
theorem lm_new (hR : ∀ A n c B m e, G.R A n c B m e) {d : (Two p1 g1 p2 g2).L.St} {L0 L1 : List (List UInt8)} {o0 o1 : Bool} {n : Nat} (h : LD p1 g1 p2 g2 w0 w d F L0 L1 o0 o1 0) (e0 : L0.length = n) (e1 : L1.length = n) (hl : G.l = [] := by rfl) :
    Calls Try.prog 28 #[.pointer (some ⟨g1, 0, none⟩), .pointer (some ⟨g2, 0, none⟩), G.v] w (fun e w' => ∃ g s F', e = .returned (.pointer (some ⟨g, 0, none⟩)) ∧ LM p1 g1 p2 g2 G g w0 w' s F' ⟨L0, L1, o0, o1, List.replicate n o0, List.replicate n o1⟩ 0 ∧ (∀ q, F' q → F q ∨ w.heap.size ≤ q) ∧ But F w w') := by
  refine (new_any (C := Two p1 g1 p2 g2) hR h.live.at_ hl).mono ?_
  rintro e w' ⟨g, F', rfl, h1, h2, h3⟩
  have hs : Sees (newM (Two p1 g1 p2 g2) d) ⟨L0, L1, o0, o1, List.replicate n o0, List.replicate n o1⟩ 0 := sees_new h.d0 h.d1 e0 e1
  exact ⟨g, _, F', rfl, ⟨⟨h1, fun q hq => (h2 q hq).elim (h.live.new q) (Nat.le_trans h.live.bel.size), h.live.bel.trans (h3.below (fun k hk hq => by have := h.live.new k hq; omega) h.live.bel.size)⟩, hs, hs.dry⟩, h2, h3⟩
end
end Go.Proofs.Ytgfldfofiglefaa.Mi
/-
  Two devices of one power, and a mirror of them, in the laws: what each call tells, and makes of what is told of them.
-/
namespace Go.Proofs.Ytgfldfofiglefaa.Mu
open Go.RowKit Kd Mi
section
variable {p g1 g2 g : Nat} {G : Gd} {w0 w w1 w' : World} {F F' : Nat → Prop} {m : Nat}
/-- Two devices, new behind w0. -/
structure LD (p g1 g2 : Nat) (w0 w : World) (d : Sy) (F : Nat → Prop) (L0 L1 : List (List UInt8)) (o0 o1 : Bool) (m : Nat) : Prop where
  live : LiveA (SysL p [g1, g2] 2) w0 w d F
  d0 : See d 0 L0 o0 m
  d1 : See d 1 L1 o1 m
/-- A mirror of them. -/
structure LM (p g1 g2 : Nat) (G : Gd) (g : Nat) (w0 w : World) (s : Mr (one p g1 g2)) (F : Nat → Prop) (x : Md) (m : Nat) : Prop where
  live : LiveA (ML (one p g1 g2) G g) w0 w s F
  sees : Sees s x m
  dry : Dry s x
/-- It returns v; the mirror is x now. -/
def RetM (v : Value) (p g1 g2 : Nat) (G : Gd) (g : Nat) (w0 : World) (x : Md) (m : Nat) (F : Nat → Prop) (w : World) (e : Ending) (w' : World) : Prop :=
  e = .returned v ∧ ∃ (s : Mr (one p g1 g2)) (F' : Nat → Prop), LM p g1 g2 G g w0 w' s F' x m ∧ Mv (ML (one p g1 g2) G g) w F w' s F'
variable {s s' : Mr (one p g1 g2)} {x x' : Md}
theorem LM.ret (h : LM p g1 g2 G g w0 w s F x m) {v : Value} {e : Ending} {m' : Nat} (hr : RetA (ML (one p g1 g2) G g) v s' F w e w') (hs : Sees s' x' m') (hd : Dry s' x') : RetM v p g1 g2 G g w0 x' m' F w e w' := by
  obtain ⟨rfl, F', hm⟩ := hr
  exact ⟨rfl, s', F', ⟨h.live.step hm, hs, hd⟩, hm⟩
theorem LM.below (h : LM p g1 g2 G g w0 w s F x m) (hb : Below w.heap.size w w') : LM p g1 g2 G g w0 w' s F x m := ⟨h.live.below hb, h.sees, h.dry⟩
theorem LM.more (h : LM p g1 g2 G g w0 w s F x m) {m' : Nat} (hm : m ≤ m') : LM p g1 g2 G g w0 w s F x m' := ⟨h.live, h.sees.more hm, h.dry⟩
theorem lm_write (h : LM p g1 g2 G g w0 w s F x m) (n : Int) (y : List UInt8) (hy : y.length = 128) (hm : m < 900000) :
    Calls Try.prog 41 #[.pointer (some ⟨g, 0, none⟩), .int .i64 n, .agg (bva y)] w (RetM (.int .i64 (x.write n y).1) p g1 g2 G g w0 (x.write n y).2 (m + 2) F w) := by
  obtain ⟨h1, h2⟩ := h.sees.write n y
  have hc := mwrite_any h.live.at_ h.sees.ok n y hy (Nat.lt_of_le_of_lt h.sees.most hm)
  rw [h1] at hc
  exact hc.mono fun _ _ hr => h.ret hr h2 (h.dry.write h.sees n y)
theorem lm_flush (h : LM p g1 g2 G g w0 w s F x m) :
    Calls Try.prog 42 #[.pointer (some ⟨g, 0, none⟩)] w (RetM (.int .i64 (if x.o0 && x.o1 then 13 else 0)) p g1 g2 G g w0 x 0 F w) := by
  obtain ⟨h1, h2⟩ := h.sees.flush h.dry
  have hc := mflushm_any h.live.at_
  rw [h1] at hc
  exact hc.mono fun _ _ hr => h.ret hr h2 h2.dry
theorem lm_read (h : LM p g1 g2 G g w0 w s F x m) (n : Int) :
    Calls Try.prog 35 #[.pointer (some ⟨g, 0, none⟩), .int .i64 n] w (RetM (.tuple #[.agg (bva (x.read G.f n).1), .int .i64 (x.read G.f n).2]) p g1 g2 G g w0 x m F w) := by
  have hc := mread_any h.live.at_ (by rw [h.sees.ok.1, h.sees.ok.2]) n
  rw [h.sees.read n] at hc
  exact hc.mono fun _ _ hr => h.ret hr h.sees h.dry
theorem lm_heal (h : LM p g1 g2 G g w0 w s F x m) (n : Int) (hm : m < 900000) :
    Calls Try.prog 34 #[.pointer (some ⟨g, 0, none⟩), .int .i64 n] w (RetM (tup2 (x.heal G.f n).1) p g1 g2 G g w0 (x.heal G.f n).2 (m + 1) F w) := by
  obtain ⟨h1, h2⟩ := h.sees.heal (G := G) n
  have hc := heal_any h.live.at_ h.sees.ok n (Nat.lt_of_le_of_lt h.sees.most (by omega))
  rw [h1] at hc
  exact hc.mono fun _ _ hr => h.ret hr h2 (h.dry.heal h.sees n)
theorem lm_stale (h : LM p g1 g2 G g w0 w s F x m) : Calls Try.prog 84 #[.pointer (some ⟨g, 0, none⟩)] w (RetB (.tuple #[.int .i64 (cnt x.a), .int .i64 (cnt x.b)]) w) := by
  have hc := stale_any h.live.at_
  rwa [h.sees.a, h.sees.b] at hc
theorem lm_both (h : LM p g1 g2 G g w0 w s F x m) (n : Int) : Calls Try.prog 36 #[.pointer (some ⟨g, 0, none⟩), .int .i64 n] w (RetSec (x.both G.f n) w) := by
  have hc := both_any h.live.at_ n
  rwa [h.sees.both n] at hc
theorem lm_len (h : LM p g1 g2 G g w0 w s F x m) : Calls Try.prog 31 #[.pointer (some ⟨g, 0, none⟩)] w (RetB (.int .i64 x.a.length) w) := by
  have hc := mlen_any h.live.at_
  rwa [h.sees.a] at hc
/-! ### The devices beneath a mirror -/
theorem ml_sys (h : (ML (one p g1 g2) G g).At w s F) : ∃ F1, Kd.Sys w p [g1, g2] s.d F1 ∧ s.d.ds.length = 2 ∧ ∀ {v : Value} {S : Sy} {e w'}, S.ds.length = 2 → RetS v p [g1, g2] S F1 w e w' → RetA (ML (one p g1 g2) G g) v ⟨S, s.a, s.b⟩ F w e w' := by
  obtain ⟨F1, h1, hl⟩ := ml_dev h
  exact ⟨F1, h1.1, h1.2, fun hS hr => hl (RetS.reta hS hr)⟩
theorem lm_out0 (h : LM p g1 g2 G g w0 w s F x 0) (on : Bool) : Calls Try.prog 27 #[.pointer (some ⟨g1, 0, none⟩), .bool on] w (RetM (.tuple #[]) p g1 g2 G g w0 (x.out 0 on) 0 F w) := by
  obtain ⟨F1, h1, h2, hl⟩ := ml_sys h.live.at_
  have hs := h.sees.out0 on
  exact (out_sys h1 0 (by rw [h2]; omega) on).mono fun _ _ hr => h.ret (hl ((len_put _).trans h2) hr) hs hs.dry
theorem lm_out1 (h : LM p g1 g2 G g w0 w s F x 0) (on : Bool) : Calls Try.prog 27 #[.pointer (some ⟨g2, 0, none⟩), .bool on] w (RetM (.tuple #[]) p g1 g2 G g w0 (x.out 1 on) 0 F w) := by
  obtain ⟨F1, h1, h2, hl⟩ := ml_sys h.live.at_
  have hs := h.sees.out1 on
  exact (out_sys h1 1 (by rw [h2]; omega) on).mono fun _ _ hr => h.ret (hl ((len_put _).trans h2) hr) hs hs.dry
theorem rot_dsT {S : Sy} (i : Nat) (n a : Int) (b : UInt8) : (S.rot i n a b).ds.length = S.ds.length := by rw [Sy.rot]; split; exact len_put _; rfl
theorem lm_rot0 (h : LM p g1 g2 G g w0 w s F x 0) (n a : Int) (b : UInt8) : Calls Try.prog 57 #[.pointer (some ⟨g1, 0, none⟩), .int .i64 n, .int .i64 a, .int .u8 (b.toNat : Int)] w (RetM (.bool (hasByte x.a.length n a)) p g1 g2 G g w0 (x.rot 0 n a b) 0 F w) := by
  obtain ⟨F1, h1, h2, hl⟩ := ml_sys h.live.at_
  have hs := h.sees.rot0 n a b
  have hc := rot_sys h1 0 (by rw [h2]; omega) n a b
  rw [h.sees.d0.len, h.sees.n0] at hc
  exact hc.mono fun _ _ hr => h.ret (hl ((rot_dsT 0 n a b).trans h2) hr) hs hs.dry
theorem lm_rot1 (h : LM p g1 g2 G g w0 w s F x 0) (n a : Int) (b : UInt8) : Calls Try.prog 57 #[.pointer (some ⟨g2, 0, none⟩), .int .i64 n, .int .i64 a, .int .u8 (b.toNat : Int)] w (RetM (.bool (hasByte x.a.length n a)) p g1 g2 G g w0 (x.rot 1 n a b) 0 F w) := by
  obtain ⟨F1, h1, h2, hl⟩ := ml_sys h.live.at_
  have hs := h.sees.rot1 n a b
  have hc := rot_sys h1 1 (by rw [h2]; omega) n a b
  rw [h.sees.d1.len, h.sees.n1] at hc
  exact hc.mono fun _ _ hr => h.ret (hl ((rot_dsT 1 n a b).trans h2) hr) hs hs.dry
/-- A device beneath it is read. -/
theorem lm_dread0 (h : LM p g1 g2 G g w0 w s F x m) (n : Int) : Calls Try.prog 49 #[.pointer (some ⟨g1, 0, none⟩), .int .i64 n] w (RetB (.tuple #[.agg (bva (if x.o0 = false ∧ 0 ≤ n ∧ n < (x.a.length : Int) then x.l0.getD n.toNat zeroS else zeroS)), .int .i64 (if x.o0 then 13 else if n < 0 ∨ (x.a.length : Int) ≤ n then 2 else 0)]) w) := by
  obtain ⟨F1, h1, hl⟩ := ml_dev h.live.at_
  have hc := (one p g1 g2).crd (i := 0) h1 (by omega) n
  rw [h.sees.rd (i := 0) (by omega) n] at hc
  exact hc
theorem lm_dread1 (h : LM p g1 g2 G g w0 w s F x m) (n : Int) : Calls Try.prog 49 #[.pointer (some ⟨g2, 0, none⟩), .int .i64 n] w (RetB (.tuple #[.agg (bva (if x.o1 = false ∧ 0 ≤ n ∧ n < (x.a.length : Int) then x.l1.getD n.toNat zeroS else zeroS)), .int .i64 (if x.o1 then 13 else if n < 0 ∨ (x.a.length : Int) ≤ n then 2 else 0)]) w) := by
  obtain ⟨F1, h1, hl⟩ := ml_dev h.live.at_
  have hc := (one p g1 g2).crd (i := 1) h1 (by omega) n
  rw [h.sees.rd (i := 1) (by omega) n] at hc
  exact hc
/-! ### Two devices ahead of a mirror -/
variable {d : Sy} {L0 L1 : List (List UInt8)} {o0 o1 : Bool}
theorem LD.below (h : LD p g1 g2 w0 w d F L0 L1 o0 o1 m) (hb : Below w.heap.size w w') : LD p g1 g2 w0 w' d F L0 L1 o0 o1 m := ⟨h.live.below hb, h.d0, h.d1⟩
theorem ld_new {S : Sy} (h : Live w0 w p [g1, g2] S F) (s1 : See S 0 L0 o0 m) (s2 : See S 1 L1 o1 m) : LD p g1 g2 w0 w S F L0 L1 o0 o1 m :=
  ⟨⟨⟨h.sys, s1.ds⟩, h.new, h.bel⟩, s1, s2⟩
/-- It returns v; the devices have that now. -/
def RetD (v : Value) (p g1 g2 : Nat) (w0 : World) (L0 L1 : List (List UInt8)) (o0 o1 : Bool) (m : Nat) (F : Nat → Prop) (w : World) (e : Ending) (w' : World) : Prop :=
  e = .returned v ∧ ∃ (d : Sy) (F' : Nat → Prop), LD p g1 g2 w0 w' d F' L0 L1 o0 o1 m ∧ (∀ q, F' q → F q ∨ w.heap.size ≤ q) ∧ But F w w'
theorem LD.ret (h : LD p g1 g2 w0 w d F L0 L1 o0 o1 m) {v : Value} {S : Sy} {L0' L1' : List (List UInt8)} {o0' o1' : Bool} {m' : Nat} {e : Ending} (hr : RetS v p [g1, g2] S F w e w') (s1 : See S 0 L0' o0' m') (s2 : See S 1 L1' o1' m') : RetD v p g1 g2 w0 L0' L1' o0' o1' m' F w e w' := by
  obtain ⟨rfl, F', h1, h2, h3⟩ := hr
  exact ⟨rfl, S, F', ⟨h.live.step ⟨⟨h1, s1.ds⟩, h2, h3⟩, s1, s2⟩, h2, h3⟩
theorem ld_write0 (h : LD p g1 g2 w0 w d F L0 L1 false o1 m) (k : Nat) (hk : k < L0.length) (y : List UInt8) (hy : y.length = 128) (hm : m < 900000) :
    Calls Try.prog 58 #[.pointer (some ⟨g1, 0, none⟩), .int .i64 k, .agg (bva y)] w (RetD (.int .i64 0) p g1 g2 w0 (L0.set k y) L1 false o1 (m + 1) F w) := by
  obtain ⟨h1, h2, h3⟩ := h.d0.write_yes (x := y) rfl hk
  have hc := write_any h.live.at_.1 0 (by rw [h.d0.ds]; omega) (k : Int) y hy (by have := h.d0.few; omega)
  rw [h1] at hc
  exact hc.mono fun _ _ hr => h.ret hr h2 ((h3 (by omega) h.d1).more (Nat.le_succ _))
theorem ld_write1 (h : LD p g1 g2 w0 w d F L0 L1 o0 false m) (k : Nat) (hk : k < L1.length) (y : List UInt8) (hy : y.length = 128) (hm : m < 900000) :
    Calls Try.prog 58 #[.pointer (some ⟨g2, 0, none⟩), .int .i64 k, .agg (bva y)] w (RetD (.int .i64 0) p g1 g2 w0 L0 (L1.set k y) o0 false (m + 1) F w) := by
  obtain ⟨h1, h2, h3⟩ := h.d1.write_yes (x := y) rfl hk
  have hc := write_any h.live.at_.1 1 (by rw [h.d0.ds]; omega) (k : Int) y hy (by have := h.d1.few; omega)
  rw [h1] at hc
  exact hc.mono fun _ _ hr => h.ret hr ((h3 (by omega) h.d0).more (Nat.le_succ _)) h2
theorem ld_flush0 (h : LD p g1 g2 w0 w d F L0 L1 false o1 m) :
    Calls Try.prog 60 #[.pointer (some ⟨g1, 0, none⟩)] w (RetD (.int .i64 0) p g1 g2 w0 L0 L1 false o1 m F w) := by
  obtain ⟨h1, h2, h3⟩ := h.d0.flush_yes rfl
  have hc := flush_any h.live.at_.1 0 (by rw [h.d0.ds]; omega)
  rw [h1] at hc
  exact hc.mono fun _ _ hr => h.ret hr (h2.more (Nat.zero_le _)) (h3 (by omega) h.d1)
/-- The second one's flush, when nothing waits of the first. -/
theorem ld_flush1 (h : LD p g1 g2 w0 w d F L0 L1 o0 false m) (hw : See d 0 L0 o0 0) :
    Calls Try.prog 60 #[.pointer (some ⟨g2, 0, none⟩)] w (RetD (.int .i64 0) p g1 g2 w0 L0 L1 o0 false 0 F w) := by
  obtain ⟨h1, h2, h3⟩ := h.d1.flush_yes rfl
  have hc := flush_any h.live.at_.1 1 (by rw [h.d0.ds]; omega)
  rw [h1] at hc
  exact hc.mono fun _ _ hr => h.ret hr (h3 (by omega) hw) h2
theorem ld_flush0' (h : LD p g1 g2 w0 w d F L0 L1 false o1 m) :
    Calls Try.prog 60 #[.pointer (some ⟨g1, 0, none⟩)] w (fun e w' => e = .returned (.int .i64 0) ∧ ∃ (d : Sy) (F' : Nat → Prop), LD p g1 g2 w0 w' d F' L0 L1 false o1 m ∧ See d 0 L0 false 0 ∧ (∀ q, F' q → F q ∨ w.heap.size ≤ q) ∧ But F w w') := by
  obtain ⟨h1, h2, h3⟩ := h.d0.flush_yes rfl
  have hc := flush_any h.live.at_.1 0 (by rw [h.d0.ds]; omega)
  rw [h1] at hc
  exact hc.mono fun _ _ hr => by
    obtain ⟨h4, S, F', h5, h6, h7⟩ := h.ret (L0' := L0) (L1' := L1) (m' := m) hr (h2.more (Nat.zero_le _)) (h3 (by omega) h.d1)
    obtain ⟨_, F2, h8, h9, h10⟩ := hr
    exact ⟨h4, _, F2, ⟨h.live.step ⟨⟨h8, h2.ds⟩, h9, h10⟩, h2.more (Nat.zero_le _), h3 (by omega) h.d1⟩, h2, h9, h10⟩
theorem lm_new (hR : ∀ A n c B m e, G.R A n c B m e) {n : Nat} (h : LD p g1 g2 w0 w d F L0 L1 o0 o1 0) (e0 : L0.length = n) (e1 : L1.length = n) (hl : G.l = [] := by rfl) :
    Calls Try.prog 28 #[.pointer (some ⟨g1, 0, none⟩), .pointer (some ⟨g2, 0, none⟩), G.v] w (fun e w' => ∃ g s F', e = .returned (.pointer (some ⟨g, 0, none⟩)) ∧ LM p g1 g2 G g w0 w' s F' ⟨L0, L1, o0, o1, List.replicate n o0, List.replicate n o1⟩ 0 ∧ (∀ q, F' q → F q ∨ w.heap.size ≤ q) ∧ But F w w') := by
  refine (new_any (C := one p g1 g2) hR h.live.at_ hl).mono ?_
  rintro e w' ⟨g, F', rfl, h1, h2, h3⟩
  have hs : Sees (newM (one p g1 g2) d) ⟨L0, L1, o0, o1, List.replicate n o0, List.replicate n o1⟩ 0 := sees_new h.d0 h.d1 e0 e1
  exact ⟨g, _, F', rfl, ⟨⟨h1, fun q hq => (h2 q hq).elim (h.live.new q) (Nat.le_trans h.live.bel.size), h.live.bel.trans (h3.below (fun k hk hq => by have := h.live.new k hq; omega) h.live.bel.size)⟩, hs, hs.dry⟩, h2, h3⟩
end
end Go.Proofs.Ytgfldfofiglefaa.Mu
/-
  A walk through a mirror, as it lies; the contract of a report's count; New, Report.
-/
namespace Go.Proofs.Ytgfldfofiglefaa.Sc
open Go.RowKit Kd Mi
attribute [local go_sem ↓] Go.wp_at_zero Go.wp_at_succ
/-- A walk: its next place, and what the ones behind it counted as. -/
structure Wk where
  n : Nat
  r : Nat
  h : Nat
  l : Nat
def Wk.cells (x : Wk) (P : Option Addr) : Array Value := #[.pointer P, .int .i64 x.n, .int .i64 x.r, .int .i64 x.h, .int .i64 x.l]
def Wk.rep (x : Wk) : Array Value := #[.int .i64 x.r, .int .i64 x.h, .int .i64 x.l]
def Wk.add (x : Wk) (k : Int) : Wk := if k = 0 then { x with r := x.r + 1 } else if k = 1 then { x with h := x.h + 1 } else { x with l := x.l + 1 }
def Wk.zero : Wk := ⟨0, 0, 0, 0⟩
theorem but_cell {w : World} {q o : Nat} (v : Value) : But (fun y => y = q) w (w.setCell ⟨q, o, none⟩ v) := but_one v
theorem walk_set {w : World} {q : Nat} {cs cs' : Array Value} {t : TypeId} (h : Blk w q cs t) (j : Nat) (v : Value) (e : cs.setIfInBounds j v = cs') : Blk (w.setCell ⟨q, j, none⟩ v) q cs' t := by
  rw [← e]; exact heap_setCell_same _ _ _ _ _ _ h
theorem wk_info : (Try.prog.info? 84).map (·.size) = some 3 := by kernel_rfl
theorem pthree_info : (Try.prog.info? 184).map (·.size) = some 3 := by kernel_rfl
set_option maxRecDepth 100000 in
set_option maxHeartbeats 3200000 in
theorem scount_any {w : World} {q : Nat} {P : Option Addr} {x : Wk} (hb : Blk w q (x.cells P) 176) (hx : x.r < 1000000 ∧ x.h < 1000000 ∧ x.l < 1000000) (k : Int) (hk : k = 0 ∨ k = 1 ∨ k = 2) :
    Calls Try.prog 116 #[.pointer (some ⟨q, 2, none⟩), .int .i64 k] w (fun e w' => e = .returned (.tuple #[]) ∧ Blk w' q ((x.add k).cells P) 176 ∧ But (fun y => y = q) w w') := by
  obtain ⟨h1, h2, h3⟩ := hx
  have w1 : IntKind.i64.wrap ((x.r : Int) + 1) = ((x.r + 1 : Nat) : Int) := IntWalk.i64_in _ (by omega)
  have w2 : IntKind.i64.wrap ((x.h : Int) + 1) = ((x.h + 1 : Nat) : Int) := IntWalk.i64_in _ (by omega)
  have w3 : IntKind.i64.wrap ((x.l : Int) + 1) = ((x.l + 1 : Nat) : Int) := IntWalk.i64_in _ (by omega)
  go_enter Try.func116, Try.ntmps116
  go_upto_region 0 with fail
  refine wp_region_held_drew (S := fun _ => True) (by kernel_rfl) trivial (fun hh => ?_)
  have HH := Lib.hid hh
  clear hh
  refine wpAnyH_take (i := 0) (v := ?vA0) rfl (by kernel_rfl) (by kernel_rfl) (by kernel_rfl) (fun _ _ _ h => h) (Or.inl ⟨by rfl, fun w' _ => ?yA0⟩) HH.out ?_
  case yA0 => (go_simp; try with_reducible rfl)
  refine wpAnyH_take (i := 1) (v := ?vA1) rfl (by kernel_rfl) (by kernel_rfl) (by kernel_rfl) (fun _ _ _ h => h) (Or.inl ⟨by rfl, fun w' _ => ?yA1⟩) HH.out ?_
  case yA1 => (go_simp; try with_reducible rfl)
  try simp only [List.getElem_toArray, List.getElem_cons_succ, List.getElem_cons_zero, Act.put, List.setIfInBounds_toArray, List.set_cons_zero, List.set_cons_succ]
  refine wpAnyH_take (i := 2) (v := ?vA2) rfl (by kernel_rfl) (by kernel_rfl) (by kernel_rfl) (fun _ _ _ h => h) (Or.inl ⟨by rfl, fun w' _ => ?yA2⟩) HH.out ?_
  case yA2 => (go_simp; try with_reducible rfl)
  refine wpAnyH_take (i := 3) (v := ?vA3) rfl (by kernel_rfl) (by kernel_rfl) (by kernel_rfl) (fun _ _ _ h => h) (Or.inl ⟨by rfl, fun w' _ => ?yA3⟩) HH.out ?_
  case yA3 => (go_simp; try with_reducible rfl)
  refine wpAnyH_take (i := 4) (v := ?vA4) rfl (by kernel_rfl) (by kernel_rfl) (by kernel_rfl) (fun _ _ _ h => h) (Or.inl ⟨by rfl, fun w' _ => ?yA4⟩) HH.out ?_
  case yA4 => (go_simp; try with_reducible rfl)
  try simp only [List.getElem_toArray, List.getElem_cons_succ, List.getElem_cons_zero, Act.put, List.setIfInBounds_toArray, List.set_cons_zero, List.set_cons_succ]
  refine wpAnyH_take (i := 5) (v := ?vA5) rfl (by kernel_rfl) (by kernel_rfl) (by kernel_rfl) (fun _ _ _ h => h) (Or.inl ⟨by rfl, fun w' _ => ?yA5⟩) HH.out ?_
  case yA5 => (go_simp; try with_reducible rfl)
  refine wpAnyH_take (i := 6) (v := ?vA6) rfl (by kernel_rfl) (by kernel_rfl) (by kernel_rfl) (fun _ _ _ h => h) (Or.inl ⟨by rfl, fun w' _ => ?yA6⟩) HH.out ?_
  case yA6 => (go_simp; try with_reducible rfl)
  refine wpAnyH_take (i := 7) (v := ?vA7) rfl (by kernel_rfl) (by kernel_rfl) (by kernel_rfl) (fun _ _ _ h => h) (Or.inl ⟨by rfl, fun w' _ => ?yA7⟩) HH.out ?_
  case yA7 => (go_simp; try with_reducible rfl)
  try simp only [List.getElem_toArray, List.getElem_cons_succ, List.getElem_cons_zero, Act.put, List.setIfInBounds_toArray, List.set_cons_zero, List.set_cons_succ]
  refine wpAnyH_take (i := 8) (v := ?vA8) rfl (by kernel_rfl) (by kernel_rfl) (by kernel_rfl) (fun _ _ _ h => h) (Or.inl ⟨by rfl, fun w' _ => ?yA8⟩) HH.out ?_
  case yA8 => (go_simp; try with_reducible rfl)
  refine wpAnyH_take (i := 9) (v := .agg #[.pointer (some ⟨q, 2, none⟩), .pointer (some ⟨q, 3, none⟩), .pointer (some ⟨q, 4, none⟩)]) rfl (by kernel_rfl) (by kernel_rfl) (by kernel_rfl) (fun _ _ _ h => h) (Or.inl ⟨by rfl, fun w' hw' => ?yA9⟩) HH.out ?_
  case yA9 => (go_simp; try with_reducible rfl)
  try simp only [List.getElem_toArray, List.getElem_cons_succ, List.getElem_cons_zero, Act.put, List.setIfInBounds_toArray, List.set_cons_zero, List.set_cons_succ]
  refine wpAnyH_ready (rs := [10]) (by kernel_rfl) (by simp) (AllReadyH.cons rfl (fun K hK => ?_) AllReadyH.nil)
  go_simp
  refine hK.out _ _ trivial (fun hh => ?_)
  have HH' := Lib.hid hh
  clear hh hK K HH
  have HH := Lib.hid HH'.out
  clear HH'
  try simp only [List.getElem_toArray, List.getElem_cons_succ, List.getElem_cons_zero, Act.put, List.setIfInBounds_toArray, List.set_cons_zero, List.set_cons_succ]
  refine wpAnyH_ready (rs := [11]) (by kernel_rfl) (by simp) (AllReadyH.cons rfl (fun K hK => ?_) AllReadyH.nil)
  rw [if_pos (by rfl)]
  refine wp_store_row 184 (.tmp 4) (.tmp 14) rfl w.heap.size #[.pointer (some ⟨q, 2, none⟩), .pointer (some ⟨q, 3, none⟩), .pointer (some ⟨q, 4, none⟩)] rfl rfl 184 #[.pointer none, .pointer none, .pointer none] (heap_alloc_new _ _) pthree_info rfl (by simp [Value.oneCell']) ?_
  refine hK.out _ _ trivial (fun hh => ?_)
  have HH' := Lib.hid hh
  clear hh hK K HH
  have HH := Lib.hid HH'.out
  clear HH'
  refine wpAnyH_done (by kernel_rfl) ?_ _
  obtain ⟨wb, hwb⟩ : ∃ wb, wb = ((w.alloc (.cells #[.pointer none, .pointer none, .pointer none] 184)).drew).setRow w.heap.size #[.pointer (some ⟨q, 2, none⟩), .pointer (some ⟨q, 3, none⟩), .pointer (some ⟨q, 4, none⟩)] := ⟨_, rfl⟩
  have BB := Lib.hid (show Below w.heap.size w wb by rw [hwb]; exact below_setRow (((Below.refl _ w).alloc (Nat.le_refl _) _).drew) (Nat.le_refl _) _)
  have hbx : Blk wb w.heap.size #[.pointer (some ⟨q, 2, none⟩), .pointer (some ⟨q, 3, none⟩), .pointer (some ⟨q, 4, none⟩)] 184 := by rw [hwb]; exact setRow_heap _ _ _ _ _ _ (heap_alloc_new _ _)
  have hbw := hb.below BB.out
  have hq : w.heap.size ≠ q := by have := hb.lt; omega
  have d0 : wb.cell? ⟨w.heap.size, 0, none⟩ = some (.pointer (some ⟨q, 2, none⟩)) := hbx.cell 0
  have d1 : wb.cell? ⟨w.heap.size, 1, none⟩ = some (.pointer (some ⟨q, 3, none⟩)) := hbx.cell 1
  have d2 : wb.cell? ⟨w.heap.size, 2, none⟩ = some (.pointer (some ⟨q, 4, none⟩)) := hbx.cell 2
  have c2 : wb.cell? ⟨q, 2, none⟩ = some (.int .i64 x.r) := hbw.cell 2
  have c3 : wb.cell? ⟨q, 3, none⟩ = some (.int .i64 x.h) := hbw.cell 3
  have c4 : wb.cell? ⟨q, 4, none⟩ = some (.int .i64 x.l) := hbw.cell 4
  have f2 := hbw.free 2
  have f3 := hbw.free 3
  have f4 := hbw.free 4
  have HBW := Lib.hid hbw
  rw [← hwb]
  obtain ⟨bx, hbq⟩ : ∃ bx, bx = w.heap.size := ⟨_, rfl⟩
  try rw [← hbq] at d0 d1 d2 hbx hq
  rw [← hbq]
  clear hwb hbx hbw hb hbq
  rcases hk with rfl | rfl | rfl
  · go_wp2_with fail
    exact bodyPost_end (results_none Try.results116 _ _ _) rfl ⟨rfl, walk_set HBW.out 2 _ (by simp [Wk.cells, Wk.add]), (but_below BB.out).trans (but_one _)⟩
  · go_wp2_with fail
    exact bodyPost_end (results_none Try.results116 _ _ _) rfl ⟨rfl, walk_set HBW.out 3 _ (by simp [Wk.cells, Wk.add]), (but_below BB.out).trans (but_one _)⟩
  · go_wp2_with fail
    exact bodyPost_end (results_none Try.results116 _ _ _) rfl ⟨rfl, walk_set HBW.out 4 _ (by simp [Wk.cells, Wk.add]), (but_below BB.out).trans (but_one _)⟩
end Go.Proofs.Ytgfldfofiglefaa.Sc
/-
  The contracts of a walk's New, Report, Step.
-/
namespace Go.Proofs.Ytgfldfofiglefaa.Sc
open Go.RowKit Kd Mi
attribute [local go_sem ↓] Go.wp_at_zero Go.wp_at_succ
/-- A walk beside what it goes through. -/
def WL (L : Laid) (P : Option Addr) (q : Nat) : Laid where
  St := L.St × Wk
  At w s F := ∃ F1, L.At w s.1 F1 ∧ Blk w q (s.2.cells P) 176 ∧ ¬ F1 q ∧ (∀ y, F1 y → F y) ∧ F q ∧ ∀ y, F y → y < w.heap.size
  but := fun ⟨F1, h1, h2, h3, h4, h5, h6⟩ hb hd => ⟨F1, L.but h1 hb (fun y hy => hd y (h4 y hy)), h2.but hb (hd q h5), h3, h4, h5, fun y hy => Nat.lt_of_lt_of_le (h6 y hy) hb.size⟩
  lt := fun ⟨_, _, _, _, _, _, h6⟩ => h6
section
variable {L : Laid} {P : Option Addr} {q : Nat} {w w' : World} {s : L.St × Wk} {F : Nat → Prop}
theorem wl_in (h : (WL L P q).At w s F) : ∃ F1, L.At w s.1 F1 ∧ Blk w q (s.2.cells P) 176 ∧ ∀ {s2 : L.St} {w' F2}, Mv L w F1 w' s2 F2 → Mv (WL L P q) w F w' (s2, s.2) (fun y => F y ∨ F2 y) := by
  obtain ⟨F1, h1, h2, h3, h4, h5, h6⟩ := h
  refine ⟨F1, h1, h2, fun {s2 w' F2} hm => ⟨⟨F2, hm.at_, h2.but hm.but h3, fun hq => ?_, fun y hy => .inr hy, .inl h5, ?_⟩, ?_, hm.but.mono h4⟩⟩
  · rcases hm.new q hq with h7 | h7
    · exact h3 h7
    · have := h2.lt; omega
  · rintro y (hy | hy)
    · exact Nat.lt_of_lt_of_le (h6 y hy) hm.but.size
    · exact hm.lt y hy
  · rintro y (hy | hy)
    · exact .inl hy
    · exact (hm.new y hy).imp (h4 y) id
theorem wl_blk (h : (WL L P q).At w s F) : Blk w q (s.2.cells P) 176 := by obtain ⟨_, _, h2, _⟩ := h; exact h2
theorem wl_own (h : (WL L P q).At w s F) (hb : But (fun y => y = q) w w') {x : Wk} (hx : Blk w' q (x.cells P) 176) : Mv (WL L P q) w F w' (s.1, x) F := by
  obtain ⟨F1, h1, h2, h3, h4, h5, h6⟩ := h
  exact ⟨⟨F1, L.but h1 hb (fun y hy e => h3 (e ▸ hy)), hx, h3, h4, h5, fun y hy => Nat.lt_of_lt_of_le (h6 y hy) hb.size⟩, fun _ hy => .inl hy, hb.mono (fun y hy => hy ▸ h5)⟩
theorem wl_start (h : L.At w s.1 F) (hb : Below w.heap.size w w') (hx : Blk w' q (s.2.cells P) 176) (hq : w.heap.size ≤ q) : (WL L P q).At w' s (fun y => F y ∨ y = q) :=
  ⟨F, L.below h hb, hx, fun hf => (by have := L.lt h q hf; omega), fun y hy => .inl hy, .inr rfl, fun y hy => by
    rcases hy with hy | rfl
    · exact Nat.lt_of_lt_of_le (L.lt h y hy) hb.size
    · exact hx.lt⟩
end
/-! ### New -/
set_option maxRecDepth 100000 in
set_option maxHeartbeats 3200000 in
theorem snew_any (w : World) (P : Option Addr) : Calls Try.prog 96 #[.pointer P] w (fun e w' => ∃ q, e = .returned (.pointer (some ⟨q, 0, none⟩)) ∧ w.heap.size ≤ q ∧ Blk w' q (Wk.zero.cells P) 176 ∧ Below w.heap.size w w') := by
  go_enter Try.func96, Try.ntmps96
  go_wp2_with (first
    | (refine wpList_build rfl 176 #[(0, .tmp 3)] rfl (v := .agg (Wk.zero.cells P)) ?hbld ?_; case hbld => kernel_rfl))
  go_ret
  exact ⟨_, rfl, Nat.le_refl _, heap_alloc_new _ _, (Below.refl _ _).alloc (Nat.le_refl _) _⟩
/-! ### Report -/
set_option maxRecDepth 100000 in
set_option maxHeartbeats 3200000 in
theorem sreport_nil (w : World) : Calls Try.prog 98 #[.pointer none] w (RetB (.agg (Wk.zero.rep)) w) := by
  go_enter Try.func98, Try.ntmps98
  go_wp2_with (first
    | (refine wpList_build rfl 84 #[] rfl (v := .agg (Wk.zero.rep)) ?hbld ?_; case hbld => kernel_rfl)
    | (refine wpList_store_row rfl 84 (.tmp 2) (.tmp 5) rfl w.heap.size Wk.zero.rep rfl rfl 84 #[.int .i64 0, .int .i64 0, .int .i64 0] (heap_alloc_new _ _) wk_info rfl (by simp [Wk.rep, Value.oneCell']) ?_))
  exact bodyPost_ret (v := .agg Wk.zero.rep) (results_cell_row Try.results98 _ _ w.heap.size 84 Wk.zero.rep (0, 0) _ rfl (setRow_heap _ _ _ _ _ _ (heap_alloc_new _ _)) Try.underlying84 rfl wk_info) rfl ⟨rfl, below_setRow ((Below.refl _ _).alloc (Nat.le_refl _) _) (Nat.le_refl _) _⟩
set_option maxRecDepth 100000 in
set_option maxHeartbeats 3200000 in
theorem sreport_any {w : World} {q : Nat} {P : Option Addr} {x : Wk} (hb : Blk w q (x.cells P) 176) : Calls Try.prog 98 #[.pointer (some ⟨q, 0, none⟩)] w (RetB (.agg x.rep) w) := by
  obtain ⟨w1, hw1⟩ : ∃ w1, w1 = w.alloc (.cells #[.int .i64 0, .int .i64 0, .int .i64 0] 84) := ⟨_, rfl⟩
  have B1 := Lib.hid (show Below w.heap.size w w1 by rw [hw1]; exact (Below.refl _ _).alloc (Nat.le_refl _) _)
  have R1 := Lib.hid (show Blk w1 w.heap.size #[.int .i64 0, .int .i64 0, .int .i64 0] 84 by rw [hw1]; exact heap_alloc_new _ _)
  have X1 := Lib.hid (hb.below B1.out)
  have hld : ∀ j v, x.rep.toList[j]? = some v → w1.cell? ((⟨q, 2, none⟩ : Addr).add j) = some v := fun j v hv => by
    have h0 : w1.cell? ⟨q, 2 + j, none⟩ = (x.cells P)[2 + j]? := X1.out.cell (2 + j)
    rw [show ((⟨q, 2, none⟩ : Addr).add j) = ⟨q, 2 + j, none⟩ by unfold Addr.add; split <;> simp_all, h0]
    rcases j with _ | _ | _ | j
    · exact hv
    · exact hv
    · exact hv
    · simp [Wk.rep] at hv
  have HLD := Lib.hid hld
  clear hld hb
  go_enter Try.func98, Try.ntmps98
  go_upto_region 1 with fail
  rw [← hw1]
  clear hw1
  go_wp2_with (first
    | (refine wpList_load_at rfl 84 (.tmp 8) rfl ⟨q, 2, none⟩ (cs := x.rep.toList) rfl HLD.out Try.underlying84 rfl wk_info ?_)
    | (refine wpList_store_row rfl 84 (.tmp 2) (.tmp 9) rfl w.heap.size x.rep rfl rfl 84 #[.int .i64 0, .int .i64 0, .int .i64 0] R1.out wk_info rfl (by simp [Wk.rep, Value.oneCell']) ?_))
  exact bodyPost_ret (v := .agg x.rep) (results_cell_row Try.results98 _ _ w.heap.size 84 x.rep (0, 0) _ rfl (setRow_heap _ _ _ _ _ _ R1.out) Try.underlying84 rfl wk_info) rfl ⟨rfl, below_setRow B1.out (Nat.le_refl _) _⟩
/-! ### Step -/
set_option maxRecDepth 100000 in
set_option maxHeartbeats 3200000 in
theorem sstep_nil (w : World) : Calls Try.prog 97 #[.pointer none] w (RetB (.tuple #[.int .i64 0, .bool false]) w) := by
  go_enter Try.func97, Try.ntmps97
  go_upto_region 1 with fail
  refine wp_region_held_drew (S := fun _ => True) (by kernel_rfl) trivial (fun hh => ?_)
  have HH := Lib.hid hh
  clear hh
  refine wpAnyH_take (i := 0) (v := ?vN0) rfl (by kernel_rfl) (by kernel_rfl) (by kernel_rfl) (fun _ _ _ h => h) (Or.inl ⟨by rfl, fun w' _ => ?yN0⟩) HH.out ?_
  case yN0 => (go_simp; try with_reducible rfl)
  refine wpAnyH_take (i := 1) (v := ?vN1) rfl (by kernel_rfl) (by kernel_rfl) (by kernel_rfl) (fun _ _ _ h => h) (Or.inl ⟨by rfl, fun w' _ => ?yN1⟩) HH.out ?_
  case yN1 => (go_simp; try with_reducible rfl)
  try simp only [List.getElem_toArray, List.getElem_cons_succ, List.getElem_cons_zero, Act.put, List.setIfInBounds_toArray, List.set_cons_zero, List.set_cons_succ]
  refine wpAnyH_take (i := 2) (v := ?vN2) rfl (by kernel_rfl) (by kernel_rfl) (by kernel_rfl) (fun _ _ _ h => h) (Or.inl ⟨by rfl, fun w' _ => ?yN2⟩) HH.out ?_
  case yN2 => (go_simp; try with_reducible rfl)
  refine wpAnyH_take (i := 3) (v := undef) rfl (by kernel_rfl) (by kernel_rfl) (by kernel_rfl) (fun _ _ _ h => h) (Or.inr ⟨by rfl, rfl⟩) HH.out ?_
  refine wpAnyH_take (i := 4) (v := undef) rfl (by kernel_rfl) (by kernel_rfl) (by kernel_rfl) (fun _ _ _ h => h) (Or.inr ⟨by rfl, rfl⟩) HH.out ?_
  try simp only [List.getElem_toArray, List.getElem_cons_succ, List.getElem_cons_zero, Act.put, List.setIfInBounds_toArray, List.set_cons_zero, List.set_cons_succ]
  refine wpAnyH_take (i := 5) (v := undef) rfl (by kernel_rfl) (by kernel_rfl) (by kernel_rfl) (fun _ _ _ h => h) (Or.inr ⟨by rfl, rfl⟩) HH.out ?_
  refine wpAnyH_take (i := 6) (v := undef) rfl (by kernel_rfl) (by kernel_rfl) (by kernel_rfl) (fun _ _ _ h => h) (Or.inr ⟨by rfl, rfl⟩) HH.out ?_
  refine wpAnyH_take (i := 7) (v := undef) rfl (by kernel_rfl) (by kernel_rfl) (by kernel_rfl) (fun _ _ _ h => h) (Or.inr ⟨by rfl, rfl⟩) HH.out ?_
  try simp only [List.getElem_toArray, List.getElem_cons_succ, List.getElem_cons_zero, Act.put, List.setIfInBounds_toArray, List.set_cons_zero, List.set_cons_succ]
  refine wpAnyH_take (i := 8) (v := undef) rfl (by kernel_rfl) (by kernel_rfl) (by kernel_rfl) (fun _ _ _ h => h) (Or.inr ⟨by rfl, rfl⟩) HH.out ?_
  refine wpAnyH_take (i := 9) (v := undef) rfl (by kernel_rfl) (by kernel_rfl) (by kernel_rfl) (fun _ _ _ h => h) (Or.inr ⟨by rfl, rfl⟩) HH.out ?_
  refine wpAnyH_take (i := 10) (v := undef) rfl (by kernel_rfl) (by kernel_rfl) (by kernel_rfl) (fun _ _ _ h => h) (Or.inr ⟨by rfl, rfl⟩) HH.out ?_
  try simp only [List.getElem_toArray, List.getElem_cons_succ, List.getElem_cons_zero, Act.put, List.setIfInBounds_toArray, List.set_cons_zero, List.set_cons_succ]
  refine wpAnyH_take (i := 11) (v := undef) rfl (by kernel_rfl) (by kernel_rfl) (by kernel_rfl) (fun _ _ _ h => h) (Or.inr ⟨by rfl, rfl⟩) HH.out ?_
  refine wpAnyH_take (i := 12) (v := undef) rfl (by kernel_rfl) (by kernel_rfl) (by kernel_rfl) (fun _ _ _ h => h) (Or.inr ⟨by rfl, rfl⟩) HH.out ?_
  refine wpAnyH_take (i := 13) (v := ?vN13) rfl (by kernel_rfl) (by kernel_rfl) (by kernel_rfl) (fun _ _ _ h => h) (Or.inl ⟨by rfl, fun w' _ => ?yN13⟩) HH.out ?_
  case yN13 => (go_simp; try with_reducible rfl)
  try simp only [List.getElem_toArray, List.getElem_cons_succ, List.getElem_cons_zero, Act.put, List.setIfInBounds_toArray, List.set_cons_zero, List.set_cons_succ]
  refine wpAnyH_done (by kernel_rfl) ?_ _
  go_wp2_with fail
  exact bodyPost_ret (results_tmp2 Try.results97 _ _ _) rfl ⟨rfl, (Below.refl _ _).drew⟩
/-- All places were scrubbed. -/
theorem wk_cell0 {w : World} {q : Nat} {P : Option Addr} {x : Wk} (h : Blk w q (x.cells P) 176) : w.cell? ⟨q, 0, none⟩ = some (.pointer P) := h.cell 0
theorem wk_cell1 {w : World} {q : Nat} {P : Option Addr} {x : Wk} (h : Blk w q (x.cells P) 176) : w.cell? ⟨q, 1, none⟩ = some (.int .i64 x.n) := h.cell 1
set_option maxRecDepth 100000 in
set_option maxHeartbeats 3200000 in
theorem sstep_end {w : World} {q n : Nat} {P : Option Addr} {x : Wk} (hb : Blk w q (x.cells P) 176) (hl : ∀ w', Below w.heap.size w w' → Calls Try.prog 31 #[.pointer P] w' (RetB (.int .i64 n) w')) (hn : n ≤ x.n) : Calls Try.prog 97 #[.pointer (some ⟨q, 0, none⟩)] w (RetB (.tuple #[.int .i64 0, .bool false]) w) := by
  have HL := Lib.hid hl
  have n1 : ((x.n : Int) ≥ (n : Int)) := by omega
  have HB := Lib.hid hb
  clear hl hn hb
  go_enter Try.func97, Try.ntmps97
  go_upto_region 1 with fail
  refine wp_region_held_drew (S := fun w' => Blk w' q (x.cells P) 176) (by kernel_rfl) (HB.out.drewN 1) (fun hh => ?_)
  have HH := Lib.hid hh
  clear hh
  refine wpAnyH_take (i := 0) (v := ?vE0) rfl (by kernel_rfl) (by kernel_rfl) (by kernel_rfl) (fun _ _ _ h => h) (Or.inl ⟨by rfl, fun w' _ => ?yE0⟩) HH.out ?_
  case yE0 => (go_simp; try with_reducible rfl)
  refine wpAnyH_take (i := 1) (v := ?vE1) rfl (by kernel_rfl) (by kernel_rfl) (by kernel_rfl) (fun _ _ _ h => h) (Or.inl ⟨by rfl, fun w' _ => ?yE1⟩) HH.out ?_
  case yE1 => (go_simp; try with_reducible rfl)
  try simp only [List.getElem_toArray, List.getElem_cons_succ, List.getElem_cons_zero, Act.put, List.setIfInBounds_toArray, List.set_cons_zero, List.set_cons_succ]
  refine wpAnyH_take (i := 2) (v := ?vE2) rfl (by kernel_rfl) (by kernel_rfl) (by kernel_rfl) (fun _ _ _ h => h) (Or.inl ⟨by rfl, fun w' _ => ?yE2⟩) HH.out ?_
  case yE2 => (go_simp; try with_reducible rfl)
  try simp only [List.getElem_toArray, List.getElem_cons_succ, List.getElem_cons_zero, Act.put, List.setIfInBounds_toArray, List.set_cons_zero, List.set_cons_succ]
  refine wpAnyH_take (i := 3) (v := ?vE3) rfl (by kernel_rfl) (by kernel_rfl) (by kernel_rfl) (fun _ _ _ h => h) (Or.inl ⟨by rfl, fun w' _ => ?yE3⟩) HH.out ?_
  case yE3 => (go_simp; try with_reducible rfl)
  try simp only [List.getElem_toArray, List.getElem_cons_succ, List.getElem_cons_zero, Act.put, List.setIfInBounds_toArray, List.set_cons_zero, List.set_cons_succ]
  refine wpAnyH_take (i := 4) (v := ?vE4) rfl (by kernel_rfl) (by kernel_rfl) (by kernel_rfl) (fun _ _ _ h => h) (Or.inl ⟨by rfl, fun w' _ => ?yE4⟩) HH.out ?_
  case yE4 => (go_simp; try with_reducible rfl)
  try simp only [List.getElem_toArray, List.getElem_cons_succ, List.getElem_cons_zero, Act.put, List.setIfInBounds_toArray, List.set_cons_zero, List.set_cons_succ]
  refine wpAnyH_take (i := 5) (v := ?vE5) rfl (by kernel_rfl) (by kernel_rfl) (by kernel_rfl) (fun _ _ _ h => h) (Or.inl ⟨by rfl, fun w' _ => ?yE5⟩) HH.out ?_
  case yE5 => (go_simp; try with_reducible rfl)
  refine wpAnyH_take (i := 6) (v := .int .i64 x.n) rfl (by kernel_rfl) (by kernel_rfl) (by kernel_rfl) (fun _ _ _ h => h) (Or.inl ⟨by rfl, fun w' hw' => ?yE6⟩) HH.out ?_
  case yE6 => (have hc := wk_cell1 hw'; go_simp; try with_reducible rfl)
  try simp only [List.getElem_toArray, List.getElem_cons_succ, List.getElem_cons_zero, Act.put, List.setIfInBounds_toArray, List.set_cons_zero, List.set_cons_succ]
  refine wpAnyH_take (i := 7) (v := ?vE7) rfl (by kernel_rfl) (by kernel_rfl) (by kernel_rfl) (fun _ _ _ h => h) (Or.inl ⟨by rfl, fun w' _ => ?yE7⟩) HH.out ?_
  case yE7 => (go_simp; try with_reducible rfl)
  try simp only [List.getElem_toArray, List.getElem_cons_succ, List.getElem_cons_zero, Act.put, List.setIfInBounds_toArray, List.set_cons_zero, List.set_cons_succ]
  refine wpAnyH_take (i := 8) (v := ?vE8) rfl (by kernel_rfl) (by kernel_rfl) (by kernel_rfl) (fun _ _ _ h => h) (Or.inl ⟨by rfl, fun w' _ => ?yE8⟩) HH.out ?_
  case yE8 => (go_simp; try with_reducible rfl)
  try simp only [List.getElem_toArray, List.getElem_cons_succ, List.getElem_cons_zero, Act.put, List.setIfInBounds_toArray, List.set_cons_zero, List.set_cons_succ]
  refine wpAnyH_take (i := 9) (v := ?vE9) rfl (by kernel_rfl) (by kernel_rfl) (by kernel_rfl) (fun _ _ _ h => h) (Or.inl ⟨by rfl, fun w' _ => ?yE9⟩) HH.out ?_
  case yE9 => (go_simp; try with_reducible rfl)
  refine wpAnyH_take (i := 10) (v := .pointer P) rfl (by kernel_rfl) (by kernel_rfl) (by kernel_rfl) (fun _ _ _ h => h) (Or.inl ⟨by rfl, fun w' hw' => ?yE10⟩) HH.out ?_
  case yE10 => (have hc := wk_cell0 hw'; go_simp; try with_reducible rfl)
  try simp only [List.getElem_toArray, List.getElem_cons_succ, List.getElem_cons_zero, Act.put, List.setIfInBounds_toArray, List.set_cons_zero, List.set_cons_succ]
  refine wpAnyH_ready (rs := [11]) (by kernel_rfl) (by simp) (AllReadyH.cons rfl (fun K hK => ?_) AllReadyH.nil)
  go_simp
  refine (HL.out _ (Below.refl _ _).drew).mono ?_
  rintro e w2 ⟨rfl, bw⟩
  have B2 := Lib.hid (show Below w.heap.size w w2 from (Below.refl w.heap.size w).drew.trans bw)
  go_simp
  refine hK.out _ _ (HB.out.below B2.out) (fun hh => ?_)
  have HH' := Lib.hid hh
  clear hh hK K HH bw
  have HH := Lib.hid HH'.out
  clear HH'
  refine wpAnyH_take (i := 12) (v := .bool true) rfl (by kernel_rfl) (by kernel_rfl) (by kernel_rfl) (fun _ _ _ h => h) (Or.inl ⟨by rfl, fun w' hw' => ?yE12⟩) HH.out ?_
  case yE12 => (go_simp; try rfl)
  refine wpAnyH_take (i := 13) (v := ?vE13) rfl (by kernel_rfl) (by kernel_rfl) (by kernel_rfl) (fun _ _ _ h => h) (Or.inl ⟨by rfl, fun w' _ => ?yE13⟩) HH.out ?_
  case yE13 => (go_simp; try with_reducible rfl)
  try simp only [List.getElem_toArray, List.getElem_cons_succ, List.getElem_cons_zero, Act.put, List.setIfInBounds_toArray, List.set_cons_zero, List.set_cons_succ]
  refine wpAnyH_done (by kernel_rfl) ?_ _
  go_wp2_with fail
  exact bodyPost_ret (results_tmp2 Try.results97 _ _ _) rfl ⟨rfl, B2.out⟩
section
variable {C : Duo} {G : Gd} {g q : Nat} {w : World} {F : Nat → Prop}
theorem heal_kind (s : Mr C) (n : Int) : (s.heal G n).1.2 = 0 → (s.heal G n).1.1 = 0 ∨ (s.heal G n).1.1 = 1 ∨ (s.heal G n).1.1 = 2 := by
  have ht : ∀ i k x, (s.healTo i k x).1.2 = 0 → (s.healTo i k x).1.1 = 0 ∨ (s.healTo i k x).1.1 = 1 ∨ (s.healTo i k x).1.1 = 2 := fun i k x => by
    unfold Mr.healTo; dsimp only; split
    · exact fun _ => .inr (.inl rfl)
    · exact fun _ => .inl rfl
  unfold Mr.heal
  split
  · split
    · split
      · split
        · split
          · exact fun _ => .inl rfl
          · exact ht _ _ _
        · exact ht _ _ _
      · split
        · exact ht _ _ _
        · exact fun _ => .inr (.inr rfl)
    · exact fun h => by cases h
  · exact fun h => by cases h
theorem heal_okk {s : Mr C} {k : Nat} (h : s.ok k) (n : Int) : (s.heal G n).2.ok k := by
  unfold Mr.heal
  (repeat' split) <;> first | exact h | exact mend_ok h
theorem heal_most (s : Mr C) (n : Int) : C.most (s.heal G n).2.d ≤ C.most s.d + 1 := by
  unfold Mr.heal
  (repeat' split) <;> first | exact Nat.le_succ _ | exact mend_most (by omega)
/-- A step of a walk: what it counts. -/
def Wk.step (x : Wk) (r : Int × Int) : Wk := if r.2 = 0 then ({ x with n := x.n + 1 } : Wk).add r.1 else { x with n := x.n + 1 }
/-- What Step tells, and makes of both. -/
def stepN (G : Gd) (s : Mr C × Wk) : (Int × Bool) × (Mr C × Wk) :=
  if s.1.a.length ≤ s.2.n then ((0, false), s) else ((s.2.n, true), ((s.1.heal G s.2.n).2, s.2.step (s.1.heal G s.2.n).1))
def Wk.small (x : Wk) : Prop := x.n < 100000 ∧ x.r < 100000 ∧ x.h < 100000 ∧ x.l < 100000
def tupS (x : Int × Bool) : Value := .tuple #[.int .i64 x.1, .bool x.2]
set_option maxRecDepth 100000 in
set_option maxHeartbeats 6400000 in
theorem sstep_any {s : Mr C × Wk} (h : (WL (ML C G g) (some ⟨g, 0, none⟩) q).At w s F) {k : Nat} (hk : s.1.ok k) (hm : C.most s.1.d < 900000) (hx : s.2.small) :
    Calls Try.prog 97 #[.pointer (some ⟨q, 0, none⟩)] w (RetA (WL (ML C G g) (some ⟨g, 0, none⟩) q) (tupS (stepN G s).1) (stepN G s).2 F w) := by
  by_cases hn : s.1.a.length ≤ s.2.n
  · rw [stepN, if_pos hn]
    obtain ⟨F1, h1, h2, _⟩ := wl_in h
    exact (sstep_end h2 (fun w' hb => mlen_any ((ML C G g).below h1 hb)) hn).mono fun _ _ hr => RetB.reta h hr
  · obtain ⟨s, x⟩ := s
    obtain ⟨n, hnn⟩ : ∃ n, n = s.a.length := ⟨_, rfl⟩
    have n1 : ¬ ((x.n : Int) ≥ (n : Int)) := by have : ¬ s.a.length ≤ x.n := hn; omega
    have HL := Lib.hid (show ∀ w F, (WL (ML C G g) (some ⟨g, 0, none⟩) q).At w (s, x) F → Calls Try.prog 31 #[.pointer (some ⟨g, 0, none⟩)] w (RetB (.int .i64 n) w) from fun w F h => by
      obtain ⟨F1, h1, _⟩ := wl_in h
      rw [hnn]; exact mlen_any h1)
    obtain ⟨r, hr⟩ : ∃ r, r = (s.heal G x.n).1 := ⟨_, rfl⟩
    obtain ⟨s2, hs2⟩ : ∃ s2, s2 = (s.heal G x.n).2 := ⟨_, rfl⟩
    have HHE := Lib.hid (show ∀ w F y, (WL (ML C G g) (some ⟨g, 0, none⟩) q).At w (s, y) F → Calls Try.prog 34 #[.pointer (some ⟨g, 0, none⟩), .int .i64 x.n] w (RetA (WL (ML C G g) (some ⟨g, 0, none⟩) q) (tup2 r) (s2, y) F w) from fun w F y h => by
      obtain ⟨F1, h1, _, hl⟩ := wl_in h
      rw [hr, hs2]
      refine (heal_any h1 hk (x.n : Int) (Nat.lt_trans hm (by omega))).mono ?_
      rintro e w' ⟨rfl, F2, h3⟩
      exact ⟨rfl, _, hl h3⟩)
    have HK := Lib.hid (show r.2 = 0 → r.1 = 0 ∨ r.1 = 1 ∨ r.1 = 2 by rw [hr]; exact heal_kind s x.n)
    have HV := Lib.hid (show stepN G (s, x) = (((x.n : Int), true), (s2, x.step r)) by rw [stepN, if_neg hn, hr, hs2])
    rw [HV.out]
    suffices key : ∀ sv : (WL (ML C G g) (some ⟨g, 0, none⟩) q).St, sv = (s2, x.step r) → Calls Try.prog 97 #[.pointer (some ⟨q, 0, none⟩)] w (RetA (WL (ML C G g) (some ⟨g, 0, none⟩) q) (tupS ((x.n : Int), true)) sv F w) from key _ rfl
    intro sv hsv
    have HSV := Lib.hid hsv
    clear hsv
    have HX := Lib.hid hx
    have M0 := Lib.hid (Mv.start h)
    have w1 : IntKind.i64.wrap ((x.n : Int) + 1) = (x.n : Int) + 1 := IntWalk.i64_in _ (by have : x.n < 100000 := hx.1; omega)
    obtain ⟨ra, re⟩ := r
    have HHE := Lib.hid (show ∀ w F y, (WL (ML C G g) (some ⟨g, 0, none⟩) q).At w (s, y) F → Calls Try.prog 34 #[.pointer (some ⟨g, 0, none⟩), .int .i64 x.n] w (RetA (WL (ML C G g) (some ⟨g, 0, none⟩) q) (.tuple #[.int .i64 ra, .int .i64 re]) (s2, y) F w) from HHE.out)
    clear hr hs2 hnn hn h hx hk hm HV
    go_enter Try.func97, Try.ntmps97
    go_upto_region 1 with fail
    refine wp_region_held_drew (S := fun w' => Blk w' q (x.cells (some ⟨g, 0, none⟩)) 176) (by kernel_rfl) ((wl_blk M0.out.at_).drewN 1) (fun hh => ?_)
    have HH := Lib.hid hh
    clear hh
    refine wpAnyH_take (i := 0) (v := ?vF0) rfl (by kernel_rfl) (by kernel_rfl) (by kernel_rfl) (fun _ _ _ h => h) (Or.inl ⟨by rfl, fun w' _ => ?yF0⟩) HH.out ?_
    case yF0 => (go_simp; try with_reducible rfl)
    refine wpAnyH_take (i := 1) (v := ?vF1) rfl (by kernel_rfl) (by kernel_rfl) (by kernel_rfl) (fun _ _ _ h => h) (Or.inl ⟨by rfl, fun w' _ => ?yF1⟩) HH.out ?_
    case yF1 => (go_simp; try with_reducible rfl)
    try simp only [List.getElem_toArray, List.getElem_cons_succ, List.getElem_cons_zero, Act.put, List.setIfInBounds_toArray, List.set_cons_zero, List.set_cons_succ]
    refine wpAnyH_take (i := 2) (v := ?vF2) rfl (by kernel_rfl) (by kernel_rfl) (by kernel_rfl) (fun _ _ _ h => h) (Or.inl ⟨by rfl, fun w' _ => ?yF2⟩) HH.out ?_
    case yF2 => (go_simp; try with_reducible rfl)
    try simp only [List.getElem_toArray, List.getElem_cons_succ, List.getElem_cons_zero, Act.put, List.setIfInBounds_toArray, List.set_cons_zero, List.set_cons_succ]
    refine wpAnyH_take (i := 3) (v := ?vF3) rfl (by kernel_rfl) (by kernel_rfl) (by kernel_rfl) (fun _ _ _ h => h) (Or.inl ⟨by rfl, fun w' _ => ?yF3⟩) HH.out ?_
    case yF3 => (go_simp; try with_reducible rfl)
    try simp only [List.getElem_toArray, List.getElem_cons_succ, List.getElem_cons_zero, Act.put, List.setIfInBounds_toArray, List.set_cons_zero, List.set_cons_succ]
    refine wpAnyH_take (i := 4) (v := ?vF4) rfl (by kernel_rfl) (by kernel_rfl) (by kernel_rfl) (fun _ _ _ h => h) (Or.inl ⟨by rfl, fun w' _ => ?yF4⟩) HH.out ?_
    case yF4 => (go_simp; try with_reducible rfl)
    try simp only [List.getElem_toArray, List.getElem_cons_succ, List.getElem_cons_zero, Act.put, List.setIfInBounds_toArray, List.set_cons_zero, List.set_cons_succ]
    refine wpAnyH_take (i := 5) (v := ?vF5) rfl (by kernel_rfl) (by kernel_rfl) (by kernel_rfl) (fun _ _ _ h => h) (Or.inl ⟨by rfl, fun w' _ => ?yF5⟩) HH.out ?_
    case yF5 => (go_simp; try with_reducible rfl)
    refine wpAnyH_take (i := 6) (v := .int .i64 x.n) rfl (by kernel_rfl) (by kernel_rfl) (by kernel_rfl) (fun _ _ _ h => h) (Or.inl ⟨by rfl, fun w' hw' => ?yF6⟩) HH.out ?_
    case yF6 => (have hc := wk_cell1 hw'; go_simp; try with_reducible rfl)
    try simp only [List.getElem_toArray, List.getElem_cons_succ, List.getElem_cons_zero, Act.put, List.setIfInBounds_toArray, List.set_cons_zero, List.set_cons_succ]
    refine wpAnyH_take (i := 7) (v := ?vF7) rfl (by kernel_rfl) (by kernel_rfl) (by kernel_rfl) (fun _ _ _ h => h) (Or.inl ⟨by rfl, fun w' _ => ?yF7⟩) HH.out ?_
    case yF7 => (go_simp; try with_reducible rfl)
    try simp only [List.getElem_toArray, List.getElem_cons_succ, List.getElem_cons_zero, Act.put, List.setIfInBounds_toArray, List.set_cons_zero, List.set_cons_succ]
    refine wpAnyH_take (i := 8) (v := ?vF8) rfl (by kernel_rfl) (by kernel_rfl) (by kernel_rfl) (fun _ _ _ h => h) (Or.inl ⟨by rfl, fun w' _ => ?yF8⟩) HH.out ?_
    case yF8 => (go_simp; try with_reducible rfl)
    try simp only [List.getElem_toArray, List.getElem_cons_succ, List.getElem_cons_zero, Act.put, List.setIfInBounds_toArray, List.set_cons_zero, List.set_cons_succ]
    refine wpAnyH_take (i := 9) (v := ?vF9) rfl (by kernel_rfl) (by kernel_rfl) (by kernel_rfl) (fun _ _ _ h => h) (Or.inl ⟨by rfl, fun w' _ => ?yF9⟩) HH.out ?_
    case yF9 => (go_simp; try with_reducible rfl)
    refine wpAnyH_take (i := 10) (v := .pointer (some ⟨g, 0, none⟩)) rfl (by kernel_rfl) (by kernel_rfl) (by kernel_rfl) (fun _ _ _ h => h) (Or.inl ⟨by rfl, fun w' hw' => ?yF10⟩) HH.out ?_
    case yF10 => (have hc := wk_cell0 hw'; go_simp; try with_reducible rfl)
    try simp only [List.getElem_toArray, List.getElem_cons_succ, List.getElem_cons_zero, Act.put, List.setIfInBounds_toArray, List.set_cons_zero, List.set_cons_succ]
    refine wpAnyH_ready (rs := [11]) (by kernel_rfl) (by simp) (AllReadyH.cons rfl (fun K hK => ?_) AllReadyH.nil)
    go_simp
    refine (HL.out _ _ (M0.out.below (Below.refl _ _).drew).at_).mono ?_
    rintro e w2 ⟨rfl, bw⟩
    have M2 := Lib.hid ((M0.out.below (Below.refl w.heap.size w).drew).below bw)
    go_simp
    refine hK.out _ _ (wl_blk M2.out.at_) (fun hh => ?_)
    have HH' := Lib.hid hh
    clear hh hK K HH bw M0
    have HH := Lib.hid HH'.out
    clear HH'
    refine wpAnyH_take (i := 12) (v := .bool false) rfl (by kernel_rfl) (by kernel_rfl) (by kernel_rfl) (fun _ _ _ h => h) (Or.inl ⟨by rfl, fun w' hw' => ?yF12⟩) HH.out ?_
    case yF12 => (go_simp; try rfl)
    refine wpAnyH_take (i := 13) (v := ?vF13) rfl (by kernel_rfl) (by kernel_rfl) (by kernel_rfl) (fun _ _ _ h => h) (Or.inl ⟨by rfl, fun w' _ => ?yF13⟩) HH.out ?_
    case yF13 => (go_simp; try with_reducible rfl)
    try simp only [List.getElem_toArray, List.getElem_cons_succ, List.getElem_cons_zero, Act.put, List.setIfInBounds_toArray, List.set_cons_zero, List.set_cons_succ]
    refine wpAnyH_done (by kernel_rfl) ?_ _
    have hc0 := wk_cell0 (wl_blk M2.out.at_)
    have hc1 := wk_cell1 (wl_blk M2.out.at_)
    have hf1 := (wl_blk M2.out.at_).free 1
    go_upto_region 5 with fail
    obtain ⟨wn, hwn⟩ : ∃ wn, wn = w2.setCell ⟨q, 1, none⟩ (.int .i64 ((x.n : Int) + 1)) := ⟨_, rfl⟩
    have hbn : Blk wn q (({ x with n := x.n + 1 } : Wk).cells (some ⟨g, 0, none⟩)) 176 := by rw [hwn]; exact walk_set (wl_blk M2.out.at_) 1 _ (by simp [Wk.cells])
    have M3 := Lib.hid (M2.out.trans (wl_own M2.out.at_ (by rw [hwn]; exact but_one _) hbn))
    rw [← hwn]
    have hc0 := wk_cell0 hbn
    clear hwn hbn hc1 hf1 M2
    go_wp2_with fail
    refine (HHE.out _ _ _ M3.out.at_).mono ?_
    rintro e w5 ⟨rfl, F5, h5⟩
    have M5 := Lib.hid (M3.out.trans h5)
    clear h5 M3 hc0
    by_cases hre : re = 0
    · subst hre
      have HKK := HK.out rfl
      have HS := Lib.hid (show x.step (ra, 0) = ({ x with n := x.n + 1 } : Wk).add ra by rw [Wk.step, if_pos rfl])
      go_wp2_with fail
      refine (scount_any (wl_blk M5.out.at_) ⟨by have : x.r < 100000 := HX.out.2.1; show x.r < 1000000; omega, by have : x.h < 100000 := HX.out.2.2.1; show x.h < 1000000; omega, by have : x.l < 100000 := HX.out.2.2.2; show x.l < 1000000; omega⟩ ra HKK).mono ?_
      rintro e w6 ⟨rfl, hb6, ht6⟩
      have M6 := Lib.hid (M5.out.trans (wl_own M5.out.at_ ht6 hb6))
      clear hb6 ht6 M5
      go_wp2_with fail
      exact bodyPost_ret (results_tmp2 Try.results97 _ _ _) rfl ⟨rfl, _, by rw [HSV.out, HS.out]; exact M6.out⟩
    · have HS := Lib.hid (show x.step (ra, re) = ({ x with n := x.n + 1 } : Wk) by rw [Wk.step, if_neg hre])
      go_wp2_with fail
      exact bodyPost_ret (results_tmp2 Try.results97 _ _ _) rfl ⟨rfl, _, by rw [HSV.out, HS.out]; exact M5.out⟩
end
end Go.Proofs.Ytgfldfofiglefaa.Sc
/-
  The contract of All.
-/
namespace Go.Proofs.Ytgfldfofiglefaa.Sc
open Go.RowKit Kd Mi
attribute [local go_sem ↓] Go.wp_at_zero Go.wp_at_succ
section
variable {C : Duo} {G : Gd} {g q : Nat} {w : World} {F : Nat → Prop}
/-- k steps. -/
def runN (G : Gd) (s : Mr C × Wk) : Nat → Mr C × Wk
  | 0 => s
  | k + 1 => (stepN G (runN G s k)).2
theorem step_okk {s : Mr C × Wk} {n : Nat} (h : s.1.ok n) : (stepN G s).2.1.ok n := by
  unfold stepN; split
  · exact h
  · exact heal_okk h _
theorem run_okk {s : Mr C × Wk} {n : Nat} (h : s.1.ok n) : ∀ k, (runN G s k).1.ok n
  | 0 => h
  | k + 1 => step_okk (run_okk h k)
theorem step_most (s : Mr C × Wk) : C.most (stepN G s).2.1.d ≤ C.most s.1.d + 1 := by
  unfold stepN; split
  · exact Nat.le_succ _
  · exact heal_most _ _
theorem run_most (s : Mr C × Wk) : ∀ k, C.most (runN G s k).1.d ≤ C.most s.1.d + k
  | 0 => Nat.le_refl _
  | k + 1 => by have h1 := run_most s k; have h2 := step_most (G := G) (runN G s k); show C.most (stepN G (runN G s k)).2.1.d ≤ _; omega
theorem add_few (x : Wk) (r : Int) {k : Nat} (h : x.n ≤ k + 1 ∧ x.r ≤ k ∧ x.h ≤ k ∧ x.l ≤ k) : (x.add r).n ≤ k + 1 ∧ (x.add r).r ≤ k + 1 ∧ (x.add r).h ≤ k + 1 ∧ (x.add r).l ≤ k + 1 := by
  unfold Wk.add; split
  · exact ⟨h.1, by show x.r + 1 ≤ _; omega, by show x.h ≤ _; omega, by show x.l ≤ _; omega⟩
  · split
    · exact ⟨h.1, by show x.r ≤ _; omega, by show x.h + 1 ≤ _; omega, by show x.l ≤ _; omega⟩
    · exact ⟨h.1, by show x.r ≤ _; omega, by show x.h ≤ _; omega, by show x.l + 1 ≤ _; omega⟩
theorem step_few (s : Mr C × Wk) {k : Nat} (h : s.2.n ≤ k ∧ s.2.r ≤ k ∧ s.2.h ≤ k ∧ s.2.l ≤ k) : (stepN G s).2.2.n ≤ k + 1 ∧ (stepN G s).2.2.r ≤ k + 1 ∧ (stepN G s).2.2.h ≤ k + 1 ∧ (stepN G s).2.2.l ≤ k + 1 := by
  unfold stepN; split
  · exact ⟨by show s.2.n ≤ _; omega, by show s.2.r ≤ _; omega, by show s.2.h ≤ _; omega, by show s.2.l ≤ _; omega⟩
  · show (s.2.step _).n ≤ _ ∧ (s.2.step _).r ≤ _ ∧ (s.2.step _).h ≤ _ ∧ (s.2.step _).l ≤ _
    unfold Wk.step; split
    · exact add_few _ _ ⟨by show s.2.n + 1 ≤ _; omega, h.2⟩
    · exact ⟨by show s.2.n + 1 ≤ _; omega, by show s.2.r ≤ _; omega, by show s.2.h ≤ _; omega, by show s.2.l ≤ _; omega⟩
theorem run_few (s : Mr C) : ∀ k, (runN G (s, Wk.zero) k).2.n ≤ k ∧ (runN G (s, Wk.zero) k).2.r ≤ k ∧ (runN G (s, Wk.zero) k).2.h ≤ k ∧ (runN G (s, Wk.zero) k).2.l ≤ k
  | 0 => ⟨Nat.le_refl _, Nat.le_refl _, Nat.le_refl _, Nat.le_refl _⟩
  | k + 1 => step_few _ (run_few s k)
/-- What All makes of a mirror, and tells. -/
def allN (G : Gd) (s : Mr C) (n : Nat) : Mr C × Wk := runN G (s, Wk.zero) n
set_option maxRecDepth 100000 in
set_option maxHeartbeats 6400000 in
theorem sall_nil (w : World) : Calls Try.prog 46 #[.pointer none] w (RetB (.agg Wk.zero.rep) w) := by
  obtain ⟨w1, hw1⟩ : ∃ w1, w1 = w.alloc (.cells #[.int .i64 0, .int .i64 0, .int .i64 0] 84) := ⟨_, rfl⟩
  have B1 := Lib.hid (show Below w.heap.size w w1 by rw [hw1]; exact (Below.refl _ _).alloc (Nat.le_refl _) _)
  have R1 := Lib.hid (show Blk w1 w.heap.size #[.int .i64 0, .int .i64 0, .int .i64 0] 84 by rw [hw1]; exact heap_alloc_new _ _)
  go_enter Try.func46, Try.ntmps46
  go_upto_region 1 with fail
  rw [← hw1]
  clear hw1
  go_wp2_with fail
  refine (snew_any w1 none).mono ?_
  rintro e w2 ⟨q, rfl, hq, hx, bw⟩
  have B2 := Lib.hid (B1.out.trans (bw.mono B1.out.size))
  have R2 := Lib.hid (R1.out.below bw)
  have X2 := Lib.hid hx
  clear hq hx bw B1 R1
  go_wp2_with fail
  refine (mlen_nil w2).mono ?_
  rintro e w3 ⟨rfl, bw⟩
  have B3 := Lib.hid (B2.out.trans (bw.mono B2.out.size))
  have R3 := Lib.hid (R2.out.below bw)
  have X3 := Lib.hid (X2.out.below bw)
  clear bw B2 R2 X2
  go_wp2_with fail
  go_loopw [8] (fun i wr => i = .int .i64 0 ∧ wr = w3) (fun _ _ => 0)
  case atStart => exact ⟨rfl, rfl⟩
  case round =>
    obtain ⟨rfl, rfl⟩ := hrel
    go_wp2_with fail
    refine (sreport_any X3.out).mono ?_
    rintro e w4 ⟨rfl, bw⟩
    have B4 := Lib.hid (B3.out.trans (bw.mono B3.out.size))
    have R4 := Lib.hid (R3.out.below bw)
    clear bw B3 R3 X3
    go_wp2_with (first
      | (refine wpList_store_row rfl 84 (.tmp 2) (.tmp 14) rfl w.heap.size Wk.zero.rep rfl rfl 84 #[.int .i64 0, .int .i64 0, .int .i64 0] R4.out wk_info rfl (by simp [Wk.rep, Value.oneCell']) ?_))
    exact bodyPost_ret (v := .agg Wk.zero.rep) (results_cell_row Try.results46 _ _ w.heap.size 84 Wk.zero.rep (0, 0) _ rfl (setRow_heap _ _ _ _ _ _ R4.out) Try.underlying84 rfl wk_info) rfl ⟨rfl, below_setRow B4.out (Nat.le_refl _) _⟩
set_option maxRecDepth 100000 in
set_option maxHeartbeats 6400000 in
theorem sall_any {s : Mr C} (h : (ML C G g).At w s F) {n : Nat} (hk : s.ok n) (hn : n ≤ 5000) (hm : C.most s.d < 800000) :
    Calls Try.prog 46 #[.pointer (some ⟨g, 0, none⟩)] w (RetA (ML C G g) (.agg (allN G s n).2.rep) (allN G s n).1 F w) := by
  obtain ⟨w1, hw1⟩ : ∃ w1, w1 = w.alloc (.cells #[.int .i64 0, .int .i64 0, .int .i64 0] 84) := ⟨_, rfl⟩
  have M1 := Lib.hid (show Mv (ML C G g) w F w1 s F from (Mv.start h).below (by rw [hw1]; exact (Below.refl _ _).alloc (Nat.le_refl _) _))
  have R1 := Lib.hid (show Blk w1 w.heap.size #[.int .i64 0, .int .i64 0, .int .i64 0] 84 by rw [hw1]; exact heap_alloc_new _ _)
  have HN := Lib.hid hn
  have HM := Lib.hid hm
  have HLN := Lib.hid (show s.a.length = n from hk.1)
  have HOK := Lib.hid hk
  have HF := Lib.hid ((ML C G g).lt h)
  clear hn hm hk h
  go_enter Try.func46, Try.ntmps46
  go_upto_region 1 with fail
  rw [← hw1]
  clear hw1
  obtain ⟨b, hb⟩ : ∃ b, b = w.heap.size := ⟨_, rfl⟩
  have BX1 := Lib.hid (show Bx w w1 F b #[.int .i64 0, .int .i64 0, .int .i64 0] 84 from ⟨by rw [hb]; exact R1.out, by rw [hb]; exact Nat.le_refl _, fun hf => by have := HF.out b hf; omega⟩)
  rw [← hb]
  clear hb R1 HF
  go_wp2_with fail
  refine (snew_any w1 (some ⟨g, 0, none⟩)).mono ?_
  rintro e w2 ⟨q, rfl, hq, hx, bw⟩
  have HQ := Lib.hid (show w.heap.size ≤ q from Nat.le_trans M1.out.size hq)
  have HQB := Lib.hid (show b ≠ q by have := BX1.out.1.lt; omega)
  have X2 := Lib.hid hx
  have M2 := Lib.hid (M1.out.below bw)
  have BX2 := Lib.hid (BX1.out.below bw)
  have HQF := Lib.hid (show ¬ F q from fun hf => by have := M1.out.lt q hf; omega)
  clear hq hx bw M1 BX1
  go_wp2_with fail
  refine (mlen_any M2.out.at_).mono ?_
  rintro e w3 ⟨rfl, bw⟩
  rw [HLN.out]
  have X3 := Lib.hid (X2.out.below bw)
  have M3 := Lib.hid (M2.out.below bw)
  have BX3 := Lib.hid (BX2.out.below bw)
  clear bw X2 M2 BX2
  have W3 := Lib.hid (show (WL (ML C G g) (some ⟨g, 0, none⟩) q).At w3 (s, Wk.zero) (fun y => F y ∨ y = q) from ⟨F, M3.out.at_, X3.out, HQF.out, fun y hy => .inl hy, .inr rfl, fun y hy => by
    rcases hy with hy | rfl
    · exact M3.out.lt y hy
    · exact X3.out.lt⟩)
  go_wp2_with fail
  go_loopw [8] (fun i wr => ∃ (j : Nat) (F' : Nat → Prop), j ≤ n ∧ i = .int .i64 j ∧ Mv (WL (ML C G g) (some ⟨g, 0, none⟩) q) w3 (fun y => F y ∨ y = q) wr (runN G (s, Wk.zero) j) F' ∧ Bx w wr F' b #[.int .i64 0, .int .i64 0, .int .i64 0] 84) (fun i _ => n - (intOf i).toNat)
  case atStart => exact ⟨0, _, Nat.zero_le _, rfl, Mv.start W3.out, BX3.out.1, BX3.out.2.1, fun hf => hf.elim BX3.out.2.2 HQB.out⟩
  case round =>
    obtain ⟨j, F', hj, rfl, hmv, hbx⟩ := hrel
    have MJ := Lib.hid hmv
    have BJ := Lib.hid hbx
    have HJ := Lib.hid hj
    clear hmv hbx hj
    by_cases hlt : j < n
    · have HLT := Lib.hid hlt
      have j1 : (j : Int) < (n : Int) := by omega
      have wj : IntKind.i64.wrap ((j : Int) + 1) = ((j + 1 : Nat) : Int) := IntWalk.i64_in _ (by have := HN.out; omega)
      clear hlt
      go_wp2_with fail
      refine (sstep_any MJ.out.at_ (run_okk HOK.out j) (by have h1 := run_most (G := G) (s, Wk.zero) j; have h2 : C.most (s, Wk.zero).1.d < 800000 := HM.out; have := HN.out; have := HLT.out; omega) (by obtain ⟨h1, h2, h3, h4⟩ := run_few (G := G) s j; have := HN.out; have := HLT.out; exact ⟨by omega, by omega, by omega, by omega⟩)).mono ?_
      rintro e w5 ⟨rfl, F5, h5⟩
      have M5 := Lib.hid (MJ.out.trans h5)
      have B5 := Lib.hid (BJ.out.step h5)
      clear h5 MJ BJ
      go_wp2_with fail
      go_roundw
      case rel => exact ⟨j + 1, F5, HLT.out, by go_num, M5.out, B5.out⟩
      case measure => (have := HLT.out; simp [intOf]; omega)
    · obtain rfl : j = n := by have := HJ.out; omega
      have j1 : ¬ (j : Int) < (j : Int) := by omega
      clear hlt
      go_wp2_with fail
      have hbk := wl_blk MJ.out.at_
      refine (sreport_any hbk).mono ?_
      rintro e w5 ⟨rfl, bw⟩
      have M5 := Lib.hid (MJ.out.below bw)
      have B5 := Lib.hid (BJ.out.below bw)
      clear bw MJ BJ hbk
      obtain ⟨F1, h1, h4⟩ : ∃ F1, (ML C G g).At w5 (allN G s j).1 F1 ∧ ∀ y, F1 y → F' y := by obtain ⟨F1, h1, _, _, h4, _⟩ := M5.out.at_; exact ⟨F1, h1, h4⟩
      have H1 := Lib.hid h1
      have H4 := Lib.hid h4
      clear h1 h4
      obtain ⟨y, hy⟩ : ∃ y, y = (allN G s j).2 := ⟨_, rfl⟩
      rw [show (runN G (s, Wk.zero) j).2 = y from hy.symm]
      have HY := Lib.hid hy
      clear hy
      go_wp2_with (first
        | (refine wpList_store_row rfl 84 (.tmp 2) (.tmp 14) rfl b y.rep rfl rfl 84 #[.int .i64 0, .int .i64 0, .int .i64 0] B5.out.1 wk_info rfl (by simp [Wk.rep, Value.oneCell']) ?_))
      have hb : But (fun y => y = b) w5 (w5.setRow b y.rep) := (But.refl _).setRow (S := fun y => y = b) (.inl rfl) _
      refine bodyPost_ret (v := .agg y.rep) (results_cell_row Try.results46 _ _ b 84 y.rep (0, 0) _ rfl (setRow_heap _ _ _ _ _ _ B5.out.1) Try.underlying84 rfl wk_info) rfl ⟨by rw [HY.out], F1, (ML C G g).but H1.out hb (fun y hy e => B5.out.2.2 (e ▸ H4.out y hy)), fun y hy => ?_, ?_⟩
      · rcases M5.out.new y (H4.out y hy) with (h | h) | h
        · exact .inl h
        · exact .inr (by rw [h]; exact HQ.out)
        · exact .inr (Nat.le_trans M3.out.size h)
      · exact Mi.but_step (Mi.but_step M3.out.but M5.out.but (fun y hy => hy.imp id (fun h => by rw [h]; exact HQ.out))) hb (fun y hy => .inr (by rw [hy]; exact B5.out.2.1))
end
end Go.Proofs.Ytgfldfofiglefaa.Sc
/-
  Scrubbing, of a mirror as the document tells of it: what each place counts as, what both devices have then. No program.
-/
namespace Go.Proofs.Ytgfldfofiglefaa.Sc
open Kd Mi
def mdStep (f : Int → List UInt8 → Bool) (s : Md × Wk) : (Int × Bool) × (Md × Wk) :=
  if s.1.a.length ≤ s.2.n then ((0, false), s) else (((s.2.n : Int), true), ((s.1.heal f s.2.n).2, s.2.step (s.1.heal f s.2.n).1))
def mdRun (f : Int → List UInt8 → Bool) (s : Md × Wk) : Nat → Md × Wk
  | 0 => s
  | k + 1 => (mdStep f (mdRun f s k)).2
section
variable {pw g1 g2 : Nat} {s : Mr (Mu.one pw g1 g2)} {x : Md} {y : Wk} {m : Nat} {G : Gd}
theorem sees_step (h : Mu.Sees s x m) (hd : Mu.Dry s x) (y : Wk) : (stepN G (s, y)).1 = (mdStep G.f (x, y)).1 ∧ (stepN G (s, y)).2.2 = (mdStep G.f (x, y)).2.2 ∧ Mu.Sees (stepN G (s, y)).2.1 (mdStep G.f (x, y)).2.1 (m + 1) ∧ Mu.Dry (stepN G (s, y)).2.1 (mdStep G.f (x, y)).2.1 := by
  unfold stepN mdStep
  rw [show s.a = x.a from h.a]
  split
  · exact ⟨rfl, rfl, h.more (Nat.le_succ _), hd⟩
  · obtain ⟨h1, h2⟩ := h.heal (G := G) (y.n : Int)
    exact ⟨rfl, by show y.step _ = y.step _; rw [h1], h2, hd.heal h _⟩
theorem sees_run (h : Mu.Sees s x m) (hd : Mu.Dry s x) (y : Wk) : ∀ k, (runN G (s, y) k).2 = (mdRun G.f (x, y) k).2 ∧ Mu.Sees (runN G (s, y) k).1 (mdRun G.f (x, y) k).1 (m + k) ∧ Mu.Dry (runN G (s, y) k).1 (mdRun G.f (x, y) k).1
  | 0 => ⟨rfl, h, hd⟩
  | k + 1 => by
    obtain ⟨h1, h2, h3⟩ := sees_run h hd y k
    obtain ⟨h4, h5, h6, h7⟩ := sees_step (G := G) h2 h3 (runN G (s, y) k).2
    refine ⟨?_, ?_, ?_⟩
    · show (stepN G (runN G (s, y) k)).2.2 = (mdStep G.f (mdRun G.f (x, y) k)).2.2
      rw [show mdRun G.f (x, y) k = ((mdRun G.f (x, y) k).1, (runN G (s, y) k).2) by rw [h1]]
      exact h5
    · show Mu.Sees (stepN G (runN G (s, y) k)).2.1 (mdStep G.f (mdRun G.f (x, y) k)).2.1 _
      rw [show mdRun G.f (x, y) k = ((mdRun G.f (x, y) k).1, (runN G (s, y) k).2) by rw [h1]]
      exact h6
    · show Mu.Dry (stepN G (runN G (s, y) k)).2.1 (mdStep G.f (mdRun G.f (x, y) k)).2.1
      rw [show mdRun G.f (x, y) k = ((mdRun G.f (x, y) k).1, (runN G (s, y) k).2) by rw [h1]]
      exact h7
end
/-! ### Two devices that are there, nothing of which is stale -/
structure Fresh (x : Md) (n : Nat) : Prop where
  o0 : x.o0 = false
  o1 : x.o1 = false
  n0 : x.l0.length = n
  n1 : x.l1.length = n
  a : x.a = List.replicate n false
  b : x.b = List.replicate n false
variable {f : Int → List UInt8 → Bool} {x : Md} {n k : Nat}
/-- What a place counts as. -/
def ck (f : Int → List UInt8 → Bool) (k : Nat) (u v : List UInt8) : Int := if !(f k u) && !(f k v) then 2 else if f k u && (f k v && decide (u = v)) then 0 else 1
/-- What both have then. -/
def hl0 (f : Int → List UInt8 → Bool) (k : Nat) (u v : List UInt8) : List UInt8 := if f k u then u else if f k v then v else u
def hl1 (f : Int → List UInt8 → Bool) (k : Nat) (u v : List UInt8) : List UInt8 := if f k u then u else v
theorem rep_getD {n k : Nat} : (List.replicate n false).getD k false = false := by
  rw [List.getD_eq_getElem?_getD, List.getElem?_replicate]; split <;> rfl
theorem rep_set {n k : Nat} : (List.replicate n false).set k false = List.replicate n false := by simp
theorem Fresh.right (h : Fresh x n) (i : Nat) (k : Nat) : x.right f i k = f k ((x.l i).getD k zeroS) := by
  have h1 : (x.st i).getD k false = false := by
    unfold Md.st; split
    · rw [h.a]; exact rep_getD
    · rw [h.b]; exact rep_getD
  have h2 : x.o i = false := by unfold Md.o; split; exact h.o0; exact h.o1
  rw [Md.right, h1, h2]; rfl
theorem Fresh.mend (h : Fresh x n) (i k : Nat) (y : List UInt8) : Fresh (x.mend i k y) n ∧ x.mend i k y = x.setL i k y := by
  unfold Md.mend Md.put Md.setL
  split
  · rename_i hi
    subst hi
    refine ⟨⟨h.o0, h.o1, by simpa using h.n0, h.n1, by show x.a.set k false = _; rw [h.a, rep_set], h.b⟩, ?_⟩
    show ({ l0 := x.l0.set k y, l1 := x.l1, o0 := x.o0, o1 := x.o1, a := x.a.set k false, b := x.b } : Md) = _
    rw [h.a, rep_set]
  · rename_i hi
    refine ⟨⟨h.o0, h.o1, h.n0, by simpa using h.n1, h.a, by show x.b.set k false = _; rw [h.b, rep_set]⟩, ?_⟩
    show ({ l0 := x.l0, l1 := x.l1.set k y, o0 := x.o0, o1 := x.o1, a := x.a, b := x.b.set k false } : Md) = _
    rw [h.b, rep_set]
theorem Fresh.len (h : Fresh x n) : x.a.length = n := by rw [h.a, List.length_replicate]
theorem Fresh.has (h : Fresh x n) (hk : k < n) : x.has (k : Int) = true := by rw [Md.has, h.len]; simp; omega
theorem Fresh.heal (h : Fresh x n) (hk : k < n) : (x.heal f k).1 = (ck f k (x.l0.getD k zeroS) (x.l1.getD k zeroS), 0) ∧ Fresh (x.heal f k).2 n ∧
    (x.heal f k).2.l0 = x.l0.set k (hl0 f k (x.l0.getD k zeroS) (x.l1.getD k zeroS)) ∧ (x.heal f k).2.l1 = x.l1.set k (hl1 f k (x.l0.getD k zeroS) (x.l1.getD k zeroS)) := by
  have r0 : x.right f 0 k = f k (x.l0.getD k zeroS) := h.right 0 k
  have r1 : x.right f 1 k = f k (x.l1.getD k zeroS) := h.right 1 k
  rw [Md.heal, h.has hk, if_pos rfl, if_neg (by rw [h.o0, h.o1]; simp), Int.toNat_natCast, r0, r1]
  unfold ck hl0 hl1
  have e0 : x.l0.set k (x.l0.getD k zeroS) = x.l0 := list_set_self _ _ _
  have e1 : x.l1.set k (x.l1.getD k zeroS) = x.l1 := list_set_self _ _ _
  cases f0 : f k (x.l0.getD k zeroS) with
  | true =>
    simp only [if_true, Bool.not_true, Bool.false_and, Bool.false_eq_true, if_false, Bool.true_and]
    cases f1 : f k (x.l1.getD k zeroS) with
    | true =>
      simp only [Bool.true_and, decide_eq_true_eq]
      by_cases he : x.l0.getD k zeroS = x.l1.getD k zeroS
      · rw [if_pos he, if_pos he]
        exact ⟨rfl, h, e0.symm, by rw [he]; exact e1.symm⟩
      · rw [if_neg he, if_neg he]
        obtain ⟨h1, h2⟩ := h.mend 1 k (x.l0.getD k zeroS)
        exact ⟨rfl, h1, by rw [h2]; exact e0.symm, by rw [h2]; rfl⟩
    | false =>
      simp only [Bool.false_and, Bool.false_eq_true, if_false]
      obtain ⟨h1, h2⟩ := h.mend 1 k (x.l0.getD k zeroS)
      exact ⟨trivial, h1, by rw [h2]; exact e0.symm, by rw [h2]; rfl⟩
  | false =>
    simp only [Bool.false_eq_true, if_false, Bool.not_false, Bool.true_and, Bool.false_and]
    cases f1 : f k (x.l1.getD k zeroS) with
    | true =>
      simp only [if_true, Bool.not_true, Bool.false_eq_true, if_false]
      obtain ⟨h1, h2⟩ := h.mend 0 k (x.l1.getD k zeroS)
      exact ⟨trivial, h1, by rw [h2]; rfl, by rw [h2]; exact e1.symm⟩
    | false =>
      simp only [Bool.false_eq_true, if_false, Bool.not_false, if_true]
      exact ⟨trivial, h, e0.symm, e1.symm⟩
/-- What the first k places count as. -/
def cntK (f : Int → List UInt8 → Bool) (l0 l1 : List (List UInt8)) : Nat → Wk
  | 0 => Wk.zero
  | k + 1 => (cntK f l0 l1 k).step (ck f k (l0.getD k zeroS) (l1.getD k zeroS), 0)
theorem cntK_n (f : Int → List UInt8 → Bool) (l0 l1 : List (List UInt8)) : ∀ k, (cntK f l0 l1 k).n = k
  | 0 => rfl
  | k + 1 => by
    rw [cntK, Wk.step, if_pos rfl, Wk.add]
    have h := cntK_n f l0 l1 k
    split
    · show (cntK f l0 l1 k).n + 1 = _; rw [h]
    · split
      · show (cntK f l0 l1 k).n + 1 = _; rw [h]
      · show (cntK f l0 l1 k).n + 1 = _; rw [h]
/-- What k steps make of it. -/
theorem Fresh.run (h : Fresh x n) : ∀ k, k ≤ n → Fresh (mdRun f (x, Wk.zero) k).1 n ∧ (mdRun f (x, Wk.zero) k).2 = cntK f x.l0 x.l1 k ∧
    (∀ j, j < n → (mdRun f (x, Wk.zero) k).1.l0.getD j zeroS = if j < k then hl0 f j (x.l0.getD j zeroS) (x.l1.getD j zeroS) else x.l0.getD j zeroS) ∧
    (∀ j, j < n → (mdRun f (x, Wk.zero) k).1.l1.getD j zeroS = if j < k then hl1 f j (x.l0.getD j zeroS) (x.l1.getD j zeroS) else x.l1.getD j zeroS)
  | 0, _ => ⟨h, rfl, fun j _ => by rw [if_neg (by omega)]; rfl, fun j _ => by rw [if_neg (by omega)]; rfl⟩
  | k + 1, hk => by
    obtain ⟨h1, h2, h3, h4⟩ := h.run k (by omega)
    have hn : (mdRun f (x, Wk.zero) k).2.n = k := by rw [h2, cntK_n]
    have hs : mdRun f (x, Wk.zero) (k + 1) = (((mdRun f (x, Wk.zero) k).1.heal f k).2, (cntK f x.l0 x.l1 k).step ((mdRun f (x, Wk.zero) k).1.heal f k).1) := by
      show (mdStep f (mdRun f (x, Wk.zero) k)).2 = _
      unfold mdStep
      rw [if_neg (by rw [h1.len, hn]; omega), hn, h2]
    obtain ⟨h5, h6, h7, h8⟩ := h1.heal (f := f) (k := k) (by omega)
    have q0 := h3 k (by omega)
    have q1 := h4 k (by omega)
    rw [if_neg (by omega)] at q0 q1
    rw [q0, q1] at h5 h7 h8
    rw [hs]
    refine ⟨h6, by show (cntK f x.l0 x.l1 k).step _ = _; rw [h5]; rfl, fun j hj => ?_, fun j hj => ?_⟩
    · show ((mdRun f (x, Wk.zero) k).1.heal f k).2.l0.getD j zeroS = _
      rw [h7, set_getD _ _ _ _ (by rw [h1.n0]; exact hj)]
      by_cases e : k = j
      · subst e; rw [if_pos rfl, if_pos (by omega)]
      · rw [if_neg e, h3 j hj]
        by_cases hjk : j < k
        · rw [if_pos hjk, if_pos (by omega)]
        · rw [if_neg hjk, if_neg (by omega)]
    · show ((mdRun f (x, Wk.zero) k).1.heal f k).2.l1.getD j zeroS = _
      rw [h8, set_getD _ _ _ _ (by rw [h1.n1]; exact hj)]
      by_cases e : k = j
      · subst e; rw [if_pos rfl, if_pos (by omega)]
      · rw [if_neg e, h4 j hj]
        by_cases hjk : j < k
        · rw [if_pos hjk, if_pos (by omega)]
        · rw [if_neg hjk, if_neg (by omega)]
end Go.Proofs.Ytgfldfofiglefaa.Sc
/-
  The mirror that pair makes, as the document tells of it; with a device that is out nothing counts. No program.
-/
namespace Go.Proofs.Ytgfldfofiglefaa.Sc
open Kd Mi
def startM (L0 L1 : List (List UInt8)) (k : Nat) : Md := ⟨L0, L1, false, false, List.replicate k false, List.replicate k false⟩
theorem start_fresh {L0 L1 : List (List UInt8)} {k : Nat} (h0 : L0.length = k) (h1 : L1.length = k) : Fresh (startM L0 L1 k) k := ⟨rfl, rfl, h0, h1, rfl, rfl⟩
theorem start_len {L0 L1 : List (List UInt8)} {k : Nat} : (startM L0 L1 k).a.length = k := List.length_replicate
variable {f : Int → List UInt8 → Bool} {x : Md}
theorem down_heal (hd : (x.o0 || x.o1) = true) {n : Nat} (hn : n < x.a.length) : x.heal f n = ((0, 13), x) := by
  rw [Md.heal, show x.has (n : Int) = true by rw [Md.has]; simp; omega, if_pos rfl, if_pos hd]
theorem down_step (hd : (x.o0 || x.o1) = true) {n : Nat} (hn : n < x.a.length) : mdStep f (x, ⟨n, 0, 0, 0⟩) = (((n : Int), true), (x, ⟨n + 1, 0, 0, 0⟩)) := by
  rw [mdStep, if_neg (by show ¬ x.a.length ≤ n; omega)]
  show (((n : Int), true), ((x.heal f n).2, Wk.step ⟨n, 0, 0, 0⟩ (x.heal f n).1)) = _
  rw [down_heal hd hn, Wk.step, if_neg (show ¬ ((13 : Int) = 0) by decide)]
theorem down_run (hd : (x.o0 || x.o1) = true) : ∀ k, k ≤ x.a.length → mdRun f (x, Wk.zero) k = (x, ⟨k, 0, 0, 0⟩)
  | 0, _ => rfl
  | k + 1, hk => by rw [mdRun, down_run hd k (by omega), down_step hd (by omega)]
end Go.Proofs.Ytgfldfofiglefaa.Sc
/-
  Good by a cipher, as a function that a mirror is handed.
-/
namespace Go.Proofs.Ytgfldfofiglefaa.Sx
open Go.RowKit Kd
set_option maxRecDepth 100000 in
/-- Good by a cipher, in a box b. -/
def gdS (ci : SCiph) (b : Nat) : Mi.Gd where
  k := some 106
  c := #[.pointer (some ⟨b, 0, none⟩)]
  l := [(b, #[ci.v], 159)]
  ty := by
    intro x hx
    rw [List.mem_singleton] at hx
    subst hx
    exact ⟨show 159 ≠ 4 by decide, show 159 ≠ 131 by decide⟩
  f := fun n x => okS ci.f n x
  R _ _ _ _ _ _ := True
  none_ h := by cases h
  enter k' h args W := by injection h with h; subst h; exact goodf_enter args W
  call k' h w n x hl hx := by
    injection h with h; subst h
    exact goodf_any ci.v _ n x hx b w (hl _ (List.mem_singleton.2 rfl)) _ _ (fun W => unpack_any ci n x hx W)
end Go.Proofs.Ytgfldfofiglefaa.Sx
/-
  Scrubbing a mirror of two devices of powers of their own; a mirror whose function keeps a box; a sealed sector of which one device's byte rots.
-/
namespace Go.Proofs.Ytgfldfofiglefaa.Sx
open Go.RowKit Kd Mi Sc
section
variable {p1 g1 p2 g2 g : Nat} {G : Gd} {w0 w w' : World} {F F' : Nat → Prop} {m : Nat} {s : Mr (Two p1 g1 p2 g2)} {x x' : Md}
theorem sees_step2 (h : Mi.Sees s x m) (hd : Mi.Dry s x) (y : Wk) : (stepN G (s, y)).1 = (mdStep G.f (x, y)).1 ∧ (stepN G (s, y)).2.2 = (mdStep G.f (x, y)).2.2 ∧ Mi.Sees (stepN G (s, y)).2.1 (mdStep G.f (x, y)).2.1 (m + 1) ∧ Mi.Dry (stepN G (s, y)).2.1 (mdStep G.f (x, y)).2.1 := by
  unfold stepN mdStep
  rw [show s.a = x.a from h.a]
  split
  · exact ⟨rfl, rfl, h.more (Nat.le_succ _), hd⟩
  · obtain ⟨h1, h2⟩ := h.heal (G := G) (y.n : Int)
    exact ⟨rfl, by show y.step _ = y.step _; rw [h1], h2, hd.heal h _⟩
theorem sees_run2 (h : Mi.Sees s x m) (hd : Mi.Dry s x) (y : Wk) : ∀ k, (Sc.runN G (s, y) k).2 = (mdRun G.f (x, y) k).2 ∧ Mi.Sees (Sc.runN G (s, y) k).1 (mdRun G.f (x, y) k).1 (m + k) ∧ Mi.Dry (Sc.runN G (s, y) k).1 (mdRun G.f (x, y) k).1
  | 0 => ⟨rfl, h, hd⟩
  | k + 1 => by
    obtain ⟨h1, h2, h3⟩ := sees_run2 h hd y k
    obtain ⟨h4, h5, h6, h7⟩ := sees_step2 (G := G) h2 h3 (Sc.runN G (s, y) k).2
    refine ⟨?_, ?_, ?_⟩
    · show (stepN G (Sc.runN G (s, y) k)).2.2 = (mdStep G.f (mdRun G.f (x, y) k)).2.2
      rw [show mdRun G.f (x, y) k = ((mdRun G.f (x, y) k).1, (Sc.runN G (s, y) k).2) by rw [h1]]
      exact h5
    · show Mi.Sees (stepN G (Sc.runN G (s, y) k)).2.1 (mdStep G.f (mdRun G.f (x, y) k)).2.1 _
      rw [show mdRun G.f (x, y) k = ((mdRun G.f (x, y) k).1, (Sc.runN G (s, y) k).2) by rw [h1]]
      exact h6
    · show Mi.Dry (stepN G (Sc.runN G (s, y) k)).2.1 (mdStep G.f (mdRun G.f (x, y) k)).2.1
      rw [show mdRun G.f (x, y) k = ((mdRun G.f (x, y) k).1, (Sc.runN G (s, y) k).2) by rw [h1]]
      exact h7
theorem lm_all2 (h : LM p1 g1 p2 g2 G g w0 w s F x m) (hn : x.a.length ≤ 5000) (hm : m < 700000) :
    Calls Try.prog 46 #[.pointer (some ⟨g, 0, none⟩)] w (RetM (.agg (mdRun G.f (x, Wk.zero) x.a.length).2.rep) p1 g1 p2 g2 G g w0 (mdRun G.f (x, Wk.zero) x.a.length).1 (m + x.a.length) F w) := by
  obtain ⟨h1, h2, h3⟩ := sees_run2 (G := G) h.sees h.dry Wk.zero x.a.length
  have hc := sall_any h.live.at_ h.sees.ok hn (by have := h.sees.most; omega)
  rw [show (allN G s x.a.length).2 = _ from h1] at hc
  exact hc.mono fun _ _ hr => h.ret hr h2 h3
theorem lm_newS (hR : ∀ A n c B m e, G.R A n c B m e) {d : (Two p1 g1 p2 g2).L.St} {L0 L1 : List (List UInt8)} {o0 o1 : Bool} {n : Nat} (h : LD p1 g1 p2 g2 w0 w d F L0 L1 o0 o1 0) (hG : ∀ x ∈ G.l, Blk w x.1 x.2.1 x.2.2 ∧ ¬ F x.1 ∧ w0.heap.size ≤ x.1) (e0 : L0.length = n) (e1 : L1.length = n) :
    Calls Try.prog 28 #[.pointer (some ⟨g1, 0, none⟩), .pointer (some ⟨g2, 0, none⟩), G.v] w (fun e w' => ∃ g s F', e = .returned (.pointer (some ⟨g, 0, none⟩)) ∧ LM p1 g1 p2 g2 G g w0 w' s F' ⟨L0, L1, o0, o1, List.replicate n o0, List.replicate n o1⟩ 0) := by
  refine (new_anyG (C := Two p1 g1 p2 g2) hR h.live.at_ (fun x hx => ⟨(hG x hx).1, (hG x hx).2.1⟩) rfl).mono ?_
  rintro e w' ⟨g, F', rfl, h1, h2, h3⟩
  have hs : Sees (newM (Two p1 g1 p2 g2) d) ⟨L0, L1, o0, o1, List.replicate n o0, List.replicate n o1⟩ 0 := sees_new h.d0 h.d1 e0 e1
  have hF : ∀ q, (F q ∨ ∃ y ∈ G.l, q = y.1) → w0.heap.size ≤ q := fun q hq => hq.elim (h.live.new q) (fun ⟨y, hy, e⟩ => by rw [e]; exact (hG y hy).2.2)
  exact ⟨g, _, F', rfl, ⟨⟨h1, fun q hq => (h2 q hq).elim (hF q) (Nat.le_trans h.live.bel.size), h.live.bel.trans (h3.below (fun k hk hq => by have := hF k hq; omega) h.live.bel.size)⟩, hs, hs.dry⟩⟩
end
/-! ### One sealed sector in the midst of three -/
def three (s : List UInt8) : List (List UInt8) := [zeroS, s, zeroS]
theorem three_length (s : List UInt8) : (three s).length = 3 := rfl
theorem three_at (s : List UInt8) : (three s).getD 1 zeroS = s := rfl
theorem three_rot (s : List UInt8) (q : Nat) (b : UInt8) : rotL (three s) 1 q b = three (rotS s q b) := rfl
theorem three_start (s : List UInt8) : (startM (three zeroS) (three zeroS) 3).write 1 s = (0, startM (three s) (three s) 3) := by
  rw [Md.write, show (startM (three zeroS) (three zeroS) 3).has 1 = true from rfl, if_pos rfl]
  rfl
section
variable {f : Int → List UInt8 → Bool} {s t : List UInt8}
theorem three_read0 (hs : f 1 s = true) (ht : f 1 t = false ∨ t = s) : (startM (three t) (three s) 3).read f 1 = (s, 0) := by
  rw [Md.read, show (startM (three t) (three s) 3).has 1 = true from rfl, if_pos rfl]
  have r0 : (startM (three t) (three s) 3).right f 0 (1 : Int).toNat = f 1 t := rfl
  have r1 : (startM (three t) (three s) 3).right f 1 (1 : Int).toNat = f 1 s := rfl
  rw [r0, r1, hs]
  rcases ht with ht | rfl
  · rw [ht, if_neg (by simp), if_pos rfl]; rfl
  · rw [hs, if_pos rfl]; rfl
theorem three_read1 (hs : f 1 s = true) : (startM (three s) (three t) 3).read f 1 = (s, 0) := by
  rw [Md.read, show (startM (three s) (three t) 3).has 1 = true from rfl, if_pos rfl]
  have r0 : (startM (three s) (three t) 3).right f 0 (1 : Int).toNat = f 1 s := rfl
  rw [r0, hs, if_pos rfl]; rfl
theorem ck_same (k : Nat) (u : List UInt8) : ck f k u u = 0 ∨ ck f k u u = 2 := by
  unfold ck
  cases f k u
  · exact .inr rfl
  · exact .inl (by simp)
theorem step_h (y : Wk) (r : Int) (h : r = 0 ∨ r = 2) : (y.step (r, 0)).h = y.h := by
  rw [Wk.step, if_pos rfl]
  rcases h with rfl | rfl <;> rfl
theorem step_h1 (y : Wk) : (y.step (1, 0)).h = y.h + 1 := by rw [Wk.step, if_pos rfl]; rfl
theorem three_all {a b : List UInt8} (hh : hl0 f 1 a b = s ∧ hl1 f 1 a b = s) : ((mdRun f (startM (three a) (three b) 3, Wk.zero) 3).1.l0.getD 1 zeroS = s ∧ (mdRun f (startM (three a) (three b) 3, Wk.zero) 3).1.l1.getD 1 zeroS = s) ∧ Fresh (mdRun f (startM (three a) (three b) 3, Wk.zero) 3).1 3 ∧
    (mdRun f (startM (three a) (three b) 3, Wk.zero) 3).2.h = if ck f 1 a b = 1 then 1 else 0 := by
  obtain ⟨h1, h2, h3, h4⟩ := (start_fresh (three_length a) (three_length b)).run (f := f) 3 (Nat.le_refl _)
  refine ⟨⟨?_, ?_⟩, h1, ?_⟩
  · rw [h3 1 (by omega), if_pos (by omega)]; exact hh.1
  · rw [h4 1 (by omega), if_pos (by omega)]; exact hh.2
  · rw [h2]
    show (((Wk.zero.step (ck f 0 zeroS zeroS, 0)).step (ck f 1 a b, 0)).step (ck f 2 zeroS zeroS, 0)).h = _
    rw [step_h _ _ (ck_same 2 zeroS)]
    have h0 : (Wk.zero.step (ck f 0 zeroS zeroS, 0)).h = 0 := by rw [step_h _ _ (ck_same 0 zeroS)]; rfl
    by_cases e : ck f 1 a b = 1
    · rw [e, step_h1, h0, if_pos rfl]
    · rw [if_neg e, step_h _ _ ?_, h0]
      unfold ck at e ⊢
      split
      · exact .inr rfl
      · split
        · exact .inl rfl
        · rename_i h5 h6; rw [if_neg h5, if_neg h6] at e; exact absurd rfl e
end
theorem three_rot0 {s : List UInt8} {q : Nat} {b : UInt8} (hq : q < 128) : hasByte (startM (three s) (three s) 3).a.length 1 q = true ∧ (startM (three s) (three s) 3).rot 0 1 q b = startM (three (rotS s q b)) (three s) 3 := by
  have hh : hasByte (startM (three s) (three s) 3).a.length 1 q = true := by rw [start_len]; exact hasByte_iff.2 ⟨by omega, by omega, by omega, by omega⟩
  refine ⟨hh, ?_⟩
  rw [Md.rot, if_pos hh, if_pos rfl, Int.toNat_natCast]; rfl
theorem three_rot1 {s : List UInt8} {q : Nat} {b : UInt8} (hq : q < 128) : hasByte (startM (three s) (three s) 3).a.length 1 q = true ∧ (startM (three s) (three s) 3).rot 1 1 q b = startM (three s) (three (rotS s q b)) 3 := by
  have hh : hasByte (startM (three s) (three s) 3).a.length 1 q = true := by rw [start_len]; exact hasByte_iff.2 ⟨by omega, by omega, by omega, by omega⟩
  refine ⟨hh, ?_⟩
  rw [Md.rot, if_pos hh, if_neg (by omega), Int.toNat_natCast]; rfl
theorem rotS_zero (s : List UInt8) (q : Nat) : rotS s q 0 = s := by
  rw [rotS]
  apply List.ext_getElem?
  intro j
  rw [List.getElem?_set]
  split
  · rename_i h; subst h
    split
    · rename_i h; rw [List.getD_eq_getElem?_getD, List.getElem?_eq_getElem h, UInt8.xor_zero]; rfl
    · rename_i h; rw [List.getElem?_eq_none (by omega)]
  · rfl
theorem rotS_ne {s : List UInt8} {q : Nat} {b : UInt8} (hq : q < s.length) (hb : b ≠ 0) : rotS s q b ≠ s := by
  intro h
  have h1 : (rotS s q b)[q]? = s[q]? := by rw [h]
  rw [rotS, List.getElem?_set_self hq, List.getElem?_eq_getElem hq, List.getD_eq_getElem?_getD, List.getElem?_eq_getElem hq] at h1
  injection h1 with h1
  have h2 : s[q] ^^^ b = s[q] := h1
  apply hb
  have h3 : s[q] ^^^ (s[q] ^^^ b) = s[q] ^^^ s[q] := by rw [h2]
  rwa [← UInt8.xor_assoc, UInt8.xor_self, UInt8.zero_xor] at h3
section
variable {p1 g1 p2 g2 g : Nat} {G : Gd} {w0 w w' : World} {F F' : Nat → Prop} {m : Nat} {s : Mr (Two p1 g1 p2 g2)} {x x' : Md}
theorem lm_dump0S (h : LM p1 g1 p2 g2 G g w0 w s F x 0) : Calls Try.prog 25 #[.pointer (some ⟨g1, 0, none⟩)] w (fun e w' => ∃ A c, e = .returned (.slice A x.a.length c) ∧ w'.ownsRow w.heap.size 38 128 (.slice A x.a.length c) x.a.length (svs x.l0) ∧ (∀ y ∈ x.l0, y.length = 128) ∧ Below w.heap.size w w') := by
  obtain ⟨F1, h1, h2, _⟩ := ml_fst h.live.at_
  refine (dump_sys h1 0 (by rw [h2]; omega)).mono ?_
  rintro e w' ⟨A, n, c, rfl, ho, hb⟩
  have hst : (s.d.1.at 0).st = x.l0 := h.sees.d0.stable
  have hok := (h1.ok (k := 0) (by rw [h2]; omega)).st
  rw [hst] at ho hok
  have hn : x.a.length = n := by have h3 := ho.1; rw [svs_length hok] at h3; have := h.sees.n0; omega
  rw [hn]
  exact ⟨A, c, rfl, ho, hok, hb⟩
theorem lm_dump1S (h : LM p1 g1 p2 g2 G g w0 w s F x 0) : Calls Try.prog 25 #[.pointer (some ⟨g2, 0, none⟩)] w (fun e w' => ∃ A c, e = .returned (.slice A x.a.length c) ∧ w'.ownsRow w.heap.size 38 128 (.slice A x.a.length c) x.a.length (svs x.l1) ∧ (∀ y ∈ x.l1, y.length = 128) ∧ Below w.heap.size w w') := by
  obtain ⟨F1, h1, h2, _⟩ := ml_snd h.live.at_
  refine (dump_sys h1 0 (by rw [h2]; omega)).mono ?_
  rintro e w' ⟨A, n, c, rfl, ho, hb⟩
  have hst : (s.d.2.at 0).st = x.l1 := h.sees.d1.stable
  have hok := (h1.ok (k := 0) (by rw [h2]; omega)).st
  rw [hst] at ho hok
  have hn : x.a.length = n := by have h3 := ho.1; rw [svs_length hok] at h3; have := h.sees.n1; omega
  rw [hn]
  exact ⟨A, c, rfl, ho, hok, hb⟩
/-- The sector at a place of a row that is read. -/
theorem sec_at {w : World} {A : Option Addr} {L : List (List UInt8)} {B : Nat} (h : Rd B w A (svs L)) (hL : ∀ x ∈ L, x.length = 128) {q : Nat} (hq : q < L.length) {y : List UInt8} (hy : L.getD q zeroS = y) :
    ∃ ad, A = some ad ∧ ∀ w', Below B w w' → ∀ jj v, (bv y)[jj]? = some v → w'.cell? ((ad.add (q * 128)).add jj) = some v := by
  have he : L[q] = y := by rw [← hy, List.getD_eq_getElem?_getD, List.getElem?_eq_getElem hq]; rfl
  obtain ⟨ad, hA, _, _⟩ := rd_sec h hL hq
  refine ⟨ad, hA, fun w' hb jj v hv => ?_⟩
  obtain ⟨ad', hA', _, hc'⟩ := rd_sec (h.below hb) hL hq
  rw [hA] at hA'; injection hA' with hA'; subst hA'
  exact hc' jj v (by rw [he]; exact hv)
end
end Go.Proofs.Ytgfldfofiglefaa.Sx
