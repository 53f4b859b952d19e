/-
  Texts of this seat, one behind the other: LoMade, LoTwL, LoZero, LoOne, ConvB, LoAwake, OpenA, LoAct, LoTwPlay, LoGreat.
-/
import Derived.Deep.RegionHeld
import Derived.Laws.IdiomStrings
import Derived.Lib.Strings
import Derived.Deep.LoopGhost
import Derived.Lib.SlBytesConst
import Derived.OpenShut
import Derived.ProofKit
import Derived.Deep.CutBlock
import Derived.OrdersHeld
import Derived.Test.YtnplhagfmfggcaaGreatLz4
/-
  The laws' rig: a power, two devices, a mirror of them, a log over it.
-/
namespace Go.Proofs.YtnplhagfmfggcaaGreat.Lo
open Go.RowKit Kd Mi Sx Sg
attribute [local go_sem ↓] Go.wp_at_zero Go.wp_at_succ
/-- A rig's cells. -/
def rigC (p g1 g2 g q a b : Nat) : Array Value := #[.pointer (some ⟨p, 0, none⟩), .pointer (some ⟨g1, 0, none⟩), .pointer (some ⟨g2, 0, none⟩), .pointer (some ⟨g, 0, none⟩), .pointer (some ⟨q, 0, none⟩), .int .i64 (a : Int), .int .i64 (b : Int)]
/-- Lists of noughts. -/
def zerosL (n : Nat) : List (List UInt8) := List.replicate n zeroS
theorem LgM.base {p g1 g2 g q : Nat} {G : Gd} {w w0 w' : World} {s : Mr (Mu.one p g1 g2)} {l : Lg} {F : Nat → Prop} {x : Md} {m : Nat} (h : LgM p g1 g2 G g q w0 w' s l F x m) (hb : Below w.heap.size w w0) : LgM p g1 g2 G g q w w' s l F x m :=
  ⟨⟨h.live.at_, fun k hk => Nat.le_trans hb.size (h.live.new k hk), hb.trans (h.live.bel.mono hb.size)⟩, h.sees, h.dry, h.fine⟩
/-- It returns a rig, new. -/
def RetMade (a b : Nat) (w : World) (e : Ending) (w' : World) : Prop :=
  ∃ p g1 g2 bx g q s F, e = .returned (.tuple #[.agg (rigC p g1 g2 g q a b), .int .i64 1]) ∧ LgM p g1 g2 (gdS litS bx) g q w w' s (Lg.new a b) F (Sc.startM (zerosL (2 + a * b)) (zerosL (2 + a * b)) (2 + a * b)) 0
theorem cell_but {w w' : World} {T : Nat → Prop} {g j : Nat} {v : Value} (h : w.cell? ⟨g, j, none⟩ = some v) (hb : But T w w') (hg : ¬T g) : w'.cell? ⟨g, j, none⟩ = some v := by
  have hl : g < w.heap.size := World.block_lt_of_cell? w _ h
  rw [← h]
  unfold World.cell?
  rw [hb.block g hl hg]
theorem live_box {w0 w w' : World} {p : Nat} {gs : List Nat} {S : Sy} {F : Nat → Prop} {b : Nat} (h : Live w0 w p gs S F) (hb : But (fun k => k = b) w w') (hF : ¬F b) (hw : w0.heap.size ≤ b) : Live w0 w' p gs S F :=
  ⟨h.sys.but hb (fun q hq e => by subst e; exact hF hq), h.new, h.bel.trans (hb.below (fun k hk e => by omega) h.bel.size)⟩
theorem lm_box {p g1 g2 g : Nat} {G : Gd} {w0 w w' : World} {s : Mr (Mu.one p g1 g2)} {F : Nat → Prop} {x : Md} {m b : Nat} (h : Mu.LM p g1 g2 G g w0 w s F x m) (hb : But (fun k => k = b) w w') (hF : ¬F b) (hw : w0.heap.size ≤ b) : Mu.LM p g1 g2 G g w0 w' s F x m :=
  ⟨⟨(ML (Mu.one p g1 g2) G g).but h.live.at_ hb (fun k hk e => by subst e; exact hF hk), h.live.new, h.live.bel.trans (hb.below (fun k hk e => by omega) h.live.bel.size)⟩, h.sees, h.dry⟩
theorem lgm_box {p g1 g2 g q : Nat} {G : Gd} {w0 w w' : World} {s : Mr (Mu.one p g1 g2)} {l : Lg} {F : Nat → Prop} {x : Md} {m b : Nat} (h : LgM p g1 g2 G g q w0 w s l F x m) (hb : But (fun k => k = b) w w') (hF : ¬F b) (hw : w0.heap.size ≤ b) : LgM p g1 g2 G g q w0 w' s l F x m :=
  ⟨⟨(LogL (Mu.one p g1 g2) G g q litS).but h.live.at_ hb (fun k hk e => by subst e; exact hF hk), h.live.new, h.live.bel.trans (hb.below (fun k hk e => by omega) h.live.bel.size)⟩, h.sees, h.dry, h.fine⟩
theorem by_rest {R G : Nat → Nat → World → Prop} {p : Prop} (ways : (∀ X Y w', R X Y w' → G X Y w') → p) (rest : ∀ X Y w', R X Y w' → G X Y w') : p := ways rest
set_option maxRecDepth 100000 in
set_option maxHeartbeats 12800000 in
theorem made_any (x y : Int) (hx : 0 ≤ x ∧ x ≤ 255) (hy : 0 ≤ y ∧ y ≤ 255) (a b : Nat) (ha : (a : Int) = 3 + x.tmod 4) (hb : (b : Int) = 1 + y.tmod 4) (w : World) : Calls Tryz.prog 6 #[.int .u8 x, .int .u8 y] w (RetMade a b w) := by
  have hi2 : 0 ≤ x.tmod 4 ∧ x.tmod 4 < 4 := by rw [Int.tmod_eq_emod_of_nonneg hx.1]; omega
  have hj2 : 0 ≤ y.tmod 4 ∧ y.tmod 4 < 4 := by rw [Int.tmod_eq_emod_of_nonneg hy.1]; omega
  obtain ⟨i, hi⟩ : ∃ z, z = x.tmod 4 := ⟨_, rfl⟩
  obtain ⟨j, hj⟩ : ∃ z, z = y.tmod 4 := ⟨_, rfl⟩
  rw [← hi] at ha hi2
  rw [← hj] at hb hj2
  have q1 : x.tmod 4 = i := hi.symm
  have q2 : y.tmod 4 = j := hj.symm
  have z1 : wrap64 x = x := by unfold wrap64; omega
  have z2 : wrap64 y = y := by unfold wrap64; omega
  have v1 : IntKind.i64.wrap x = x := IntWalk.i64_in _ (by omega)
  have v2 : IntKind.i64.wrap y = y := IntWalk.i64_in _ (by omega)
  have e1 : IntKind.i64.wrap (3 + i) = (a : Int) := by rw [← ha]; exact IntWalk.i64_in _ (by omega)
  have e2 : IntKind.i64.wrap (1 + j) = (b : Int) := by rw [← hb]; exact IntWalk.i64_in _ (by omega)
  have HAB := Lib.hid (show a ≤ 6 ∧ b ≤ 4 ∧ 3 ≤ a ∧ 1 ≤ b by omega)
  have HOK := Lib.hid (show Sg.okS (a : Int) (b : Int) by unfold Sg.okS; omega)
  obtain ⟨N, hN⟩ : ∃ N, N = 2 + a * b := ⟨_, rfl⟩
  have HN := Lib.hid (show N = 2 + a * b ∧ N ≤ 4096 from ⟨hN, by have : a * b ≤ 6 * 4 := Nat.mul_le_mul (by omega) (by omega); omega⟩)
  have HSE := Lib.hid (show ∀ W, Calls Tryz.prog 22 #[.agg #[.int .i64 (a : Int), .int .i64 (b : Int)]] W (RetB (.int .i64 (N : Int)) W) from fun W => by
    have h := sectors_yes a b HOK.out W
    rw [show (2 : Int) + (a : Int) * (b : Int) = (N : Int) by rw [hN]; push_cast; rfl] at h
    exact h)
  clear hi hj hi2 hj2 ha hb hN hx hy
  go_enter Tryz.func6, Tryz.ntmps6
  go_wp2_with fail
  obtain ⟨w1, hw1⟩ : ∃ W, W = w.alloc (.cells #[.pointer none, .pointer none, .pointer none, .pointer none, .pointer none, .int .i64 0, .int .i64 0] 34) := ⟨_, rfl⟩
  rw [← hw1]
  have R1 := Lib.hid (show Blk w1 w.heap.size #[.pointer none, .pointer none, .pointer none, .pointer none, .pointer none, .int .i64 0, .int .i64 0] 34 by rw [hw1]; exact heap_alloc_new _ _)
  have BW1 := Lib.hid (show Below w.heap.size w w1 by rw [hw1]; exact (Below.refl _ _).alloc (Nat.le_refl _) _)
  clear hw1
  refine live_power.mono ?_
  rintro e w2 ⟨pw, rfl, F2, h⟩
  have H2 := Lib.hid h
  clear h
  go_wp2_with fail
  obtain ⟨bX, hbX⟩ : ∃ v, v = w2.heap.size := ⟨_, rfl⟩
  obtain ⟨w3, hw3⟩ : ∃ W, W = w2.alloc (.cells #[.pointer (some ⟨pw, 0, none⟩), .pointer none, .pointer none, .pointer none, .pointer none, .int .i64 (a : Int), .int .i64 (b : Int)] 34) := ⟨_, rfl⟩
  rw [← hbX, ← hw3]
  have X3 := Lib.hid (show Blk w3 bX #[.pointer (some ⟨pw, 0, none⟩), .pointer none, .pointer none, .pointer none, .pointer none, .int .i64 (a : Int), .int .i64 (b : Int)] 34 by rw [hw3, hbX]; exact heap_alloc_new _ _)
  have NF := Lib.hid (show ¬F2 bX ∧ w1.heap.size ≤ bX from ⟨fun hf => by have := H2.out.sys.lt bX hf; omega, by rw [hbX]; exact H2.out.bel.size⟩)
  have H3 := Lib.hid (show Live w1 w3 pw [] S0 F2 from ⟨H2.out.sys.but (but_below (T := fun _ => False) (by rw [hw3]; exact (Below.refl _ _).alloc (Nat.le_refl _) _)) (fun _ _ h => h), H2.out.new, H2.out.bel.trans (by rw [hw3]; exact ((Below.refl _ _).alloc (Nat.le_refl _) _).mono H2.out.bel.size)⟩)
  clear hbX hw3 H2
  apply by_rest (R := fun g1 g2 w' => (∃ F, Live w1 w' pw [g1, g2] ((S0.new (N : Int)).new (N : Int)) F ∧ ¬F bX) ∧ Blk w' bX #[.pointer (some ⟨pw, 0, none⟩), .pointer (some ⟨g1, 0, none⟩), .pointer (some ⟨g2, 0, none⟩), .pointer none, .pointer none, .int .i64 (a : Int), .int .i64 (b : Int)] 34)
  case ways =>
    intro hG
    refine wp_region_held_drew (S := (fun w' => w'.cell? ⟨bX, 0, none⟩ = some (.pointer (some ⟨pw, 0, none⟩)) ∧ w'.cell? ⟨bX, 5, none⟩ = some (.int .i64 (a : Int)) ∧ w'.cell? ⟨bX, 6, none⟩ = some (.int .i64 (b : Int)))) (by kernel_rfl) ⟨(show (World.drew _).cell? _ = _ from X3.out.cell 0), (show (World.drew _).cell? _ = _ from X3.out.cell 5), (show (World.drew _).cell? _ = _ from X3.out.cell 6)⟩ (fun hh => ?_)
    have HH := Lib.hid hh
    clear hh
    have H4 := Lib.hid H3.out.drew
    have X4 := Lib.hid (show Blk w3.drew bX _ _ from X3.out)
    obtain ⟨w4, hw4⟩ : ∃ W, W = w3.drew := ⟨_, rfl⟩
    rw [← hw4] at H4 X4 HH ⊢
    clear hw4
    try simp only [List.getElem_toArray, List.getElem_cons_succ, List.getElem_cons_zero, Act.put, List.setIfInBounds_toArray, List.set_cons_zero, List.set_cons_succ]
    refine wpAnyH_take (i := 0) (v := ?vA0) rfl (by kernel_rfl) (by kernel_rfl) (by kernel_rfl) (fun _ _ _ h => h) (Or.inl ⟨by rfl, fun w' _ => ?yA0⟩) HH.out ?_
    case yA0 => (go_simp; try with_reducible rfl)
    try simp only [List.getElem_toArray, List.getElem_cons_zero, Act.put, List.setIfInBounds_toArray, List.set_cons_zero, List.set_cons_succ]
    refine wpAnyH_take (i := 3) (v := ?vA3) rfl (by kernel_rfl) (by kernel_rfl) (by kernel_rfl) (fun _ _ _ h => h) (Or.inl ⟨by rfl, fun w' _ => ?yA3⟩) HH.out ?_
    case yA3 => (go_simp; try with_reducible rfl)
    try simp only [List.getElem_toArray, List.getElem_cons_succ, List.getElem_cons_zero, Act.put, List.setIfInBounds_toArray, List.set_cons_zero, List.set_cons_succ]
    refine wpAnyH_take (i := 6) (v := ?vA6) rfl (by kernel_rfl) (by kernel_rfl) (by kernel_rfl) (fun _ _ _ h => h) (Or.inl ⟨by rfl, fun w' _ => ?yA6⟩) HH.out ?_
    case yA6 => (go_simp; try with_reducible rfl)
    try simp only [List.getElem_toArray, List.getElem_cons_succ, List.getElem_cons_zero, Act.put, List.setIfInBounds_toArray, List.set_cons_zero, List.set_cons_succ]
    refine wpAnyH_take (i := 9) (v := ?vA9) rfl (by kernel_rfl) (by kernel_rfl) (by kernel_rfl) (fun _ _ _ h => h) (Or.inl ⟨by rfl, fun w' _ => ?yA9⟩) HH.out ?_
    case yA9 => (go_simp; try with_reducible rfl)
    try simp only [List.getElem_toArray, List.getElem_cons_succ, List.getElem_cons_zero, Act.put, List.setIfInBounds_toArray, List.set_cons_zero, List.set_cons_succ]
    refine wpAnyH_take (i := 1) (v := .agg #[.int .i64 (a : Int), .int .i64 (b : Int)]) rfl (by kernel_rfl) (by kernel_rfl) (by kernel_rfl) (fun _ _ _ h => h) (Or.inl ⟨by rfl, fun w' hw' => ?yA1⟩) HH.out ?_
    case yA1 => ((have hc := hw'.2.1; have hc2 := hw'.2.2); go_simp; try with_reducible rfl)
    try simp only [List.getElem_toArray, List.getElem_cons_succ, List.getElem_cons_zero, Act.put, List.setIfInBounds_toArray, List.set_cons_zero, List.set_cons_succ]
    refine wpAnyH_take (i := 7) (v := .agg #[.int .i64 (a : Int), .int .i64 (b : Int)]) rfl (by kernel_rfl) (by kernel_rfl) (by kernel_rfl) (fun _ _ _ h => h) (Or.inl ⟨by rfl, fun w' hw' => ?yA7⟩) HH.out ?_
    case yA7 => ((have hc := hw'.2.1; have hc2 := hw'.2.2); go_simp; try with_reducible rfl)
    try simp only [List.getElem_toArray, List.getElem_cons_succ, List.getElem_cons_zero, Act.put, List.setIfInBounds_toArray, List.set_cons_zero, List.set_cons_succ]
    refine wpAnyH_take (i := 4) (v := .pointer (some ⟨pw, 0, none⟩)) rfl (by kernel_rfl) (by kernel_rfl) (by kernel_rfl) (fun _ _ _ h => h) (Or.inl ⟨by rfl, fun w' hw' => ?yA4⟩) HH.out ?_
    case yA4 => ((have hc := hw'.1); go_simp; try with_reducible rfl)
    try simp only [List.getElem_toArray, List.getElem_cons_succ, List.getElem_cons_zero, Act.put, List.setIfInBounds_toArray, List.set_cons_zero, List.set_cons_succ]
    refine wpAnyH_take (i := 10) (v := .pointer (some ⟨pw, 0, none⟩)) rfl (by kernel_rfl) (by kernel_rfl) (by kernel_rfl) (fun _ _ _ h => h) (Or.inl ⟨by rfl, fun w' hw' => ?yA10⟩) HH.out ?_
    case yA10 => ((have hc := hw'.1); go_simp; try with_reducible rfl)
    try simp only [List.getElem_toArray, List.getElem_cons_succ, List.getElem_cons_zero, Act.put, List.setIfInBounds_toArray, List.set_cons_zero, List.set_cons_succ]
    refine wpAnyH_ready (rs := [2]) (by kernel_rfl) (by simp) (AllReadyH.cons rfl (fun K hK => ?_) AllReadyH.nil)
    go_simp
    refine (HSE.out _).mono ?_
    rintro e v1 ⟨rfl, bw⟩
    have H901 := Lib.hid (show Live w1 v1 _ _ _ _ from ⟨H4.out.sys.but (but_below (T := fun _ => False) bw) (fun _ _ h => h), H4.out.new, H4.out.bel.trans (bw.mono H4.out.bel.size)⟩)
    have X901 := Lib.hid (X4.out.below bw)
    clear bw
    go_simp
    skip
    refine hK.out _ _ ⟨X901.out.cell 0, X901.out.cell 5, X901.out.cell 6⟩ (fun hh => ?_)
    have HH' := Lib.hid hh
    clear hh hK K HH
    have HH := Lib.hid HH'.out
    clear HH'
    try simp only [List.getElem_toArray, List.getElem_cons_succ, List.getElem_cons_zero, Act.put, List.setIfInBounds_toArray, List.set_cons_zero, List.set_cons_succ]
    refine wpAnyH_ready (rs := [5]) (by kernel_rfl) (by simp) (AllReadyH.cons rfl (fun K hK => ?_) AllReadyH.nil)
    go_simp
    refine (live_new H901.out (by decide) (N : Int)).mono ?_
    rintro e v2 ⟨ga2, rfl, F92, h, hf, hb⟩
    have H902 := Lib.hid h
    have X902 := Lib.hid (X901.out.but hb NF.out.1)
    have N902 := Lib.hid (show ¬F92 bX ∧ w1.heap.size ≤ bX from ⟨fun h => (hf bX h).elim NF.out.1 (fun h => by have := X901.out.lt; omega), NF.out.2⟩)
    clear h hf hb
    go_simp
    skip
    refine hK.out _ _ ⟨X902.out.cell 0, X902.out.cell 5, X902.out.cell 6⟩ (fun hh => ?_)
    have HH' := Lib.hid hh
    clear hh hK K HH
    have HH := Lib.hid HH'.out
    clear HH'
    try simp only [List.getElem_toArray, List.getElem_cons_succ, List.getElem_cons_zero, Act.put, List.setIfInBounds_toArray, List.set_cons_zero, List.set_cons_succ]
    refine wpAnyH_take (i := 12) (v := ?vB12) rfl (by kernel_rfl) (by kernel_rfl) (by kernel_rfl) (fun _ _ _ h => h) (Or.inl ⟨by rfl, fun w' _ => ?yB12⟩) HH.out ?_
    case yB12 => (go_simp; try with_reducible rfl)
    try simp only [List.getElem_toArray, List.getElem_cons_succ, List.getElem_cons_zero, Act.put, List.setIfInBounds_toArray, List.set_cons_zero, List.set_cons_succ]
    refine wpAnyH_ready (rs := [8]) (by kernel_rfl) (by simp) (AllReadyH.cons rfl (fun K hK => ?_) AllReadyH.nil)
    go_simp
    refine (HSE.out _).mono ?_
    rintro e v3 ⟨rfl, bw⟩
    have H903 := Lib.hid (show Live w1 v3 _ _ _ _ from ⟨H902.out.sys.but (but_below (T := fun _ => False) bw) (fun _ _ h => h), H902.out.new, H902.out.bel.trans (bw.mono H902.out.bel.size)⟩)
    have X903 := Lib.hid (X902.out.below bw)
    clear bw
    go_simp
    skip
    refine hK.out _ _ ⟨X903.out.cell 0, X903.out.cell 5, X903.out.cell 6⟩ (fun hh => ?_)
    have HH' := Lib.hid hh
    clear hh hK K HH
    have HH := Lib.hid HH'.out
    clear HH'
    try simp only [List.getElem_toArray, List.getElem_cons_succ, List.getElem_cons_zero, Act.put, List.setIfInBounds_toArray, List.set_cons_zero, List.set_cons_succ]
    refine wpAnyH_ready (rs := [11]) (by kernel_rfl) (by simp) (AllReadyH.cons rfl (fun K hK => ?_) AllReadyH.nil)
    go_simp
    refine (live_new H903.out (by show 1 < 1000; omega) (N : Int)).mono ?_
    rintro e v4 ⟨gb4, rfl, F94, h, hf, hb⟩
    have H904 := Lib.hid h
    have X904 := Lib.hid (X903.out.but hb N902.out.1)
    have N904 := Lib.hid (show ¬F94 bX ∧ w1.heap.size ≤ bX from ⟨fun h => (hf bX h).elim N902.out.1 (fun h => by have := X903.out.lt; omega), N902.out.2⟩)
    clear h hf hb
    go_simp
    skip
    refine hK.out _ _ ⟨X904.out.cell 0, X904.out.cell 5, X904.out.cell 6⟩ (fun hh => ?_)
    have HH' := Lib.hid hh
    clear hh hK K HH
    have HH := Lib.hid HH'.out
    clear HH'
    try simp only [List.getElem_toArray, List.getElem_cons_succ, List.getElem_cons_zero, Act.put, List.setIfInBounds_toArray, List.set_cons_zero, List.set_cons_succ]
    refine wpAnyH_ready (rs := [13]) (by kernel_rfl) (by simp) (AllReadyH.cons rfl (fun K hK => ?_) AllReadyH.nil)
    have y1 := X904.out.cell 1
    have y2 := X904.out.free 1
    go_simp
    obtain ⟨v5, hv⟩ : ∃ W, W = World.setCell v4 ⟨bX, 1, none⟩ (.pointer (some ⟨ga2, 0, none⟩)) := ⟨_, rfl⟩
    rw [← hv]
    have hb : But (fun k => k = bX) v4 v5 := by rw [hv]; exact But.setCell (S := fun k => k = bX) (But.refl _) (Or.inl rfl) _
    have X905 := Lib.hid (show Blk v5 bX #[.pointer (some ⟨pw, 0, none⟩), .pointer (some ⟨ga2, 0, none⟩), .pointer none, .pointer none, .pointer none, .int .i64 (a : Int), .int .i64 (b : Int)] 34 by rw [hv]; exact heap_setCell_same _ _ _ _ _ _ X904.out)
    have H905 := Lib.hid (live_box H904.out hb N904.out.1 N904.out.2)
    clear hv hb y1 y2
    skip
    refine hK.out _ _ ⟨X905.out.cell 0, X905.out.cell 5, X905.out.cell 6⟩ (fun hh => ?_)
    have HH' := Lib.hid hh
    clear hh hK K HH
    have HH := Lib.hid HH'.out
    clear HH'
    try simp only [List.getElem_toArray, List.getElem_cons_succ, List.getElem_cons_zero, Act.put, List.setIfInBounds_toArray, List.set_cons_zero, List.set_cons_succ]
    refine wpAnyH_take (i := 14) (v := ?vZ614) rfl (by kernel_rfl) (by kernel_rfl) (by kernel_rfl) (fun _ _ _ h => h) (Or.inl ⟨by rfl, fun w' _ => ?yZ614⟩) HH.out ?_
    case yZ614 => (go_simp; try with_reducible rfl)
    try simp only [List.getElem_toArray, List.getElem_cons_succ, List.getElem_cons_zero, Act.put, List.setIfInBounds_toArray, List.set_cons_zero, List.set_cons_succ]
    refine wpAnyH_ready (rs := [15]) (by kernel_rfl) (by simp) (AllReadyH.cons rfl (fun K hK => ?_) AllReadyH.nil)
    have y1 := X905.out.cell 2
    have y2 := X905.out.free 2
    go_simp
    obtain ⟨v7, hv⟩ : ∃ W, W = World.setCell v5 ⟨bX, 2, none⟩ (.pointer (some ⟨gb4, 0, none⟩)) := ⟨_, rfl⟩
    rw [← hv]
    have hb : But (fun k => k = bX) v5 v7 := by rw [hv]; exact But.setCell (S := fun k => k = bX) (But.refl _) (Or.inl rfl) _
    have X907 := Lib.hid (show Blk v7 bX #[.pointer (some ⟨pw, 0, none⟩), .pointer (some ⟨ga2, 0, none⟩), .pointer (some ⟨gb4, 0, none⟩), .pointer none, .pointer none, .int .i64 (a : Int), .int .i64 (b : Int)] 34 by rw [hv]; exact heap_setCell_same _ _ _ _ _ _ X905.out)
    have H907 := Lib.hid (live_box H905.out hb N904.out.1 N904.out.2)
    clear hv hb y1 y2
    skip
    refine hK.out _ _ ⟨X907.out.cell 0, X907.out.cell 5, X907.out.cell 6⟩ (fun hh => ?_)
    have HH' := Lib.hid hh
    clear hh hK K HH
    have HH := Lib.hid HH'.out
    clear HH'
    try simp only [List.getElem_toArray, List.getElem_cons_succ, List.getElem_cons_zero, Act.put, List.setIfInBounds_toArray, List.set_cons_zero, List.set_cons_succ]
    refine wpAnyH_done (by kernel_rfl) ?_ _
    exact hG ga2 gb4 v7 ⟨⟨_, H907.out, N904.out.1⟩, X907.out⟩
  case rest =>
    rintro g1 g2 w5 ⟨⟨F5, hl5, hn5⟩, hx5⟩
    have H5 := Lib.hid hl5
    have X5 := Lib.hid hx5
    have N5 := Lib.hid hn5
    clear hl5 hx5 hn5
    have hzl : ∀ W, (zeroValue 53).run Tryz.prog W = .ok (.agg zeroLit) W := fun _ => by kernel_rfl
    go_wp2_with fail
    refine wp_region_held_drew (S := (fun w' => w'.cell? ⟨bX, 1, none⟩ = some (.pointer (some ⟨g1, 0, none⟩)) ∧ w'.cell? ⟨bX, 2, none⟩ = some (.pointer (some ⟨g2, 0, none⟩)))) (by kernel_rfl) ⟨(show (World.drew _).cell? _ = _ from X5.out.cell 1), (show (World.drew _).cell? _ = _ from X5.out.cell 2)⟩ (fun hh => ?_)
    have HH := Lib.hid hh
    clear hh
    have H6 := Lib.hid H5.out.drew
    have X6 := Lib.hid (show Blk w5.drew bX _ _ from X5.out)
    clear H5 X5
    obtain ⟨w6, hw6⟩ : ∃ W, W = w5.drew := ⟨_, rfl⟩
    rw [← hw6] at H6 X6 HH ⊢
    clear hw6
    try simp only [List.getElem_toArray, List.getElem_cons_succ, List.getElem_cons_zero, Act.put, List.setIfInBounds_toArray, List.set_cons_zero, List.set_cons_succ]
    refine wpAnyH_take (i := 0) (v := ?vC0) rfl (by kernel_rfl) (by kernel_rfl) (by kernel_rfl) (fun _ _ _ h => h) (Or.inl ⟨by rfl, fun w' _ => ?yC0⟩) HH.out ?_
    case yC0 => (go_simp; try with_reducible rfl)
    try simp only [List.getElem_toArray, List.getElem_cons_zero, Act.put, List.setIfInBounds_toArray, List.set_cons_zero, List.set_cons_succ]
    refine wpAnyH_take (i := 2) (v := ?vC2) rfl (by kernel_rfl) (by kernel_rfl) (by kernel_rfl) (fun _ _ _ h => h) (Or.inl ⟨by rfl, fun w' _ => ?yC2⟩) HH.out ?_
    case yC2 => (go_simp; try with_reducible rfl)
    try simp only [List.getElem_toArray, List.getElem_cons_succ, List.getElem_cons_zero, Act.put, List.setIfInBounds_toArray, List.set_cons_zero, List.set_cons_succ]
    refine wpAnyH_take (i := 1) (v := .pointer (some ⟨g1, 0, none⟩)) rfl (by kernel_rfl) (by kernel_rfl) (by kernel_rfl) (fun _ _ _ h => h) (Or.inl ⟨by rfl, fun w' hw' => ?yC1⟩) HH.out ?_
    case yC1 => ((have hc := hw'.1); go_simp; try with_reducible rfl)
    try simp only [List.getElem_toArray, List.getElem_cons_succ, List.getElem_cons_zero, Act.put, List.setIfInBounds_toArray, List.set_cons_zero, List.set_cons_succ]
    refine wpAnyH_take (i := 3) (v := .pointer (some ⟨g2, 0, none⟩)) rfl (by kernel_rfl) (by kernel_rfl) (by kernel_rfl) (fun _ _ _ h => h) (Or.inl ⟨by rfl, fun w' hw' => ?yC3⟩) HH.out ?_
    case yC3 => ((have hc := hw'.2); go_simp; try with_reducible rfl)
    try simp only [List.getElem_toArray, List.getElem_cons_succ, List.getElem_cons_zero, Act.put, List.setIfInBounds_toArray, List.set_cons_zero, List.set_cons_succ]
    refine wpAnyH_take (i := 4) (v := .agg zeroLit) rfl (by kernel_rfl) (by kernel_rfl) (by kernel_rfl) (fun _ _ _ h => h) (Or.inl ⟨by rfl, fun w' hw' => ?yC4⟩) HH.out ?_
    case yC4 => (go_simp; try with_reducible rfl)
    try simp only [List.getElem_toArray, List.getElem_cons_succ, List.getElem_cons_zero, Act.put, List.setIfInBounds_toArray, List.set_cons_zero, List.set_cons_succ]
    refine wpAnyH_take (i := 5) (v := ?vC5) rfl (by kernel_rfl) (by kernel_rfl) (by kernel_rfl) (fun _ _ _ h => h) (Or.inl ⟨by rfl, fun w' _ => ?yC5⟩) HH.out ?_
    case yC5 => (go_simp; try with_reducible rfl)
    try simp only [List.getElem_toArray, List.getElem_cons_succ, List.getElem_cons_zero, Act.put, List.setIfInBounds_toArray, List.set_cons_zero, List.set_cons_succ]
    refine wpAnyH_ready (rs := [6]) (by kernel_rfl) (by simp) (AllReadyH.cons rfl (fun K hK => ?_) AllReadyH.nil)
    go_simp
    refine (good_iface 53 (.agg zeroLit) _).mono ?_
    rintro e w7 ⟨rfl, hw7⟩
    obtain ⟨bG, hbG⟩ : ∃ v, v = w6.heap.size := ⟨_, rfl⟩
    rw [← hbG]
    have bw : Below w6.heap.size w6 w7 := by rw [hw7]; exact (Below.refl _ _).alloc (Nat.le_refl _) _
    have HBG := Lib.hid (show Blk w7 bG #[litS.v] 84 by rw [hw7, hbG]; exact heap_alloc_new _ _)
    have NG := Lib.hid (show ¬F5 bG ∧ w1.heap.size ≤ bG ∧ bX ≠ bG from ⟨fun hf => by have := H6.out.sys.lt bG hf; omega, by rw [hbG]; exact H6.out.bel.size, by have := X6.out.lt; omega⟩)
    have H7 := Lib.hid (show Live w1 w7 _ _ _ _ from ⟨H6.out.sys.but (but_below (T := fun _ => False) bw) (fun _ _ h => h), H6.out.new, H6.out.bel.trans (bw.mono H6.out.bel.size)⟩)
    have X7 := Lib.hid (X6.out.below bw)
    clear bw hw7 hbG
    go_simp
    refine hK.out _ _ ⟨X7.out.cell 1, X7.out.cell 2⟩ (fun hh => ?_)
    have HH' := Lib.hid hh
    clear hh hK K HH H6 X6
    have HH := Lib.hid HH'.out
    clear HH'
    try simp only [List.getElem_toArray, List.getElem_cons_succ, List.getElem_cons_zero, Act.put, List.setIfInBounds_toArray, List.set_cons_zero, List.set_cons_succ]
    refine wpAnyH_ready (rs := [7]) (by kernel_rfl) (by simp) (AllReadyH.cons rfl (fun K hK => ?_) AllReadyH.nil)
    go_simp
    have hsee := Mu.see_new N HN.out.2
    refine (lm_newB (G := gdS litS bG) (fun _ _ _ _ _ _ => trivial) (Mu.ld_new (g1 := g1) (g2 := g2) H7.out hsee.1 hsee.2) (fun y hy => by rw [show (gdS litS bG).l = [(bG, #[litS.v], 84)] from rfl, List.mem_singleton] at hy; subst hy; exact ⟨HBG.out, NG.out.1, NG.out.2.1⟩) (n := N) List.length_replicate List.length_replicate).mono ?_
    rintro e w8 ⟨g, s8, F8, rfl, h, hf, hb⟩
    have H8 := Lib.hid h
    have NX : ¬F5 bX ∧ bX ≠ bG := ⟨N5.out, NG.out.2.2⟩
    have hmem : ∀ k, (∃ y ∈ (gdS litS bG).l, k = y.1) → k = bG := fun k hk => by obtain ⟨y, hy, e⟩ := hk; rw [show (gdS litS bG).l = [(bG, #[litS.v], 84)] from rfl, List.mem_singleton] at hy; rw [e, hy]
    have X8 := Lib.hid (X7.out.but hb (fun hx => hx.elim NX.1 (fun h => NX.2 (hmem _ h))))
    have N8 := Lib.hid (show ¬F8 bX from fun hx => (hf bX hx).elim (fun hx => hx.elim NX.1 (fun h => NX.2 (hmem _ h))) (fun hx => by have := X7.out.lt; omega))
    clear h hf hb hsee NX hmem
    go_simp
    refine hK.out _ _ ⟨X8.out.cell 1, X8.out.cell 2⟩ (fun hh => ?_)
    have HH' := Lib.hid hh
    clear hh hK K HH H7 X7 HBG NG N5
    have HH := Lib.hid HH'.out
    clear HH'
    try simp only [List.getElem_toArray, List.getElem_cons_succ, List.getElem_cons_zero, Act.put, List.setIfInBounds_toArray, List.set_cons_zero, List.set_cons_succ]
    refine wpAnyH_take (i := 8) (v := ?vD8) rfl (by kernel_rfl) (by kernel_rfl) (by kernel_rfl) (fun _ _ _ h => h) (Or.inl ⟨by rfl, fun w' _ => ?yD8⟩) HH.out ?_
    case yD8 => (go_simp; try with_reducible rfl)
    try simp only [List.getElem_toArray, List.getElem_cons_succ, List.getElem_cons_zero, Act.put, List.setIfInBounds_toArray, List.set_cons_zero, List.set_cons_succ]
    refine wpAnyH_ready (rs := [9]) (by kernel_rfl) (by simp) (AllReadyH.cons rfl (fun K hK => ?_) AllReadyH.nil)
    have y1 := X8.out.cell 3
    have y2 := X8.out.free 3
    go_simp
    obtain ⟨w9, hv⟩ : ∃ W, W = World.setCell w8 ⟨bX, 3, none⟩ (.pointer (some ⟨g, 0, none⟩)) := ⟨_, rfl⟩
    rw [← hv]
    have hb : But (fun k => k = bX) w8 w9 := by rw [hv]; exact But.setCell (S := fun k => k = bX) (But.refl _) (Or.inl rfl) _
    have X9 := Lib.hid (show Blk w9 bX #[.pointer (some ⟨pw, 0, none⟩), .pointer (some ⟨g1, 0, none⟩), .pointer (some ⟨g2, 0, none⟩), .pointer (some ⟨g, 0, none⟩), .pointer none, .int .i64 (a : Int), .int .i64 (b : Int)] 34 by rw [hv]; exact heap_setCell_same _ _ _ _ _ _ X8.out)
    have H9 := Lib.hid (lm_box H8.out hb N8.out NF.out.2)
    clear hv hb y1 y2
    refine hK.out _ _ ⟨X9.out.cell 1, X9.out.cell 2⟩ (fun hh => ?_)
    clear hh hK K HH H8 X8
    try simp only [List.getElem_toArray, List.getElem_cons_succ, List.getElem_cons_zero, Act.put, List.setIfInBounds_toArray, List.set_cons_zero, List.set_cons_succ]
    refine wpAnyH_done (by kernel_rfl) ?_ _
    have c3 := X9.out.cell 3
    have c5 := X9.out.cell 5
    have c6 := X9.out.cell 6
    go_wp2_with fail
    refine (lgm_new H9.out a b HOK.out (by show 2 + a * b ≤ (List.replicate N false).length; rw [List.length_replicate, HN.out.1]; exact Nat.le_refl _)).mono ?_
    rintro e w10 ⟨q, F10, rfl, h, hf, bw⟩
    have H10 := Lib.hid h
    have X10 := Lib.hid (X9.out.below bw)
    have N10 := Lib.hid (show ¬F10 bX from fun hx => (hf bX hx).elim N8.out (fun h => by have := X9.out.lt; omega))
    clear h hf bw c3 c5 c6 H9 X9 N8
    have y1 := X10.out.cell 4
    have y2 := X10.out.free 4
    go_wp2_with (show wpList _ _ _ ({ dst := _, op := .load 34 (.tmp 6), type := _, pos := _, after := _, guard := _ } :: _) _ _
                 apply Classical.byContradiction
                 intro hneg)
    refine hneg ?_
    clear hneg
    obtain ⟨w11, hv⟩ : ∃ W, W = World.setCell w10 ⟨bX, 4, none⟩ (.pointer (some ⟨q, 0, none⟩)) := ⟨_, rfl⟩
    rw [← hv]
    have hb : But (fun k => k = bX) w10 w11 := by rw [hv]; exact But.setCell (S := fun k => k = bX) (But.refl _) (Or.inl rfl) _
    have X11 := Lib.hid (show Blk w11 bX (rigC pw g1 g2 g q a b) 34 by rw [hv]; exact heap_setCell_same _ _ _ _ _ _ X10.out)
    have H11 := Lib.hid (lgm_box H10.out hb N10.out NF.out.2)
    have R11 := Lib.hid (R1.out.below H11.out.live.bel)
    clear hv hb y1 y2 H10 X10
    refine wpList_load_row rfl 34 (.tmp 6) rfl bX rfl 34 (rigC pw g1 g2 g q a b) (0, 0) _ X11.out Tryz.underlying34 rfl rfl ?_
    go_wp2_with (show wpList _ _ _ ({ dst := _, op := .store 34 (.tmp 4) (.tmp 62), type := _, pos := _, after := _, guard := _ } :: _) _ _
                 apply Classical.byContradiction
                 intro hneg)
    refine hneg ?_
    clear hneg
    refine wpList_store_row rfl 34 (.tmp 4) (.tmp 62) rfl w.heap.size (rigC pw g1 g2 g q a b) rfl rfl 34 _ R11.out rfl rfl (by simp [rigC, Value.oneCell']) ?_
    go_wp2_with fail
    have hs1 : w.heap.size < w1.heap.size := R1.out.lt
    have hres := fun tm htm => results_ct8 (P := Tryz.prog) Tryz.results6 tm (w11.setRow w.heap.size (rigC pw g1 g2 g q a b)) w.heap.size 34 (rigC pw g1 g2 g q a b) _ htm (setRow_heap _ _ _ _ _ _ R11.out) Tryz.underlying34 rfl rfl
    refine bodyPost_ret (hres _ rfl) rfl ⟨pw, g1, g2, bG, g, q, s8, F10, rfl, ?_⟩
    have h := lgm_box (LgM.base H11.out BW1.out) (b := w.heap.size) (w' := w11.setRow w.heap.size (rigC pw g1 g2 g q a b)) (But.setRow (S := fun k => k = w.heap.size) (But.refl _) (Or.inl rfl) _) (fun hx => by have := H11.out.live.new _ hx; omega) (Nat.le_refl _)
    have e : (Sc.startM (zerosL (2 + a * b)) (zerosL (2 + a * b)) (2 + a * b)) = ⟨List.replicate N zeroS, List.replicate N zeroS, false, false, List.replicate N false, List.replicate N false⟩ := by rw [← HN.out.1]; rfl
    rw [e]
    exact h
end Go.Proofs.YtnplhagfmfggcaaGreat.Lo
/-
  A log whose power may fail, as it is laid: what each call makes of it.
-/
namespace Go.Proofs.YtnplhagfmfggcaaGreat.Lo
open Go.RowKit Kd Mi Sx Sg
section
variable {p g1 g2 g q : Nat} {G : Gd} {w0 w w' : World} {s s' : Mr (Mu.one p g1 g2)} {l l' : Lg} {F : Nat → Prop} {a b k k' : Nat} {v : Value} {e : Ending}
/-- A log, its mirror, their devices, all new behind w0, behind k acts. -/
structure TwL (p g1 g2 : Nat) (G : Gd) (g q : Nat) (w0 w : World) (s : Mr (Mu.one p g1 g2)) (l : Lg) (F : Nat → Prop) (a b k : Nat) : Prop where
  live : LiveA (LogL (Mu.one p g1 g2) G g q litS) w0 w (s, l) F
  tw : Tw s l a b k
/-- It returns v; s, l are they now. -/
def RetTw (v : Value) (p g1 g2 : Nat) (G : Gd) (g q : Nat) (w0 : World) (a b k : Nat) (F : Nat → Prop) (w : World) (e : Ending) (w' : World) : Prop :=
  e = .returned v ∧ ∃ (s : Mr (Mu.one p g1 g2)) (l : Lg) (F' : Nat → Prop), TwL p g1 g2 G g q w0 w' s l F' a b k ∧ Mv (LogL (Mu.one p g1 g2) G g q litS) w F w' (s, l) F'
theorem TwL.below (h : TwL p g1 g2 G g q w0 w s l F a b k) (hb : Below w.heap.size w w') : TwL p g1 g2 G g q w0 w' s l F a b k := ⟨h.live.below hb, h.tw⟩
theorem TwL.ret (h : TwL p g1 g2 G g q w0 w s l F a b k) (hr : RetA (LogL (Mu.one p g1 g2) G g q litS) v (s', l') F w e w') (ht : Tw s' l' a b k') : RetTw v p g1 g2 G g q w0 a b k' F w e w' := by
  obtain ⟨rfl, F', hm⟩ := hr
  exact ⟨rfl, s', l', F', ⟨h.live.step hm, ht⟩, hm⟩
theorem tl_append (h : TwL p g1 g2 G g q w0 w s l F a b k) (h0 : 0 < b) (hk : k < 1000) (A : Option Addr) (n c : Nat) (y : List UInt8) (hy : y.length = n) (hr : Rd w.heap.size w A (bv y)) :
    Calls Tryz.prog 17 #[.pointer (some ⟨q, 0, none⟩), .slice A n c] w (fun e w' => ∃ v1 v2, RetTw (.tuple #[.int .i64 v1, .int .i64 v2]) p g1 g2 G g q w0 a b (k + 1) F w e w') :=
  (append_any h.live.at_ h.tw.fine h.tw.ok (Nat.lt_of_le_of_lt h.tw.most (by omega)) (by have := h.tw.last; omega) A n c y hy hr).mono fun _ _ hr => ⟨_, _, h.ret hr (h.tw.append h0 y)⟩
theorem tl_flush (h : TwL p g1 g2 G g q w0 w s l F a b k) : Calls Tryz.prog 25 #[.pointer (some ⟨q, 0, none⟩)] w (fun e w' => ∃ v, RetTw (.int .i64 v) p g1 g2 G g q w0 a b k F w e w') :=
  (lflush_any h.live.at_).mono fun _ _ hr => ⟨_, h.ret hr h.tw.flush⟩
theorem tl_free (h : TwL p g1 g2 G g q w0 w s l F a b k) {x : Int} (h1 : -9223372036854775808 ≤ x) (h2 : x ≤ 9223372036854775807) : Calls Tryz.prog 24 #[.pointer (some ⟨q, 0, none⟩), .int .i64 x] w (fun e w' => ∃ v, RetTw (.int .i64 v) p g1 g2 G g q w0 a b k F w e w') :=
  (lfree_any h.live.at_ h1 h2).mono fun _ _ hr => ⟨_, h.ret hr (h.tw.free x)⟩
/-- The mirror that a log has. -/
theorem ll_ml (h : LiveA (LogL (Mu.one p g1 g2) G g q litS) w0 w (s, l) F) : ∃ F1, LiveA (ML (Mu.one p g1 g2) G g) w0 w s F1 ∧ (∀ j, F1 j → F j) ∧
    ∀ {v : Value} {e : Ending} {w' : World} {s' : Mr (Mu.one p g1 g2)}, RetA (ML (Mu.one p g1 g2) G g) v s' F1 w e w' → RetA (LogL (Mu.one p g1 g2) G g q litS) v (s', l) F w e w' := by
  obtain ⟨F1, F2, h1, h2, hd, hF⟩ := h.at_
  have h1 : (ML (Mu.one p g1 g2) G g).At w s F1 := h1
  have h2 : (OwnR g q litS).At w (rlOf l) F2 := h2
  refine ⟨F1, ⟨h1, fun k hk => h.new k ((hF k).2 (.inl hk)), h.bel⟩, fun k hk => (hF k).2 (.inl hk), ?_⟩
  rintro v e w' s' ⟨rfl, F', hmv⟩
  have hlt := (OwnR g q litS).lt h2
  have hd' : ∀ k, F' k → F2 k → False := fun k hk hk2 => by
    rcases hmv.new k hk with h3 | h3
    · exact hd k h3 hk2
    · have := hlt k hk2; omega
  have hv : Mv (LogL (Mu.one p g1 g2) G g q litS) w F w' (s', l) (fun k => F' k ∨ F2 k) :=
    ⟨⟨F', F2, hmv.at_, (OwnR g q litS).but h2 hmv.but (fun k hk hk1 => hd k hk1 hk), hd', fun k => Iff.rfl⟩, fun k hk => hk.elim (fun hk => (hmv.new k hk).imp (fun h => (hF k).2 (.inl h)) id) (fun hk => .inl ((hF k).2 (.inr hk))), hmv.but.mono (fun k hk => (hF k).2 (.inl hk))⟩
  exact ⟨rfl, _, hv⟩
theorem tl_sys (h : TwL p g1 g2 G g q w0 w s l F a b k) : ∃ F1, Kd.Sys w p [g1, g2] s.d F1 ∧
    ∀ {v : Value} {S : Sy} {e : Ending} {w' : World}, Tw (⟨S, s.a, s.b⟩ : Mr (Mu.one p g1 g2)) l a b k' → RetS v p [g1, g2] S F1 w e w' → RetTw v p g1 g2 G g q w0 a b k' F w e w' := by
  obtain ⟨F1, hml, _, hback⟩ := ll_ml h.live
  obtain ⟨F2, h1, h2, hl⟩ := Mu.ml_sys hml.at_
  exact ⟨F2, h1, fun ht hr => h.ret (hback (hl ht.pd.ds hr)) ht⟩
theorem tl_out0 (h : TwL p g1 g2 G g q w0 w s l F a b k) (on : Bool) : Calls Tryz.prog 26 #[.pointer (some ⟨g1, 0, none⟩), .bool on] w (RetTw (.tuple #[]) p g1 g2 G g q w0 a b k F w) := by
  obtain ⟨F1, h1, hl⟩ := tl_sys h
  exact (out_sys h1 0 (by rw [h.tw.pd.ds]; omega) on).mono fun _ _ hr => hl (h.tw.out (by omega) on) hr
theorem tl_out1 (h : TwL p g1 g2 G g q w0 w s l F a b k) (on : Bool) : Calls Tryz.prog 26 #[.pointer (some ⟨g2, 0, none⟩), .bool on] w (RetTw (.tuple #[]) p g1 g2 G g q w0 a b k F w) := by
  obtain ⟨F1, h1, hl⟩ := tl_sys h
  exact (out_sys h1 1 (by rw [h.tw.pd.ds]; omega) on).mono fun _ _ hr => hl (h.tw.out (by omega) on) hr
/-- Both come in, one behind the other. -/
theorem tl_in0 (h : TwL p g1 g2 G g q w0 w s l F a b k) : Calls Tryz.prog 26 #[.pointer (some ⟨g1, 0, none⟩), .bool false] w (fun e w' => e = .returned (.tuple #[]) ∧ ∃ (s1 : Mr (Mu.one p g1 g2)) (F' : Nat → Prop), TwL p g1 g2 G g q w0 w' s1 l F' a b k ∧ Mv (LogL (Mu.one p g1 g2) G g q litS) w F w' (s1, l) F' ∧ (s1.d.at 0).gone = false) := by
  obtain ⟨F1, hml, _, hback⟩ := ll_ml h.live
  obtain ⟨F2, h1, h2, hl⟩ := Mu.ml_sys hml.at_
  have ht := h.tw.out (i := 0) (by omega) false
  refine (out_sys h1 0 (by rw [h.tw.pd.ds]; omega) false).mono fun _ _ hr => ?_
  obtain ⟨rfl, F', hm⟩ := hback (hl ht.pd.ds hr)
  exact ⟨rfl, _, F', ⟨h.live.step hm, ht⟩, hm, (in_at h2 (i := 0) (by omega) 0).trans (if_pos rfl)⟩
theorem tl_in1 (h : TwL p g1 g2 G g q w0 w s l F a b k) (h0 : (s.d.at 0).gone = false) : Calls Tryz.prog 26 #[.pointer (some ⟨g2, 0, none⟩), .bool false] w (fun e w' => e = .returned (.tuple #[]) ∧ ∃ (s1 : Mr (Mu.one p g1 g2)) (F' : Nat → Prop), TwL p g1 g2 G g q w0 w' s1 l F' a b k ∧ Mv (LogL (Mu.one p g1 g2) G g q litS) w F w' (s1, l) F' ∧ ∀ i, i < 2 → (s1.d.at i).gone = false) := by
  obtain ⟨F1, hml, _, hback⟩ := ll_ml h.live
  obtain ⟨F2, h1, h2, hl⟩ := Mu.ml_sys hml.at_
  have ht := h.tw.out (i := 1) (by omega) false
  refine (out_sys h1 1 (by rw [h.tw.pd.ds]; omega) false).mono fun _ _ hr => ?_
  obtain ⟨rfl, F', hm⟩ := hback (hl ht.pd.ds hr)
  refine ⟨rfl, _, F', ⟨h.live.step hm, ht⟩, hm, fun i hi => ?_⟩
  refine (in_at h2 (i := 1) (by omega) i).trans ?_
  rcases (show i = 0 ∨ i = 1 by omega) with rfl | rfl
  · rw [if_neg (by omega)]; exact h0
  · rw [if_pos rfl]
theorem tl_tear0 (h : TwL p g1 g2 G g q w0 w s l F a b k) (x y : Int) : Calls Tryz.prog 7 #[.pointer (some ⟨g1, 0, none⟩), .int .i64 x, .int .i64 y] w (RetTw (.tuple #[]) p g1 g2 G g q w0 a b k F w) := by
  obtain ⟨F1, h1, hl⟩ := tl_sys h
  exact (tear_sys h1 0 (by rw [h.tw.pd.ds]; omega) x y).mono fun _ _ hr => hl (h.tw.tear (by omega) x y) hr
theorem tl_tear1 (h : TwL p g1 g2 G g q w0 w s l F a b k) (x y : Int) : Calls Tryz.prog 7 #[.pointer (some ⟨g2, 0, none⟩), .int .i64 x, .int .i64 y] w (RetTw (.tuple #[]) p g1 g2 G g q w0 a b k F w) := by
  obtain ⟨F1, h1, hl⟩ := tl_sys h
  exact (tear_sys h1 1 (by rw [h.tw.pd.ds]; omega) x y).mono fun _ _ hr => hl (h.tw.tear (by omega) x y) hr
theorem tl_fail (h : TwL p g1 g2 G g q w0 w s l F a b k) (x : Int) (hx : x ≤ 9223372036854775807) : Calls Tryz.prog 8 #[.pointer (some ⟨p, 0, none⟩), .int .i64 x] w (RetTw (.tuple #[]) p g1 g2 G g q w0 a b k F w) := by
  obtain ⟨F1, h1, hl⟩ := tl_sys h
  exact (fail_sys h1 x hx).mono fun _ _ hr => hl (h.tw.fail x) hr
/-- The devices that a log has. -/
theorem tl_devs (h : TwL p g1 g2 G g q w0 w s l F a b k) : ∃ F1, Live w0 w p [g1, g2] s.d F1 ∧ ∀ j, F1 j → F j := by
  obtain ⟨F1, hml, hs, _⟩ := ll_ml h.live
  obtain ⟨A, n, c, B, m, e, F2, hr, h1, _⟩ := hml.at_
  exact ⟨F2, ⟨hr.d.1, fun j hj => h.live.new j (hs j (h1 j (.inr (.inr (.inr (.inl hj)))))), h.live.bel⟩, fun j hj => hs j (h1 j (.inr (.inr (.inr (.inl hj)))))⟩
/-- A new one, power on. -/
theorem tw_new (h : LgM p g1 g2 G g q w0 w s (Lg.new a b) F (Sc.startM (zerosL (2 + a * b)) (zerosL (2 + a * b)) (2 + a * b)) 0) : TwL p g1 g2 G g q w0 w s (Lg.new a b) F a b 0 := by
  have hx := h.sees

  have hD : ∀ i, i < 2 → Dk s.d.p.off (2 + a * b) (2 * 0) (s.d.at i) := fun i hi => by
    rcases (show i = 0 ∨ i = 1 by omega) with rfl | rfl
    · exact ⟨hx.d0.len.trans List.length_replicate, hx.d0.lies, hx.d0.few, fun _ => hx.d0.dry, fun _ => hx.d0.dry⟩
    · exact ⟨hx.d1.len.trans List.length_replicate, hx.d1.lies, hx.d1.few, fun _ => hx.d1.dry, fun _ => hx.d1.dry⟩
  exact ⟨h.live, ⟨hx.d0.ds, hD⟩, ⟨by rw [hx.a]; exact List.length_replicate, by rw [hx.b]; exact List.length_replicate⟩, Lg.new_fine a b, Nat.zero_le _, rfl, List.length_replicate⟩
end
end Go.Proofs.YtnplhagfmfggcaaGreat.Lo
/-
  Noughts are no sealed sector of a small place, under the little sum.
-/
namespace Go.Proofs.YtnplhagfmfggcaaGreat.Lo
open Go.RowKit Kd Sx
def zeroB (k : Nat) : Bool := decide (sealedS litSumL (k : Int) (genS zeroS) (bodyS zeroS) = zeroS)
theorem zero_all : (List.range 26).all (fun k => !zeroB k) = true := by decide +kernel
theorem zero_no {k : Nat} (hk : k < 26) : okS litSumL (k : Int) zeroS = false := by
  have h := List.all_eq_true.1 zero_all k (List.mem_range.2 hk)
  have h2 : zeroB k = false := by simpa using h
  rw [okS]
  rw [show decide (sealedS litSumL (k : Int) (genS zeroS) (bodyS zeroS) = zeroS) = false from h2, Bool.and_false, Bool.and_false]
end Go.Proofs.YtnplhagfmfggcaaGreat.Lo
/-
  A log no segment of which was freed, on two devices that are both in and alike: what stands is all that was appended.
-/
namespace Go.Proofs.YtnplhagfmfggcaaGreat.Lo
open Go.RowKit Kd Mi Sx
theorem one_write {L M : List (List UInt8)} {n j : Nat} (hj : j < n) (y : List UInt8) : (Sc.startM L M n).write j y = (0, Sc.startM (L.set j y) (M.set j y) n) := by
  have hh : (Sc.startM L M n).has (j : Int) = true := by rw [Md.has, Sc.start_len]; simp; omega
  have hr : (List.replicate n false).set j false = List.replicate n false := by
    apply List.ext_getElem
    · simp
    · intro i h1 h2
      rw [List.getElem_set]
      simp
  rw [Md.write, hh, if_pos rfl, if_neg (by show ¬ (false && false) = true; simp), Int.toNat_natCast]
  show ((0 : Int), (⟨L.set j y, M.set j y, false, false, (List.replicate n false).set j false, (List.replicate n false).set j false⟩ : Md)) = _
  rw [hr]; rfl
theorem one_read {L : List (List UInt8)} {n k : Nat} {f : Int → List UInt8 → Bool} (hk : k < n) : (Sc.startM L L n).read f (k : Int) = if f (k : Int) (L.getD k zeroS) then (L.getD k zeroS, 0) else (zeroS, 9) := by
  obtain ⟨y, hy⟩ : ∃ y, y = L.getD k zeroS := ⟨_, rfl⟩
  rw [← hy]
  have hh : (Sc.startM L L n).has (k : Int) = true := by rw [Md.has, Sc.start_len]; simp; omega
  have h0 : (Sc.startM L L n).right f 0 k = f (k : Int) y := by
    rw [Md.right]
    show (!((List.replicate n false).getD k false) && (!false && f (k : Int) (L.getD k zeroS))) = _
    rw [← hy, show (List.replicate n false).getD k false = false by rw [List.getD_eq_getElem?_getD, List.getElem?_replicate]; split <;> rfl]; rfl
  have h1 : (Sc.startM L L n).right f 1 k = f (k : Int) y := by
    rw [Md.right]
    show (!((List.replicate n false).getD k false) && (!false && f (k : Int) (L.getD k zeroS))) = _
    rw [← hy, show (List.replicate n false).getD k false = false by rw [List.getD_eq_getElem?_getD, List.getElem?_replicate]; split <;> rfl]; rfl
  rw [Md.read, hh, if_pos rfl, Int.toNat_natCast, h0, h1]
  show (if f (k : Int) y = true then (L.getD k zeroS, (0 : Int)) else if f (k : Int) y = true then (L.getD k zeroS, 0) else (zeroS, if (false && false) = true then 13 else 9)) = _
  rw [← hy]
  cases f (k : Int) y <;> rfl
/-- What Read tells of one list. -/
theorem one_readX {L : List (List UInt8)} {n k b : Nat} {l : Lg} (hk : k < n) :
    readX (gdS litS b) (Sc.startM L L n) l (k : Int) = (if 2 ≤ k ∧ k < 2 + l.gens.length * l.size ∧ l.gens.getD ((k - 2) / l.size) 0 ≠ 0 then
      (match seenA litSumL L k with
        | some p => if p.1 = l.gens.getD ((k - 2) / l.size) 0 then (p.2, 0) else ([], 9)
        | none => ([], 9)) else ([], 2) : List UInt8 × Int) := by
  have hr := one_read (L := L) (n := n) (f := (gdS litS b).f) hk
  obtain ⟨r, hr'⟩ : ∃ r, r = (Sc.startM L L n).read (gdS litS b).f (k : Int) := ⟨_, rfl⟩
  rw [← hr'] at hr
  rw [readX, ← hr', Int.toNat_natCast]
  by_cases hc : 2 ≤ k ∧ k < 2 + l.gens.length * l.size ∧ l.gens.getD ((k - 2) / l.size) 0 ≠ 0
  · have hz : (k : Int) < 2 + (l.gens.length : Int) * (l.size : Int) := by
      have := hc.2.1
      have e : ((l.gens.length * l.size : Nat) : Int) = (l.gens.length : Int) * (l.size : Int) := Int.natCast_mul _ _
      omega
    rw [if_pos ⟨by omega, hz, hc.2.2⟩, if_pos hc]
    by_cases ho : okS litSumL (k : Int) (L.getD k zeroS) = true
    · have e : r = (L.getD k zeroS, 0) := by rw [hr]; exact if_pos ho
      rw [seenA, if_pos ho, e, if_pos rfl]
      show (if okS litSumL (k : Int) (L.getD k zeroS) = true ∧ genS (L.getD k zeroS) = l.gens.getD ((k - 2) / l.size) 0 then (bodyS (L.getD k zeroS), (0 : Int)) else ([], 9)) = (if genS (L.getD k zeroS) = l.gens.getD ((k - 2) / l.size) 0 then (bodyS (L.getD k zeroS), (0 : Int)) else ([], 9))
      by_cases hg : genS (L.getD k zeroS) = l.gens.getD ((k - 2) / l.size) 0
      · rw [if_pos ⟨ho, hg⟩, if_pos hg]
      · rw [if_neg (fun h => hg h.2), if_neg hg]
    · have e : r = (zeroS, 9) := by rw [hr]; exact if_neg ho
      rw [seenA, if_neg ho, e, if_neg (show ¬(9 : Int) = 0 by omega)]
  · have hz : ¬(2 ≤ (k : Int) ∧ (k : Int) < 2 + (l.gens.length : Int) * (l.size : Int) ∧ l.gens.getD ((k - 2) / l.size) 0 ≠ 0) := fun h => hc ⟨by omega, by
      have := h.2.1
      have e : ((l.gens.length * l.size : Nat) : Int) = (l.gens.length : Int) * (l.size : Int) := Int.natCast_mul _ _
      omega, h.2.2⟩
    rw [if_neg hz, if_neg hc]
section
variable {p g1 g2 bx g q : Nat} {w0 w w' : World} {s s' : Mr (Mu.one p g1 g2)} {F : Nat → Prop} {size segs m : Nat} {L all : List (List UInt8)}
/-- A log to which all was appended, no segment of which was freed. -/
structure LgA (p g1 g2 bx g q : Nat) (w0 w : World) (s : Mr (Mu.one p g1 g2)) (F : Nat → Prop) (size segs : Nat) (L all : List (List UInt8)) (m : Nat) : Prop where
  lg : LgM p g1 g2 (gdS litS bx) g q w0 w s (lgT size segs all.length) F (Sc.startM L L (2 + segs * size)) m
  len : L.length = 2 + segs * size
  has : hasT litSumL size (segs * size) L all
  ok : Sg.okS (segs : Int) (size : Int)
  le : all.length ≤ segs * size
  small : segs * size < 2000
def RetLA (v : Value) (p g1 g2 bx g q : Nat) (w0 : World) (size segs : Nat) (all : List (List UInt8)) (m : Nat) (F : Nat → Prop) (w : World) (e : Ending) (w' : World) : Prop :=
  e = .returned v ∧ ∃ (s : Mr (Mu.one p g1 g2)) (F' : Nat → Prop) (L : List (List UInt8)), LgA p g1 g2 bx g q w0 w' s F' size segs L all m ∧ Mv (LogL (Mu.one p g1 g2) (gdS litS bx) g q litS) w F w' (s, lgT size segs all.length) F'
theorem LgA.below (h : LgA p g1 g2 bx g q w0 w s F size segs L all m) (hb : Below w.heap.size w w') : LgA p g1 g2 bx g q w0 w' s F size segs L all m := ⟨h.lg.below hb, h.len, h.has, h.ok, h.le, h.small⟩
theorem LgA.more (h : LgA p g1 g2 bx g q w0 w s F size segs L all m) {m' : Nat} (hm : m ≤ m') : LgA p g1 g2 bx g q w0 w s F size segs L all m' := ⟨h.lg.more hm, h.len, h.has, h.ok, h.le, h.small⟩
theorem LgA.pos (h : LgA p g1 g2 bx g q w0 w s F size segs L all m) : 0 < size ∧ 0 < segs := by have := h.ok; unfold Sg.okS at this; omega
theorem lgTlast (size segs T : Nat) : (lgT size segs T).last ≤ T + 1 := by
  have h := (last_Q (size := size) (segs := segs) (q := T / size) (r := T % size)).1
  have h2 : T / size ≤ T := Nat.div_le_self _ _
  show (lgQ size segs (T / size) (T % size)).last ≤ T + 1
  omega
/-- One more. -/
theorem lga_append (h : LgA p g1 g2 bx g q w0 w s F size segs L all m) (hT : all.length < segs * size) (hm : m < 900000) (A : Option Addr) (n c : Nat) (b : List UInt8) (hb : b.length = n) (hb3 : n ≤ 103) (hr : Rd w.heap.size w A (bv b)) :
    Calls Tryz.prog 17 #[.pointer (some ⟨q, 0, none⟩), .slice A n c] w (RetLA (.tuple #[.int .i64 ((2 + all.length : Nat) : Int), .int .i64 0]) p g1 g2 bx g q w0 size segs (all ++ [b]) (m + 2) F w) := by
  have hp := h.pos.1
  have hl := lgTlast size segs all.length
  have hs := h.small
  have hat : (lgT size segs all.length).at_ (all.length / size, all.length % size, all.length / size + 1) = 2 + all.length := at_T
  have hw := one_write (L := L) (M := L) (n := 2 + segs * size) (j := 2 + all.length) (by omega) (sealedS litS.f ((2 + all.length : Nat) : Int) (all.length / size + 1) b)
  have hc := lgm_append h.lg hm (by omega) hp (next_T hp hT) A n c b hb hb3 hr (by rw [hat, hw])
  rw [hat, hw, put_T hp] at hc
  refine hc.mono ?_
  rintro e w' ⟨rfl, s', F', hlg, hmv⟩
  have e : (all ++ [b]).length = all.length + 1 := by simp
  refine ⟨rfl, s', F', _, ⟨by rw [e]; exact hlg, by rw [List.length_set]; exact h.len, hasTsnoc litSumL_length h.has (by omega) hT (by rw [h.len]; omega) (by omega), h.ok, by rw [e]; omega, hs⟩, by rw [e]; exact hmv⟩
theorem lga_full (h : LgA p g1 g2 bx g q w0 w s F size segs L all m) (hT : all.length = segs * size) (hm : m < 900000) (A : Option Addr) (n c : Nat) (b : List UInt8) (hb : b.length = n) (hb3 : n ≤ 103) (hr : Rd w.heap.size w A (bv b)) :
    Calls Tryz.prog 17 #[.pointer (some ⟨q, 0, none⟩), .slice A n c] w (RetLA (.tuple #[.int .i64 0, .int .i64 6]) p g1 g2 bx g q w0 size segs all m F w) := by
  have hl := lgTlast size segs all.length
  have hs := h.small
  have hc := lgm_append_full h.lg hm (by omega) (by rw [hT]; exact next_full h.pos.1) A n c b hb hb3 hr
  refine hc.mono ?_
  rintro e w' ⟨rfl, s', F', hlg, hmv⟩
  exact ⟨rfl, s', F', L, ⟨hlg, h.len, h.has, h.ok, h.le, h.small⟩, hmv⟩
theorem lga_flush (h : LgA p g1 g2 bx g q w0 w s F size segs L all m) : Calls Tryz.prog 25 #[.pointer (some ⟨q, 0, none⟩)] w (RetLA (.int .i64 0) p g1 g2 bx g q w0 size segs all 0 F w) := by
  refine (lgm_flush h.lg).mono ?_
  rintro e w' ⟨rfl, s', F', hlg, hmv⟩
  exact ⟨rfl, s', F', L, ⟨hlg, h.len, h.has, h.ok, h.le, h.small⟩, hmv⟩
/-- What was appended is read. -/
theorem lga_read (h : LgA p g1 g2 bx g q w0 w s F size segs L all m) {t : Nat} (ht : t < all.length) :
    Calls Tryz.prog 18 #[.pointer (some ⟨q, 0, none⟩), .int .i64 ((2 + t : Nat) : Int)] w (fun e w' => ∃ A n c F', e = .returned (.tuple #[.slice A n c, .int .i64 0]) ∧ w'.ownsRow w.heap.size 5 1 (.slice A n c) n (bv (all.getD t [])) ∧
      LgA p g1 g2 bx g q w0 w' s F' size segs L all m ∧ Mv (LogL (Mu.one p g1 g2) (gdS litS bx) g q litS) w F w' (s, lgT size segs all.length) F' ∧ ∀ j, (Value.slice A n c).ownBlock = some j → ¬F' j) := by
  have hp := h.pos.1
  have hle := h.le
  have hq : t / size < segs := (div_lt_segs hp).2 (by omega)
  have hg : (lgT size segs all.length).gens.getD (t / size) 0 = t / size + 1 := by
    have h1 : t / size < all.length / size ∨ (t / size = all.length / size ∧ 0 < all.length % size) := by
      rcases Nat.lt_or_ge (t / size) (all.length / size) with h1 | h1
      · exact .inl h1
      · have h2 : t / size ≤ all.length / size := Nat.div_le_div_right (by omega)
        refine .inr ⟨by omega, ?_⟩
        have h3 := Nat.div_add_mod all.length size
        have h4 := Nat.div_add_mod t size
        have h5 : t / size = all.length / size := by omega
        rw [h5] at h4
        omega
    simp only [lgT, lgQ, List.getD_eq_getElem?_getD, List.getElem?_map, List.getElem?_range hq, Option.map_some, Option.getD_some]
    rw [if_pos h1]
  have hgl : (lgT size segs all.length).gens.length = segs := by simp [lgT, lgQ]
  have e : readX (gdS litS bx) (Sc.startM L L (2 + segs * size)) (lgT size segs all.length) ((2 + t : Nat) : Int) = (all.getD t [], 0) := by
    have hsz : (lgT size segs all.length).size = size := rfl
    rw [one_readX (by omega), hgl, hsz, show 2 + t - 2 = t by omega, hg, if_pos ⟨by omega, by omega, Nat.succ_ne_zero _⟩, Nat.add_comm 2 t, h.has t (by omega), if_pos ht]
    show (if t / size + 1 = t / size + 1 then (all.getD t [], (0 : Int)) else ([], 9)) = _
    rw [if_pos rfl]
  have hc := lgm_read h.lg ((2 + t : Nat) : Int)
  rw [e] at hc
  refine hc.mono ?_
  rintro e w' ⟨A, n, c, F', rfl, ho, hlg, hmv, hd⟩
  exact ⟨A, n, c, F', rfl, ho, ⟨hlg, h.len, h.has, h.ok, h.le, h.small⟩, hmv, hd⟩
theorem made_lga {a b : Nat} (hab : a * b < 24 + 1) (hok : Sg.okS (a : Int) (b : Int)) (h : LgM p g1 g2 (gdS litS bx) g q w0 w s (Lg.new a b) F (Sc.startM (zerosL (2 + a * b)) (zerosL (2 + a * b)) (2 + a * b)) m) : LgA p g1 g2 bx g q w0 w s F b a (zerosL (2 + a * b)) [] m :=
  ⟨by rw [List.length_nil, lgTzero]; exact h, by simp [zerosL], hasTzero (fun k hk => zero_no (by omega)), hok, Nat.zero_le _, by omega⟩
end
end Go.Proofs.YtnplhagfmfggcaaGreat.Lo
/-
  string(b) of a row of bytes, nil let in.
-/
namespace Go.Proofs.YtnplhagfmfggcaaGreat
open Go.RowKit
theorem conv_rd {P : Program} {w : World} {src dst e : TypeId} {B n c : Nat} {A : Option Addr} {l : List UInt8} (hs : P.underlying src = some (.slice e)) (he : P.underlying e = some (.int .u8)) (hd : P.underlying dst = some .string)
    (h : Rd B w A (bv l)) (hn : l.length = n) : (convert src dst (.slice A n c)).run P w = .ok (.string ⟨l.toArray⟩) w := by
  subst hn
  cases A with
  | some ad => exact run_convert_bytes_back w src dst e ad c l hs he hd (fun j hj => by
      obtain ⟨ad', e', _, hc⟩ := h.at_ hj
      injection e' with e'
      subst e'
      exact hc)
  | none =>
    have hl : l = [] := by
      cases l with
      | nil => rfl
      | cons b t => obtain ⟨_, h', _⟩ := h 0 _ rfl; cases h'
    subst hl
    show (convert src dst (.slice none 0 c)).run P w = _
    rw [run_convert_bytes_string w src dst e none 0 c hs he hd]
    trace_state
    rfl
end Go.Proofs.YtnplhagfmfggcaaGreat
/-
  The document's example comes out true.
-/
namespace Go.Proofs.YtnplhagfmfggcaaGreat.Lo
open Go.RowKit Kd Mi Sx
attribute [local go_sem ↓] Go.wp_at_zero Go.wp_at_succ
theorem LgA.box {p g1 g2 bx g q : Nat} {w0 w w' : World} {s : Mr (Mu.one p g1 g2)} {F : Nat → Prop} {size segs m b : Nat} {L all : List (List UInt8)} (h : LgA p g1 g2 bx g q w0 w s F size segs L all m) (hb : But (fun k => k = b) w w') (hF : ¬F b) (hw : w0.heap.size ≤ b) : LgA p g1 g2 bx g q w0 w' s F size segs L all m :=
  ⟨lgm_box h.lg hb hF hw, h.len, h.has, h.ok, h.le, h.small⟩
/-- A box beside a log. -/
def Bz (w0 w : World) (F : Nat → Prop) (b : Nat) (cs : Array Value) (t : TypeId) : Prop := Blk w b cs t ∧ w0.heap.size ≤ b ∧ ¬F b
theorem Bz.step {w0 w w' : World} {F F' : Nat → Prop} {b : Nat} {cs : Array Value} {t : TypeId} {La : Laid} {x : La.St} (h : Bz w0 w F b cs t) (m : Mv La w F w' x F') : Bz w0 w' F' b cs t :=
  ⟨h.1.but m.but h.2.2, h.2.1, fun hf => (m.new b hf).elim h.2.2 (fun h1 => by have := h.1.lt; omega)⟩
theorem Bz.below {w0 w w' : World} {F : Nat → Prop} {b : Nat} {cs : Array Value} {t : TypeId} (h : Bz w0 w F b cs t) (hb : Below w.heap.size w w') : Bz w0 w' F b cs t := ⟨h.1.below hb, h.2⟩
theorem rd_marked (w : World) (C : List Value) (e : TypeId) (fr : Nat × Nat) : Rd (w.alloc (.cells C.toArray e fr)).heap.size (w.alloc (.cells C.toArray e fr)) (some ⟨w.heap.size, 0, none⟩) C := fun k u hu => by
  refine ⟨_, rfl, by simp, ?_⟩
  have h : (w.alloc (.cells C.toArray e fr)).heap[w.heap.size]? = some (.cells C.toArray e fr) := heap_alloc_new w _
  rw [add_head]
  unfold World.cell?
  rw [h]
  simpa using hu
def awAt (j : Nat) : Int := if j = 0 then 0 else 1 + j
set_option maxRecDepth 100000 in
set_option maxHeartbeats 6400000 in
theorem awake_any (w : World) : Calls Tryz.prog 4 #[] w (RetB (.bool true) w) := by
  go_enter Tryz.func4, Tryz.ntmps4
  go_wp2_with fail
  refine (made_any 1 1 (by omega) (by omega) 4 2 (by decide) (by decide) _).mono ?_
  rintro e w1 ⟨p, g1, g2, bx, g, q, s1, F1, rfl, h⟩
  have H1 := Lib.hid (made_lga (by decide) (by decide) h)
  clear h
  unfold rigC
  go_wp2_with fail
  obtain ⟨RC, hRC⟩ : ∃ RC, RC = #[Value.pointer (some ⟨p, 0, none⟩), Value.pointer (some ⟨g1, 0, none⟩), Value.pointer (some ⟨g2, 0, none⟩), Value.pointer (some ⟨g, 0, none⟩), Value.pointer (some ⟨q, 0, none⟩), Value.int .i64 4, Value.int .i64 2] := ⟨_, rfl⟩
  have HRC := Lib.hid (show RC[4]? = some (Value.pointer (some ⟨q, 0, none⟩)) by rw [hRC]; rfl)
  obtain ⟨bX, hbX⟩ : ∃ v, v = w1.heap.size := ⟨_, rfl⟩
  obtain ⟨w2, hw2⟩ : ∃ v, v = w1.alloc (.cells RC 34) := ⟨_, rfl⟩
  have bw : Below w1.heap.size w1 w2 := by rw [hw2]; exact (Below.refl _ _).alloc (Nat.le_refl _) _
  have H2 := Lib.hid (H1.out.below bw)
  have X2 := Lib.hid (show Bz w w2 F1 bX RC 34 from ⟨by rw [hw2, hbX]; exact heap_alloc_new _ _, by rw [hbX]; exact H1.out.lg.live.bel.size, fun hf => by have := (LogL _ _ _ _ _).lt H1.out.lg.live.at_ bX hf; omega⟩)
  rw [← hRC, ← hw2, ← hbX]
  clear bw hw2 hbX H1 hRC
  go_loopw [3, 16] (fun a i wr => ∃ (j : Nat) (s : Mr (Mu.one p g1 g2)) (F : Nat → Prop) (L : List (List UInt8)), j ≤ 3 ∧ i = .int .i64 j ∧ a = .int .i64 (awAt j) ∧ LgA p g1 g2 bx g q w wr s F 2 4 L (List.replicate j [97]) (2 * j) ∧ Bz w wr F bX RC 34) (fun _ i _ => 3 - (intOf i).toNat)
  case atStart => exact ⟨0, _, _, _, by omega, rfl, rfl, H2.out, X2.out⟩
  case round =>
    clear H2 X2
    obtain ⟨j, s, F, L, hj, rfl, rfl, hlg, hx⟩ := hrel
    have H := Lib.hid hlg
    have X := Lib.hid hx
    clear hlg hx
    have c4 := (X.out.1.cell 4).trans HRC.out
    by_cases hlt : j < 3
    · have h0 : (j : Int) < 3 := by omega
      obtain ⟨av, hav⟩ : ∃ av : Int, av = awAt j := ⟨_, rfl⟩
      rw [← hav]
      clear hav
      have hcv := Go.Lib.run_convert_bytes_const wr 55 5 #[.int .u8 97] 1 1 Tryz.underlying55 Tryz.underlying5
      have FR := Lib.hid (show Rd _ _ _ (bv [97]) from rd_marked wr [Value.int .u8 97] 5 (1, 2))
      have FB := Lib.hid ((Below.refl wr.heap.size wr).alloc (Nat.le_refl _) (.cells #[.int .u8 97] 5 (1, 2)))
      have HT := Lib.hid (show (List.replicate j [(97 : UInt8)]).length < 4 * 2 ∧ 2 * j < 900000 by rw [List.length_replicate]; omega)
      go_wp2_with fail
      refine (lga_append (H.out.below FB.out) HT.out.1 HT.out.2 _ 1 _ [97] rfl (by omega) FR.out).mono ?_
      rintro e w5 ⟨rfl, s5, F5, L5, hlg, hmv⟩
      have H5 := Lib.hid hlg
      have X5 := Lib.hid ((X.out.below FB.out).step hmv)
      clear hlg hmv H X FR FB c4 hcv
      have e5 : ((2 + (List.replicate j [(97 : UInt8)]).length : Nat) : Int) = (j : Int) + 2 := by rw [List.length_replicate]; omega
      rw [e5]
      go_wp2_with fail
      go_roundw
      case rel => exact ⟨j + 1, s5, F5, L5, by omega, by go_num, int_eq (by rw [awAt, if_neg (by omega)]; omega), by
        have h := H5.out
        rw [show List.replicate j [(97 : UInt8)] ++ [[97]] = List.replicate (j + 1) [97] from List.replicate_succ'.symm] at h
        exact h, X5.out⟩
      case measure => simp [intOf]; omega
    · obtain rfl : j = 3 := by omega
      rw [show awAt 3 = 4 from rfl]
      go_wp2_with fail
      have hc := lgm_head H.out.lg
      rw [show (lgT 2 4 (List.replicate 3 [(97 : UInt8)]).length).headI = 1 by decide, show (lgT 2 4 (List.replicate 3 [(97 : UInt8)]).length).slotI = 1 by decide] at hc
      refine hc.mono ?_
      clear hc
      rintro e w3 ⟨rfl, bw⟩
      have H3 := Lib.hid (H.out.below bw)
      have X3 := Lib.hid (X.out.below bw)
      clear bw H X c4
      have c4 := (X3.out.1.cell 4).trans HRC.out
      go_wp2_with fail
      refine (lga_read H3.out (t := 2) (by decide)).mono ?_
      rintro e w4 ⟨A, n, c, F4, rfl, ho, hlg, hmv, hdj⟩
      have H4 := Lib.hid hlg
      have X4 := Lib.hid (X3.out.step hmv)
      have O4 := Lib.hid (show w4.ownsRow w3.heap.size 5 1 (.slice A n c) n (bv [97]) from ho)
      clear hlg hmv hdj ho H3 X3 c4
      have c4 := (X4.out.1.cell 4).trans HRC.out
      obtain ⟨Z, hZ⟩ : ∃ Z : ByteArray, Z = ⟨#[97]⟩ := ⟨_, rfl⟩
      have HZ := Lib.hid hZ
      clear hZ
      go_wp2_with fail
      refine (show Calls Tryz.prog 19 #[.pointer (some ⟨q, 0, none⟩), .int .i64 0] w4 (RetB (.int .u64 1) w4) from lgm_gen H4.out.lg 0 (by omega) (by omega)).mono ?_
      rintro e w5 ⟨rfl, bw⟩
      have H5 := Lib.hid (H4.out.below bw)
      have X5 := Lib.hid (X4.out.below bw)
      have O5 := Lib.hid (own_below O4.out bw)
      clear bw H4 X4 O4 c4
      have c4 := (X5.out.1.cell 4).trans HRC.out
      go_wp2_with fail
      refine (show Calls Tryz.prog 19 #[.pointer (some ⟨q, 0, none⟩), .int .i64 1] w5 (RetB (.int .u64 2) w5) from lgm_gen H5.out.lg 1 (by omega) (by omega)).mono ?_
      rintro e w6 ⟨rfl, bw⟩
      have H6 := Lib.hid (H5.out.below bw)
      have X6 := Lib.hid (X5.out.below bw)
      have O6 := Lib.hid (own_below O5.out bw)
      clear bw H5 X5 O5 c4
      have c4 := (X6.out.1.cell 4).trans HRC.out
      go_wp2_with fail
      refine (show Calls Tryz.prog 19 #[.pointer (some ⟨q, 0, none⟩), .int .i64 2] w6 (RetB (.int .u64 0) w6) from lgm_gen H6.out.lg 2 (by omega) (by omega)).mono ?_
      rintro e w7 ⟨rfl, bw⟩
      have H7 := Lib.hid (H6.out.below bw)
      have X7 := Lib.hid (X6.out.below bw)
      have O7 := Lib.hid (own_below O6.out bw)
      clear bw H6 X6 O6 c4
      have c4 := (X7.out.1.cell 4).trans HRC.out
      go_wp2_with fail
      refine (show Calls Tryz.prog 15 #[.pointer (some ⟨q, 0, none⟩)] w7 (RetB (.int .i64 5) w7) from lgm_room H7.out.lg).mono ?_
      rintro e w8 ⟨rfl, bw⟩
      have H8 := Lib.hid (H7.out.below bw)
      have X8 := Lib.hid (X7.out.below bw)
      have O8 := Lib.hid (own_below O7.out bw)
      clear bw H7 X7 O7 c4
      have c4 := (X8.out.1.cell 4).trans HRC.out
      have hn : 1 = n := by have := O8.out.1; simp [bv] at this; exact this
      have kc := conv_rd (c := c) Tryz.underlying55 Tryz.underlying5 Tryz.underlying9 (Rd.own (n := n) (c := c) O8.out) hn
      rw [show (⟨[(97 : UInt8)].toArray⟩ : ByteArray) = Z from HZ.out.symm] at kc
      have hz : (Z.toList == [97]) = true := by rw [HZ.out, ByteArray.toList_eq]; decide
      go_wp2_with fail
      go_ret
      exact ⟨rfl, H8.out.lg.live.bel⟩
end Go.Proofs.YtnplhagfmfggcaaGreat.Lo
/-
  How an array of numbers that came in by value is opened: its numbers, as a list.
-/
namespace Go.Proofs.YtnplhagfmfggcaaGreat
open Go.RowKit Go.ChangeShapes Go.WideShapes

section
variable {H : Type} {enc : TypeId × Value → H} {P : Program} {w : World} {r : Reach} {b0 base : Nat} {spare : Nat → Bool} {held : Bool}

theorem open_arr {t e n : Nat} {k : IntKind} {v : Value} {d : DataW H} {ps : List MemPlace} (ht : P.underlying t = some (.array n e)) (he : P.underlying e = some (.int k)) (hc : P.cellsOf e = 1) (hn : P.cellsOf t = n)
    (hval : Value.okWide P w r b0 t v) (h : DataW.Trod enc P w base spare held t v d ps) :
    ∃ zs : List Int, zs.length = n ∧ v = .agg (zs.map (Value.int k)).toArray ∧ ∀ z ∈ zs, (Lit.int k z).wf = true := by
  obtain ⟨cs, rfl, hsz⟩ : ∃ cs, v = .agg cs ∧ cs.size = n := by
    have h1 := hval
    simp only [Value.okWide, ht] at h1
    obtain ⟨cs, e1, e2, _⟩ := h1
    exact ⟨cs, e1, by rw [e2, hn]⟩
  obtain ⟨fuel, hf⟩ := h
  obtain ⟨xs, m, _, _, hl, hx, hel⟩ := DataW.trod_array ht hf
  have each : ∀ i (hi : i < cs.size), ∃ z, cs[i] = .int k z ∧ (Lit.int k z).wf = true := by
    intro i hi
    have h1 := hel i (by omega)
    have hxi : i < xs.length := by omega
    rw [List.getElem?_eq_getElem hxi, hc, Nat.mul_one] at h1
    obtain ⟨z, e1, _, hw⟩ := DataW.trod_int he h1
    have e2 : ((Value.agg cs).cells.toList.drop i).take 1 = [cs[i]] := by
      show (cs.toList.drop i).take 1 = [cs[i]]
      rw [List.drop_eq_getElem_cons (by simpa using hi)]
      simp
    rw [e2] at e1
    injection e1 with e1
    exact ⟨z, e1, hw⟩
  refine ⟨cs.toList.map (fun v => match v with | .int _ z => z | _ => 0), by simpa using hsz, ?_, ?_⟩
  · congr 1
    apply Array.ext
    · simp
    · intro i h1 h2
      obtain ⟨z, hz, _⟩ := each i h1
      simp [hz]
  · intro z hz
    simp only [List.mem_map] at hz
    obtain ⟨v, hv, rfl⟩ := hz
    obtain ⟨i, hi, rfl⟩ := List.getElem_of_mem hv
    obtain ⟨z, hz, hw⟩ := each i (by simpa using hi)
    have : cs.toList[i] = .int k z := by simpa using hz
    rw [this]
    exact hw

theorem open_u32s {t e n : Nat} {v : Value} {d : DataW H} {ps : List MemPlace} (ht : P.underlying t = some (.array n e)) (he : P.underlying e = some (.int .u32)) (hc : P.cellsOf e = 1) (hn : P.cellsOf t = n)
    (hval : Value.okWide P w r b0 t v) (h : DataW.Trod enc P w base spare held t v d ps) : ∃ s : List UInt32, s.length = n ∧ v = .agg (uv s) := by
  obtain ⟨zs, hl, rfl, hw⟩ := open_arr ht he hc hn hval h
  refine ⟨zs.map fun z => UInt32.ofNat z.toNat, by simpa using hl, ?_⟩
  unfold uv
  rw [List.map_map]
  congr 2
  apply List.map_congr_left
  intro z hz
  have hb := bounds_u32 (hw z hz)
  simp only [Function.comp]
  exact int_eq (by rw [UInt32.toNat_ofNat']; omega)
theorem open_u8s {t e n : Nat} {v : Value} {d : DataW H} {ps : List MemPlace} (ht : P.underlying t = some (.array n e)) (he : P.underlying e = some (.int .u8)) (hc : P.cellsOf e = 1) (hn : P.cellsOf t = n)
    (hval : Value.okWide P w r b0 t v) (h : DataW.Trod enc P w base spare held t v d ps) : ∃ l : List UInt8, l.length = n ∧ v = .agg (bva l) := by
  obtain ⟨zs, hl, rfl, hw⟩ := open_arr ht he hc hn hval h
  refine ⟨zs.map fun z => UInt8.ofNat z.toNat, by simpa using hl, ?_⟩
  unfold bva bv
  rw [List.map_map]
  congr 2
  apply List.map_congr_left
  intro z hz
  have hb := bounds_u8 (hw z hz)
  simp only [Function.comp]
  exact int_eq (by rw [UInt8.toNat_ofNat']; omega)
end
end Go.Proofs.YtnplhagfmfggcaaGreat
/-
  The laws' acts: how a row of them that came in is opened, and how one is read; whether they are too many, or too long.
-/
namespace Go.Proofs.YtnplhagfmfggcaaGreat.Lo
open Go.RowKit
/-- An act: Kind, N, and its body, that lies at A. -/
structure La where
  kind : Int
  n : Int
  A : Option Addr
  c : Nat
  b : List UInt8
def laV (a : La) : List Value := [.int .u8 a.kind, .int .u8 a.n, .slice a.A a.b.length a.c]
def las : List La → List Value
  | [] => []
  | x :: l => laV x ++ las l
theorem las_append (a b : List La) : las (a ++ b) = las a ++ las b := by
  induction a with
  | nil => rfl
  | cons x l ih => simp [las, ih]
theorem laV_length (x : La) : (laV x).length = 3 := rfl
theorem las_length (l : List La) : (las l).length = l.length * 3 := by
  induction l with
  | nil => rfl
  | cons x l ih => rw [las, List.length_append, laV_length, ih, List.length_cons]; omega
theorem las_get {l : List La} {k : Nat} (hk : k < l.length) {j : Nat} {v : Value} (hv : (laV l[k])[j]? = some v) : (las l)[3 * k + j]? = some v := by
  induction l generalizing k with
  | nil => simp at hk
  | cons x l ih =>
    cases k with
    | zero =>
      have hj : j < 3 := (List.getElem?_eq_some_iff.1 hv).1
      rw [las, Nat.mul_zero, Nat.zero_add, List.getElem?_append_left (by rw [laV_length]; omega)]
      exact hv
    | succ k =>
      rw [las, List.getElem?_append_right (by rw [laV_length]; omega), laV_length, show 3 * (k + 1) + j - 3 = 3 * k + j by omega]
      exact ih (by simpa using hk) (by simpa using hv)
/-- What is so of an act that came in. -/
structure La.ok (w : World) (x : La) : Prop where
  k0 : 0 ≤ x.kind
  k1 : x.kind ≤ 255
  n0 : 0 ≤ x.n
  n1 : x.n ≤ 255
  rd : Rd w.heap.size w x.A (bv x.b)
  cap : x.b.length ≤ x.c ∧ x.c ≤ maxLen
/-- An act of a row, read. -/
theorem rd_lact {B : Nat} {w : World} {A : Option Addr} {l : List La} (h : Rd B w A (las l)) {k : Nat} (hk : k < l.length) :
    ∃ ad, A = some ad ∧ ad.block < B ∧ ∀ j v, (laV l[k])[j]? = some v → w.cell? ((ad.add (k * 3)).add j) = some v := by
  obtain ⟨ad, hA, hb, _⟩ := h _ _ (las_get hk (j := 0) (v := .int .u8 l[k].kind) rfl)
  refine ⟨ad, hA, hb, fun j v hv => ?_⟩
  obtain ⟨ad', hA', _, hc⟩ := h _ _ (las_get hk hv)
  rw [hA] at hA'; injection hA' with hA'
  rw [hA', Kd.add_twice8, Nat.mul_comm k 3]
  exact hc
section
open Go.ChangeShapes Go.WideShapes
variable {H : Type} {enc : TypeId × Value → H} {w : World} {base : Nat} {spare : Nat → Bool} {held : Bool}
theorem lact_fields : (Tryz.prog.fieldsOf 67).toList.map (fun f => (f.name == "_", f.type, f.offset)) = [(false, 5, 0), (false, 5, 1), (false, 55, 2)] := by kernel_rfl
theorem lact_under : Tryz.prog.underlying 67 = some (.struct (Tryz.prog.fieldsOf 67)) := by kernel_rfl
theorem lact_info : (Tryz.prog.info? 67).map (·.size) = some 3 := by kernel_rfl
set_option maxRecDepth 100000 in
theorem lact_of_trod {fuel : Nat} {cs : List Value} {x : DataW H × List MemPlace} (h : DataW.trod enc Tryz.prog w base spare held fuel 67 cs = some x) :
    ∃ y : La, cs = laV y ∧ y.ok w := by
  obtain ⟨xs, n, _, _, hl, hlen, hf⟩ := DataW.trod_struct lact_under h
  have hfs := lact_fields
  have hcn : Tryz.prog.cellsOf 67 = 3 := by kernel_rfl
  have hci : Tryz.prog.cellsOf 5 = 1 := by kernel_rfl
  have hcu : Tryz.prog.cellsOf 55 = 1 := by kernel_rfl
  generalize Tryz.prog.fieldsOf 67 = fs at hfs hlen hf
  rw [hcn] at hl
  obtain ⟨L⟩ := fs
  have hL5 : L.length = 3 := by simpa using congrArg List.length hfs
  match L, hL5, hfs, hf, hlen with
  | [f0, f1, f2], _, hfs, hf, hlen =>
    simp only [List.map_cons, List.map_nil, List.cons.injEq, Prod.mk.injEq, and_true] at hfs
    obtain ⟨⟨_, t0, o0⟩, ⟨_, t1, o1⟩, ⟨_, t2, o2⟩⟩ := hfs
    have h5 : xs.length = 3 := hlen
    have g0 := hf 0 f0 rfl
    have g1 := hf 1 f1 rfl
    have g2 := hf 2 f2 rfl
    rw [t0, o0, hci, List.getElem?_eq_getElem (by omega)] at g0
    rw [t1, o1, hci, List.getElem?_eq_getElem (by omega)] at g1
    rw [t2, o2, hcu, List.getElem?_eq_getElem (by omega)] at g2
    obtain ⟨a0, e0, _, w0⟩ := DataW.trod_int Tryz.underlying5 g0
    obtain ⟨a1, e1, _, w1⟩ := DataW.trod_int Tryz.underlying5 g1
    have b0 := bounds_u8 w0
    have b1 := bounds_u8 w1
    match cs, hl with
    | [u0, u1, u2], _ =>
      simp at e0 e1 g2
      obtain ⟨body, A, c, rfl, h1, h2, h3⟩ := isB_of_trod Tryz.underlying55 Tryz.underlying5 (by kernel_rfl) g2
      exact ⟨⟨a0, a1, A, c, body⟩, by rw [e0, e1]; rfl, ⟨b0.1, b0.2, b1.1, b1.2, h3, h1, h2⟩⟩
/-- A row of acts that came in. -/
theorem open_lacts {a : Option Addr} {len cap : Nat} {d : DataW H} {ps : List MemPlace} (h : DataW.Trod enc Tryz.prog w base spare held 22 (.slice a len cap) d ps) :
    ∃ l : List La, l.length = len ∧ len ≤ cap ∧ cap ≤ maxLen ∧ Rd w.heap.size w a (las l) ∧ ∀ y ∈ l, y.ok w := by
  obtain ⟨fuel, hf⟩ := h
  have hf' : DataW.trod enc Tryz.prog w base spare held fuel 22 [Value.slice a len cap] = some (d, ps) := hf
  have hcn : Tryz.prog.cellsOf 67 = 3 := by kernel_rfl
  rcases Go.Deep.open_slice Tryz.underlying22 hf' with ⟨hcs, _⟩ | ⟨a', len', cap', m, n, D, Pl, hcs, _, hl, hm, hmm, _, hx⟩
  · simp only [List.cons.injEq, and_true] at hcs
    injection hcs with e1 e2 e3
    subst e1; subst e2; subst e3
    exact ⟨[], rfl, Nat.le_refl _, Nat.zero_le _, Rd.none, fun y hy => by simp at hy⟩
  · simp only [List.cons.injEq, and_true] at hcs
    injection hcs with e1 e2 e3
    subst e1; subst e2; subst e3
    have hlm : len ≤ m := by rw [hmm]; split <;> omega
    rw [hcn] at hx
    have hall : ∀ j, j ≤ len → ∃ l : List La, l.length = j ∧ (∀ y ∈ l, y.ok w) ∧ ∀ k u, (las l)[k]? = some u → w.cell? (a'.add k) = some u := by
      intro j
      induction j with
      | zero => exact fun _ => ⟨[], rfl, fun y hy => by simp at hy, fun k u hu => by simp [las] at hu⟩
      | succ j ih =>
        intro hj
        obtain ⟨l, hl', hb, hc⟩ := ih (by omega)
        obtain ⟨cs', h1, h2⟩ := hx j (by omega)
        obtain ⟨y, hy, hyb⟩ := lact_of_trod h2
        obtain ⟨_, _, hcl⟩ := World.cells?_some h1
        have hnl : (las l).length = j * 3 := by rw [las_length, hl']
        refine ⟨l ++ [y], by simp [hl'], fun z hz => ?_, fun k u hu => ?_⟩
        · rcases List.mem_append.1 hz with hz | hz
          · exact hb z hz
          · rw [List.mem_singleton] at hz; rw [hz]; exact hyb
        · rw [las_append] at hu
          rcases Nat.lt_or_ge k (las l).length with hk | hk
          · rw [List.getElem?_append_left hk] at hu
            exact hc k u hu
          · rw [List.getElem?_append_right hk, las, las, List.append_nil, ← hy, hnl] at hu
            have hk5 : k - j * 3 < 3 := by
              have := (List.getElem?_eq_some_iff.1 hu).1
              rw [hy, laV_length] at this; exact this
            have h3 := hcl (k - j * 3) hk5
            rw [Kd.add_twice8, show j * 3 + (k - j * 3) = k by omega, hu] at h3
            exact h3
    obtain ⟨l, hl', hb, hc⟩ := hall len (Nat.le_refl _)
    refine ⟨l, hl', hl, hm, fun k u hu => ⟨a', rfl, ?_, hc k u hu⟩, hb⟩
    have := World.block_lt_of_cell? _ _ (hc k u hu)
    rw [add_block] at this
    exact this
end
/-- They are many, or a body is long. -/
def greatL (l : List La) : Bool := decide (30 < l.length) || l.any fun a => decide (120 < a.b.length)
end Go.Proofs.YtnplhagfmfggcaaGreat.Lo
/-
  A log that is played while power may fail: what play leaves.
-/
namespace Go.Proofs.YtnplhagfmfggcaaGreat.Lo
open Go.RowKit Kd Mi Sx Sg
attribute [local go_sem ↓] Go.wp_at_zero Go.wp_at_succ
/-- A log, and beside it a rig's box, and the one of which devices are out. -/
structure PlT (p g1 g2 : Nat) (G : Gd) (g q : Nat) (w0 w1 : World) (F1 : Nat → Prop) (w : World) (s : Mr (Mu.one p g1 g2)) (l : Lg) (F : Nat → Prop) (a b k bR bO : Nat) (x y : Bool) : Prop where
  tl : TwL p g1 g2 G g q w0 w s l F a b k
  new : ∀ j, F j → F1 j ∨ w1.heap.size ≤ j
  but : But F1 w1 w
  le : w0.heap.size ≤ w1.heap.size
  rig : Bz w1 w F bR (rigC p g1 g2 g q a b) 34
  out : Bz w1 w F bO #[.bool x, .bool y] 80
  ne : bR ≠ bO
section
variable {p g1 g2 g q : Nat} {G : Gd} {w0 w1 w w' : World} {s : Mr (Mu.one p g1 g2)} {l : Lg} {F1 F : Nat → Prop} {a b k k' bR bO : Nat} {x y x' y' : Bool} {v : Value} {e : Ending}
theorem PlT.go (h : PlT p g1 g2 G g q w0 w1 F1 w s l F a b k bR bO x y) {s' : Mr (Mu.one p g1 g2)} {l' : Lg} {F' : Nat → Prop} (ht : TwL p g1 g2 G g q w0 w' s' l' F' a b k') (hm : Mv (LogL (Mu.one p g1 g2) G g q litS) w F w' (s', l') F') : PlT p g1 g2 G g q w0 w1 F1 w' s' l' F' a b k' bR bO x y :=
  ⟨ht, fun j hj => (hm.new j hj).elim (h.new j) (fun h1 => .inr (Nat.le_trans h.but.size h1)), Mi.but_step h.but hm.but (fun j hj => h.new j hj), h.le, h.rig.step hm, h.out.step hm, h.ne⟩
theorem PlT.step (h : PlT p g1 g2 G g q w0 w1 F1 w s l F a b k bR bO x y) (hr : RetTw v p g1 g2 G g q w0 a b k' F w e w') : e = .returned v ∧ ∃ s' l' F', PlT p g1 g2 G g q w0 w1 F1 w' s' l' F' a b k' bR bO x y := by
  obtain ⟨rfl, s', l', F', ht, hm⟩ := hr
  exact ⟨rfl, s', l', F', h.go ht hm⟩
theorem PlT.below (h : PlT p g1 g2 G g q w0 w1 F1 w s l F a b k bR bO x y) (hb : Below w.heap.size w w') : PlT p g1 g2 G g q w0 w1 F1 w' s l F a b k bR bO x y :=
  ⟨h.tl.below hb, h.new, Mi.but_step h.but (but_below (T := F1) hb) (fun j hj => .inl hj), h.le, h.rig.below hb, h.out.below hb, h.ne⟩
theorem PlT.set (h : PlT p g1 g2 G g q w0 w1 F1 w s l F a b k bR bO x y) (hb : But (fun j => j = bO) w w') (ho : Blk w' bO #[.bool x', .bool y'] 80) : PlT p g1 g2 G g q w0 w1 F1 w' s l F a b k bR bO x' y' :=
  ⟨⟨⟨(LogL (Mu.one p g1 g2) G g q litS).but h.tl.live.at_ hb (fun j hj e => by subst e; exact h.out.2.2 hj), h.tl.live.new, h.tl.live.bel.trans (hb.below (fun j hj e => by have := h.out.2.1; have := h.le; omega) h.tl.live.bel.size)⟩, h.tl.tw⟩,
    h.new, Mi.but_step h.but hb (fun j e => .inr (by rw [e]; exact h.out.2.1)), h.le, ⟨h.rig.1.but hb h.ne, h.rig.2⟩, ⟨ho, h.out.2⟩, h.ne⟩
theorem PlT.more (h : PlT p g1 g2 G g q w0 w1 F1 w s l F a b k bR bO x y) (hk : k ≤ k') : PlT p g1 g2 G g q w0 w1 F1 w s l F a b k' bR bO x y := ⟨⟨h.tl.live, h.tl.tw.more hk⟩, h.new, h.but, h.le, h.rig, h.out, h.ne⟩
theorem bools_set (h : Blk w bO #[.bool x, .bool y] 80) (z : Bool) : Blk (w.setCell ⟨bO, 0, none⟩ (.bool z)) bO #[.bool z, .bool y] 80 ∧ Blk (w.setCell ⟨bO, 1, none⟩ (.bool z)) bO #[.bool x, .bool z] 80 := by
  refine ⟨?_, ?_⟩
  · exact heap_setCell_same _ _ _ _ _ _ h
  · exact heap_setCell_same _ _ _ _ _ _ h
/-- What play leaves. -/
def RetPl (p g1 g2 : Nat) (G : Gd) (g q : Nat) (w0 : World) (a b : Nat) (F : Nat → Prop) (w : World) (e : Ending) (w' : World) : Prop :=
  e = .returned (.tuple #[]) ∧ ∃ (s : Mr (Mu.one p g1 g2)) (l : Lg) (F' : Nat → Prop), TwL p g1 g2 G g q w0 w' s l F' a b 30 ∧ (∀ j, F' j → F j ∨ w.heap.size ≤ j) ∧ But F w w' ∧ ∀ i, i < 2 → (s.d.at i).gone = false
set_option maxRecDepth 100000 in
set_option maxHeartbeats 12800000 in
theorem lplay_any (h : TwL p g1 g2 G g q w0 w s l F a b 0) (hab : (3 ≤ a ∧ a ≤ 6) ∧ 1 ≤ b ∧ b ≤ 4) (A : Option Addr) (N c : Nat) (ls : List La) (hl : ls.length = N) (hn : N ≤ 30) {wB : World} (hB : Below wB.heap.size wB w0) (hr : Rd wB.heap.size wB A (las ls)) (hz : ∀ y ∈ ls, y.ok wB) :
    Calls Tryz.prog 9 #[.agg (rigC p g1 g2 g q a b), .slice A N c] w (RetPl p g1 g2 G g q w0 a b F w) := by
  have HL := Lib.hid hl
  have HN := Lib.hid hn
  have HR := Lib.hid hr
  have HZ := Lib.hid hz
  have HAB := Lib.hid hab
  have HB := Lib.hid hB
  obtain ⟨w1, hw1⟩ : ∃ W, W = w.alloc (.cells (rigC p g1 g2 g q a b) 34) := ⟨_, rfl⟩
  obtain ⟨w2, hw2⟩ : ∃ W, W = w1.alloc (.cells #[.bool false, .bool false] 80) := ⟨_, rfl⟩
  have b1 : Below w.heap.size w w1 := by rw [hw1]; exact (Below.refl _ _).alloc (Nat.le_refl _) _
  have b2 : Below w1.heap.size w1 w2 := by rw [hw2]; exact (Below.refl _ _).alloc (Nat.le_refl _) _
  have s1 : w1.heap.size = w.heap.size + 1 := by rw [hw1]; simp
  obtain ⟨bR, hbR⟩ : ∃ z, z = w.heap.size := ⟨_, rfl⟩
  obtain ⟨bO, hbO⟩ : ∃ z, z = bR + 1 := ⟨_, rfl⟩
  have hlt := (LogL (Mu.one p g1 g2) G g q litS).lt h.live.at_
  have P0 := Lib.hid (show PlT p g1 g2 G g q w0 w F w2 s l F a b 0 bR bO false false from
    ⟨h.below (b1.trans (b2.mono b1.size)), fun j hj => .inl hj, but_below (b1.trans (b2.mono b1.size)), h.live.bel.size,
      ⟨(show Blk w1 bR _ _ by rw [hw1, hbR]; exact heap_alloc_new _ _).below b2, by omega, fun hf => by have := hlt _ hf; omega⟩,
      ⟨by rw [hw2, hbO, hbR, ← s1]; exact heap_alloc_new _ _, by omega, fun hf => by have := hlt _ hf; omega⟩, by omega⟩)
  clear b1 b2 hlt h hl hn hr hz hB hab
  unfold rigC at hw1
  go_enter Tryz.func9, Tryz.ntmps9
  unfold rigC
  go_wp2_with fail
  rw [← hw1, ← hbR, ← hbO, ← hw2]
  clear hw1 hw2 s1 hbR hbO
  go_loopw [10] (fun i wr => ∃ k : Nat, k ≤ N ∧ i = .int .i64 (k : Int) ∧ ∃ s l F' x y, Hid (PlT p g1 g2 G g q w0 w F wr s l F' a b k bR bO x y)) (fun i _ => N - (intOf i).toNat)
  case atStart => exact ⟨0, Nat.zero_le _, rfl, _, _, _, _, _, P0⟩
  case round =>
    clear P0
    obtain ⟨k, hk, rfl, s, l, F', x, y, PS⟩ := hrel
    have HK := Lib.hid hk
    by_cases hlt : k < N
    · have HLT := Lib.hid hlt
      have j0 : (0 : Int) ≤ (k : Int) := by omega
      have j1 : (k : Int) < (N : Int) := by omega
      have wp1 : IntKind.i64.wrap ((k : Int) + 1) = ((k + 1 : Nat) : Int) := IntWalk.i64_in _ (by have := HN.out; omega)
      have hkl : k < ls.length := by rw [HL.out]; exact hlt
      have BA := Lib.hid (HB.out.trans (PS.out.tl.live.bel.mono HB.out.size))
      obtain ⟨ad, hA, _, hcell⟩ := rd_lact (HR.out.below BA.out) hkl
      subst hA
      obtain ⟨u, hu⟩ : ∃ u, u = ls[k] := ⟨_, rfl⟩
      rw [← hu] at hcell
      have HU := Lib.hid (show u.ok wB by rw [hu]; exact HZ.out _ (List.getElem_mem hkl))
      have HCE := Lib.hid hcell
      have HIU := Lib.hid (show (Tryz.prog.info? 67).map (·.size) = some (laV u).length from lact_info)
      obtain ⟨wc, hwc⟩ : ∃ W, W = wr.alloc (.cells #[.int .u8 u.kind, .int .u8 u.n, .slice u.A u.b.length u.c] 67) := ⟨_, rfl⟩
      have bwc : Below wr.heap.size wr wc := by rw [hwc]; exact (Below.refl _ _).alloc (Nat.le_refl _) _
      have PC := Lib.hid (PS.out.below bwc)
      have BC := Lib.hid (BA.out.trans (bwc.mono BA.out.size))
      obtain ⟨bA, hbA⟩ : ∃ z, z = wr.heap.size := ⟨_, rfl⟩
      have hlt2 := (LogL (Mu.one p g1 g2) G g q litS).lt PS.out.tl.live.at_
      have UA := Lib.hid (show Bz w wc F' bA #[.int .u8 u.kind, .int .u8 u.n, .slice u.A u.b.length u.c] 67 from ⟨by rw [hwc, hbA]; exact heap_alloc_new _ _, by rw [hbA]; exact PS.out.but.size, fun hf => by have := hlt2 _ hf; omega⟩)
      have c0 : wc.cell? ⟨bA, 0, none⟩ = some (.int .u8 u.kind) := UA.out.1.cell 0
      have HND := Lib.hid (fun (s' : Mr (Mu.one p g1 g2)) (l' : Lg) (F'' : Nat → Prop) (W : World) (x' y' : Bool) (h : PlT p g1 g2 G g q w0 w F W s' l' F'' a b k bR bO x' y') => h.more (Nat.le_succ k))
      clear bwc hcell hkl hu hlt hk PS BA hlt2
      go_upto_block 2 with first | (refine wpList_load_at rfl 67 (.tmp 12) rfl (ad.add (k * 3)) rfl HCE.out lact_under rfl HIU.out ?_; change wpList _ _ _ _ (Act.put _ _ (.agg #[.int .u8 u.kind, .int .u8 u.n, .slice u.A u.b.length u.c])) _)
      rw [← hwc, ← hbA]
      clear hwc hbA
      have r4 : wc.cell? ⟨bR, 4, none⟩ = some (.pointer (some ⟨q, 0, none⟩)) := PC.out.rig.1.cell 4
      by_cases h1 : u.kind = 1
      · have e1 : (u.kind == 1) = true := by simpa using h1
        have un := HU.out.n0
        have un1 := HU.out.n1
        obtain ⟨r, hrr⟩ : ∃ r : Int, r = u.n.tmod (a : Int) := ⟨_, rfl⟩
        have hra : 0 ≤ r ∧ r < 10 := by have := HAB.out; rw [Int.tmod_eq_emod_of_nonneg un] at hrr; have h3 := Int.emod_nonneg u.n (show (a : Int) ≠ 0 by omega); have h4 := Int.emod_lt_of_pos u.n (show (0 : Int) < (a : Int) by omega); omega
        have t1 : u.n.tmod (a : Int) = r := hrr.symm
        have z1 : wrap64 u.n = u.n := by unfold wrap64; omega
        have v1 : IntKind.i64.wrap u.n = u.n := IntWalk.i64_in _ (by omega)
        have v2 : IntKind.i64.wrap r = r := IntWalk.i64_in _ (by omega)
        have p0 : ¬ a = 0 := by have := HAB.out; omega
        have p1 : ¬ (a : Int) = 0 := by have := HAB.out; omega
        have p2 : ((a : Int) == 0) = false := by have := HAB.out; simp; omega
        have PD := Lib.hid (PC.out.below (Below.refl _ _).drew)
        have HL9 := Lib.hid (tl_free PD.out.tl (x := r) (by omega) (by omega))
        have c1 : wc.drew.cell? ⟨bA, 1, none⟩ = some (.int .u8 u.n) := UA.out.1.cell 1
        have UD := Lib.hid (show Bz w wc.drew F' bA _ 67 from UA.out.below (Below.refl _ _).drew)
        have r5 : wc.drew.cell? ⟨bR, 5, none⟩ = some (.int .i64 (a : Int)) := PC.out.rig.1.cell 5
        have r4' : wc.drew.cell? ⟨bR, 4, none⟩ = some (.pointer (some ⟨q, 0, none⟩)) := r4
        clear hrr hra h1
        go_wp2_with fail
        refine wp_region_held_drew (S := (fun w' => w'.cell? ⟨bR, 4, none⟩ = some (.pointer (some ⟨q, 0, none⟩)) ∧ w'.cell? ⟨bA, 1, none⟩ = some (.int .u8 u.n) ∧ w'.cell? ⟨bR, 5, none⟩ = some (.int .i64 (a : Int)))) (by kernel_rfl) ⟨r4', c1, r5⟩ (fun hh => ?_)
        have HH := Lib.hid hh
        clear hh
        refine wpAnyH_take (i := 0) (v := ?vR0) rfl (by kernel_rfl) (by kernel_rfl) (by kernel_rfl) (fun _ _ _ h => h) (Or.inl ⟨by rfl, fun w' _ => ?yR0⟩) HH.out ?_
        case yR0 => (go_simp; try with_reducible rfl)
        refine wpAnyH_take (i := 1) (v := .pointer (some ⟨q, 0, none⟩)) rfl (by kernel_rfl) (by kernel_rfl) (by kernel_rfl) (fun _ _ _ h => h) (Or.inl ⟨by rfl, fun w' hw' => ?yR1⟩) HH.out ?_
        case yR1 => (have hc := hw'.1; go_simp; try with_reducible rfl)
        try simp only [List.getElem_toArray, List.getElem_cons_succ, List.getElem_cons_zero, Act.put, List.setIfInBounds_toArray, List.set_cons_zero, List.set_cons_succ]
        try simp only [List.getElem_toArray, List.getElem_cons_succ, List.getElem_cons_zero, Act.put, List.setIfInBounds_toArray, List.set_cons_zero, List.set_cons_succ]
        refine wpAnyH_take (i := 2) (v := ?vR2) rfl (by kernel_rfl) (by kernel_rfl) (by kernel_rfl) (fun _ _ _ h => h) (Or.inl ⟨by rfl, fun w' _ => ?yR2⟩) HH.out ?_
        case yR2 => (go_simp; try with_reducible rfl)
        refine wpAnyH_take (i := 3) (v := .int .u8 u.n) rfl (by kernel_rfl) (by kernel_rfl) (by kernel_rfl) (fun _ _ _ h => h) (Or.inl ⟨by rfl, fun w' hw' => ?yR3⟩) HH.out ?_
        case yR3 => (have hc := hw'.2.1; go_simp; try with_reducible rfl)
        try simp only [List.getElem_toArray, List.getElem_cons_succ, List.getElem_cons_zero, Act.put, List.setIfInBounds_toArray, List.set_cons_zero, List.set_cons_succ]
        refine wpAnyH_take (i := 4) (v := ?vR4) rfl (by kernel_rfl) (by kernel_rfl) (by kernel_rfl) (fun _ _ _ h => h) (Or.inl ⟨by rfl, fun w' _ => ?yR4⟩) HH.out ?_
        case yR4 => (go_simp; try with_reducible rfl)
        try simp only [List.getElem_toArray, List.getElem_cons_succ, List.getElem_cons_zero, Act.put, List.setIfInBounds_toArray, List.set_cons_zero, List.set_cons_succ]
        refine wpAnyH_take (i := 5) (v := ?vR5) rfl (by kernel_rfl) (by kernel_rfl) (by kernel_rfl) (fun _ _ _ h => h) (Or.inl ⟨by rfl, fun w' _ => ?yR5⟩) HH.out ?_
        case yR5 => (go_simp; try with_reducible rfl)
        refine wpAnyH_take (i := 6) (v := ?vR6) rfl (by kernel_rfl) (by kernel_rfl) (by kernel_rfl) (fun _ _ _ h => h) (Or.inl ⟨by rfl, fun w' _ => ?yR6⟩) HH.out ?_
        case yR6 => (go_simp; try with_reducible rfl)
        refine wpAnyH_take (i := 7) (v := .int .i64 (a : Int)) rfl (by kernel_rfl) (by kernel_rfl) (by kernel_rfl) (fun _ _ _ h => h) (Or.inl ⟨by rfl, fun w' hw' => ?yR7⟩) HH.out ?_
        case yR7 => (have hc := hw'.2.2; go_simp; try with_reducible rfl)
        try simp only [List.getElem_toArray, List.getElem_cons_succ, List.getElem_cons_zero, Act.put, List.setIfInBounds_toArray, List.set_cons_zero, List.set_cons_succ]
        try simp only [List.getElem_toArray, List.getElem_cons_succ, List.getElem_cons_zero, Act.put, List.setIfInBounds_toArray, List.set_cons_zero, List.set_cons_succ]
        refine wpAnyH_take (i := 8) (v := ?vR8) rfl (by kernel_rfl) (by kernel_rfl) (by kernel_rfl) (fun _ _ _ h => h) (Or.inl ⟨by rfl, fun w' _ => ?yR8⟩) HH.out ?_
        case yR8 => (go_simp; try with_reducible rfl)
        refine wpAnyH_ready (rs := [9]) (by kernel_rfl) (by simp) (AllReadyH.cons rfl (fun K hK => ?_) AllReadyH.nil)
        go_simp
        refine HL9.out.mono ?_
        rintro e x5 ⟨v5, hr⟩
        obtain ⟨rfl, s5, l5, F5, ht, hm⟩ := hr
        have P9 := Lib.hid (HND.out _ _ _ _ _ _ (PD.out.go ht hm))
        have q4 : x5.cell? ⟨bR, 4, none⟩ = some (.pointer (some ⟨q, 0, none⟩)) := P9.out.rig.1.cell 4
        have q5 : x5.cell? ⟨bR, 5, none⟩ = some (.int .i64 (a : Int)) := P9.out.rig.1.cell 5
        have qA : x5.cell? ⟨bA, 1, none⟩ = some (.int .u8 u.n) := (UD.out.step hm).1.cell 1
        clear ht hm PC PD UD UA HL9 c1 r5 r4 r4'
        go_simp
        refine hK.out _ _ ⟨q4, qA, q5⟩ (fun hh => ?_)
        clear hh hK K HH q4 qA q5
        try simp only [List.getElem_toArray, List.getElem_cons_succ, List.getElem_cons_zero, Act.put, List.setIfInBounds_toArray, List.set_cons_zero, List.set_cons_succ]
        refine wpAnyH_done (by kernel_rfl) ?_ _
        go_wp2_with fail
        go_wp2_with fail
        go_round
        case rel => exact ⟨k + 1, HLT.out, rfl, _, _, _, _, _, P9⟩
        case measure => (have := HLT.out; simp [intOf]; omega)

      · have e1 : (u.kind == 1) = false := by simpa using h1
        by_cases h2 : u.kind = 2
        · have e2 : (u.kind == 2) = true := by simpa using h2
          clear h1 h2
          go_wp2_with fail
          refine (tl_flush PC.out.tl).mono ?_
          rintro e x5 ⟨v5, hr⟩
          obtain ⟨rfl, s5, l5, F5, h5⟩ := PC.out.step hr
          have P9 := Lib.hid (HND.out _ _ _ _ _ _ h5)
          clear hr h5 PC UA c0 r4
          go_wp2_with fail
          go_wp2_with fail
          go_round
          case rel => exact ⟨k + 1, HLT.out, rfl, _, _, _, _, _, P9⟩
          case measure => (have := HLT.out; simp [intOf]; omega)
        have e2 : (u.kind == 2) = false := by simpa using h2
        by_cases h3 : u.kind = 3
        · have e3 : (u.kind == 3) = true := by simpa using h3
          have o0 : wc.cell? ⟨bO, 0, none⟩ = some (.bool x) := PC.out.out.1.cell 0
          have f0 : wc.frozen? ⟨bO, 0, none⟩ = false := PC.out.out.1.free 0
          obtain ⟨x4, hx4⟩ : ∃ W, W = wc.setCell ⟨bO, 0, none⟩ (.bool (!x)) := ⟨_, rfl⟩
          have P4 := Lib.hid (show PlT p g1 g2 G g q w0 w F x4 s l F' a b k bR bO (!x) y from PC.out.set (by rw [hx4]; exact But.setCell (S := fun j => j = bO) (But.refl _) (Or.inl rfl) _) (by rw [hx4]; exact (bools_set PC.out.out.1 _).1))
          have o4 : x4.cell? ⟨bO, 0, none⟩ = some (.bool (!x)) := P4.out.out.1.cell 0
          have r1 : x4.cell? ⟨bR, 1, none⟩ = some (.pointer (some ⟨g1, 0, none⟩)) := P4.out.rig.1.cell 1
          clear h1 h2 h3
          go_upto_region 13 with fail
          rw [← hx4]
          clear hx4 PC o0 f0 UA c0 r4
          go_wp2_with fail
          refine (tl_out0 P4.out.tl (!x)).mono ?_
          rintro e x5 hr
          obtain ⟨rfl, s5, l5, F5, h5⟩ := P4.out.step hr
          have P9 := Lib.hid (HND.out _ _ _ _ _ _ h5)
          clear hr h5 P4 o4 r1
          go_wp2_with fail
          go_wp2_with fail
          go_round
          case rel => exact ⟨k + 1, HLT.out, rfl, _, _, _, _, _, P9⟩
          case measure => (have := HLT.out; simp [intOf]; omega)
        have e3 : (u.kind == 3) = false := by simpa using h3
        by_cases h4 : u.kind = 4
        · have e4 : (u.kind == 4) = true := by simpa using h4
          have o0 : wc.cell? ⟨bO, 1, none⟩ = some (.bool y) := PC.out.out.1.cell 1
          have f0 : wc.frozen? ⟨bO, 1, none⟩ = false := PC.out.out.1.free 1
          obtain ⟨x4, hx4⟩ : ∃ W, W = wc.setCell ⟨bO, 1, none⟩ (.bool (!y)) := ⟨_, rfl⟩
          have P4 := Lib.hid (show PlT p g1 g2 G g q w0 w F x4 s l F' a b k bR bO x (!y) from PC.out.set (by rw [hx4]; exact But.setCell (S := fun j => j = bO) (But.refl _) (Or.inl rfl) _) (by rw [hx4]; exact (bools_set PC.out.out.1 _).2))
          have o4 : x4.cell? ⟨bO, 1, none⟩ = some (.bool (!y)) := P4.out.out.1.cell 1
          have r1 : x4.cell? ⟨bR, 2, none⟩ = some (.pointer (some ⟨g2, 0, none⟩)) := P4.out.rig.1.cell 2
          clear h1 h2 h3 h4
          go_upto_region 16 with fail
          rw [← hx4]
          clear hx4 PC o0 f0 UA c0 r4
          go_wp2_with fail
          refine (tl_out1 P4.out.tl (!y)).mono ?_
          rintro e x5 hr
          obtain ⟨rfl, s5, l5, F5, h5⟩ := P4.out.step hr
          have P9 := Lib.hid (HND.out _ _ _ _ _ _ h5)
          clear hr h5 P4 o4 r1
          go_wp2_with fail
          go_wp2_with fail
          go_round
          case rel => exact ⟨k + 1, HLT.out, rfl, _, _, _, _, _, P9⟩
          case measure => (have := HLT.out; simp [intOf]; omega)
        have e4 : (u.kind == 4) = false := by simpa using h4
        have c2 : wc.cell? ⟨bA, 2, none⟩ = some (.slice u.A u.b.length u.c) := UA.out.1.cell 2
        have HRD := Lib.hid (show Rd wc.heap.size wc u.A (bv u.b) from (HU.out.rd.below BC.out).more BC.out.size)
        clear h1 h2 h3 h4
        go_wp2_with fail
        refine (tl_append PC.out.tl (by have := HAB.out; omega) (by have := HN.out; have := HLT.out; omega) u.A u.b.length u.c u.b rfl HRD.out).mono ?_
        rintro e x5 ⟨v5, v6, hr⟩
        obtain ⟨rfl, s5, l5, F5, P9'⟩ := PC.out.step hr
        have P9 := Lib.hid (show PlT p g1 g2 G g q w0 w F x5 s5 l5 F5 a b (k + 1) bR bO x y from P9')
        clear hr P9' PC UA c0 r4 c2 HRD
        go_wp2_with fail
        go_wp2_with fail
        go_round
        case rel => exact ⟨k + 1, HLT.out, rfl, _, _, _, _, _, P9⟩
        case measure => (have := HLT.out; simp [intOf]; omega)
    · have hd : ¬ (k : Int) < (N : Int) := by omega
      have r1 : wr.cell? ⟨bR, 1, none⟩ = some (.pointer (some ⟨g1, 0, none⟩)) := PS.out.rig.1.cell 1
      clear hlt hk
      go_wp2_with fail
      refine (tl_in0 PS.out.tl).mono ?_
      rintro e x5 ⟨rfl, s5, F5, ht, hm, hg⟩
      have P5 := Lib.hid (PS.out.go ht hm)
      have G5 := Lib.hid hg
      clear ht hm hg PS r1
      have r2 : x5.cell? ⟨bR, 2, none⟩ = some (.pointer (some ⟨g2, 0, none⟩)) := P5.out.rig.1.cell 2
      go_wp2_with fail
      refine (tl_in1 P5.out.tl G5.out).mono ?_
      rintro e x6 ⟨rfl, s6, F6, ht, hm, hg⟩
      have P6 := Lib.hid (P5.out.go ht hm)
      have G6 := Lib.hid hg
      clear ht hm hg P5 G5 r2
      go_wp2_with fail
      exact bodyPost_end (results_none Tryz.results9 _ _ _) rfl ⟨rfl, s6, _, F6, (P6.out.more (Nat.le_trans HK.out HN.out)).tl, P6.out.new, P6.out.but, G6.out⟩
end
end Go.Proofs.YtnplhagfmfggcaaGreat.Lo
/-
  Whether acts are too many, or a body of theirs is too long.
-/
namespace Go.Proofs.YtnplhagfmfggcaaGreat.Lo
open Go.RowKit Kd
attribute [local go_sem ↓] Go.wp_at_zero Go.wp_at_succ
theorem great_no {l : List La} (h1 : l.length ≤ 30) (h2 : ∀ j, ∀ h : j < l.length, (l[j]).b.length ≤ 120) : greatL l = false := by
  rw [greatL, decide_eq_false (by omega), Bool.false_or, List.any_eq_false]
  intro x hx
  obtain ⟨j, hj, rfl⟩ := List.mem_iff_getElem.1 hx
  have := h2 j hj
  simp; omega
theorem great_body {l : List La} {j : Nat} (hj : j < l.length) (h : 120 < (l[j]).b.length) : greatL l = true := by
  rw [greatL, Bool.or_eq_true]
  exact .inr (List.any_eq_true.2 ⟨l[j], List.getElem_mem hj, decide_eq_true h⟩)
set_option maxRecDepth 100000 in
set_option maxHeartbeats 1600000 in
theorem great_any (A : Option Addr) (n c : Nat) (l : List La) (w : World) (hl : l.length = n) (hm : n ≤ 9223372036854775807) (hr : Rd w.heap.size w A (las l)) (hb : ∀ y ∈ l, y.b.length ≤ 9223372036854775807) :
    Calls Tryz.prog 5 #[.slice A n c] w (RetB (.int .i64 (if greatL l then 1 else 0)) w) := by
  have HR := Lib.hid hr
  have HL := Lib.hid hl
  have HM := Lib.hid hm
  have HB := Lib.hid hb
  obtain ⟨G, hG⟩ : ∃ G : Int, G = if greatL l then 1 else 0 := ⟨_, rfl⟩
  have HG := Lib.hid hG
  rw [← hG]
  clear hr hl hm hb hG
  go_enter Tryz.func5, Tryz.ntmps5
  by_cases hn : 30 < n
  · have n1 : (30 : Int) < (n : Int) := by omega
    have hg : G = 1 := by rw [HG.out, greatL, decide_eq_true (by rw [HL.out]; exact hn), Bool.true_or, if_pos rfl]
    subst hg
    go_wp2_with fail
    go_ret
    exact ⟨rfl, Below.refl _ _⟩
  have n1 : ¬ (30 : Int) < (n : Int) := by omega
  have HN := Lib.hid (show n ≤ 30 by omega)
  clear hn
  go_wp2_with fail
  go_loopw [10] (fun i wr => ∃ k : Nat, k ≤ n ∧ i = .int .i64 (k : Int) ∧ Hid (Below w.heap.size w wr) ∧ Hid (∀ j, ∀ h : j < l.length, j < k → (l[j]).b.length ≤ 120)) (fun i _ => n - (intOf i).toNat)
  case atStart => exact ⟨0, Nat.zero_le _, rfl, Lib.hid (Below.refl _ _), Lib.hid (fun j _ h => by omega)⟩
  case round =>
    obtain ⟨k, hk, rfl, B, HO⟩ := hrel
    have HK := Lib.hid hk
    by_cases hlt : k < n
    · have HLT := Lib.hid hlt
      have j0 : (0 : Int) ≤ (k : Int) := by omega
      have j1 : (k : Int) < (n : Int) := by omega
      have wp1 : IntKind.i64.wrap ((k : Int) + 1) = ((k + 1 : Nat) : Int) := IntWalk.i64_in _ (by have := HM.out; omega)
      have hkl : k < l.length := by rw [HL.out]; exact hlt
      obtain ⟨ad, hA, _, hcell⟩ := rd_lact (HR.out.below B.out) hkl
      subst hA
      obtain ⟨u, hu⟩ : ∃ u, u = l[k] := ⟨_, rfl⟩
      rw [← hu] at hcell
      have HU := Lib.hid (show ∀ h : k < l.length, u = l[k] from fun _ => hu)
      have HCE := Lib.hid hcell
      have HIU := Lib.hid (show (Tryz.prog.info? 67).map (·.size) = some (laV u).length from lact_info)
      have HBN := Lib.hid (show u.b.length ≤ 9223372036854775807 by rw [hu]; exact HB.out _ (List.getElem_mem hkl))
      clear hu hcell hlt hk
      by_cases hbig : 120 < u.b.length
      · have b1 : (120 : Int) < (u.b.length : Int) := by omega
        have hg : G = 1 := by rw [HG.out, great_body hkl (by rw [← HU.out hkl]; exact hbig), if_pos rfl]
        subst hg
        clear hkl hbig
        go_wp2_with first | (refine wpList_load_at rfl 67 (.tmp 12) rfl (ad.add (k * 3)) rfl HCE.out lact_under rfl HIU.out ?_; change wpList _ _ _ _ (Act.put _ _ (.agg #[.int .u8 u.kind, .int .u8 u.n, .slice u.A u.b.length u.c])) _)
        go_ret
        exact ⟨rfl, B.out.alloc B.out.size _⟩
      · have b1 : ¬ (120 : Int) < (u.b.length : Int) := by omega
        have HO2 := Lib.hid (show ∀ j, ∀ h : j < l.length, j < k + 1 → (l[j]).b.length ≤ 120 from fun j h hj => by
          rcases Nat.lt_or_ge j k with h1 | h1
          · exact HO.out j h h1
          · obtain rfl : k = j := by omega
            rw [← HU.out h]; omega)
        clear hkl hbig HO
        go_wp2_with first | (refine wpList_load_at rfl 67 (.tmp 12) rfl (ad.add (k * 3)) rfl HCE.out lact_under rfl HIU.out ?_; change wpList _ _ _ _ (Act.put _ _ (.agg #[.int .u8 u.kind, .int .u8 u.n, .slice u.A u.b.length u.c])) _)
        go_round
        case rel => exact ⟨k + 1, HLT.out, rfl, Lib.hid (B.out.alloc B.out.size _), HO2⟩
        case measure => have := HLT.out; simp [intOf]; omega
    · have hd : ¬ (k : Int) < (n : Int) := by omega
      have hg : G = 0 := by rw [HG.out, great_no (by rw [HL.out]; exact HN.out) (fun j h => HO.out j h (by have := HL.out; omega)), if_neg (by simp)]
      subst hg
      go_wp2_with fail
      go_ret
      exact ⟨rfl, B.out⟩
end Go.Proofs.YtnplhagfmfggcaaGreat.Lo
