/-
  Texts of this seat, one behind the other: ShMid, CiRealS, KgCiph, KcReal, RowN, KgMany, KgNode, BuildN, KgBuild, KgSplit, KgWithout, KgPunct, KgCount.
-/
import Derived.Deep.Upon
import Derived.Lib.SliceRun
import Derived.Test.YtippbjpodnnhiaaProg
import Derived.Deep.QuietTactic
import Derived.BigQuiet
import Derived.Laws.Tables
import Derived.Great.FillDense
import Derived.Great.BuildSlice
import Derived.Deep.RegionHeld
import Derived.Test.YtippbjpodnnhiaaMw2
/-
  Cells in the midst of a block that is known whole; what grows; a copy told by the world that it makes.
-/
namespace Go.Proofs.Ytippbjpodnnhiaa
open Go.RowKit
theorem grown_trans {w w1 w2 : World} {row : Option Nat} (h : w.grownBy w1 row) (h' : w1.grownBy w2 row) : w.grownBy w2 row :=
  ⟨h'.os.trans h.os, h'.tape.trans h.tape, h'.output.trans h.output, Nat.le_trans h.size h'.size, fun k hk hne => (h'.block k (Nat.lt_of_lt_of_le hk h.size) hne).trans (h.block k hk hne)⟩
theorem grown_of_below {w w' : World} {row : Option Nat} (h : Below w.heap.size w w') : w.grownBy w' row :=
  ⟨h.os, h.tape, h.output, h.size, fun k hk _ => h.block k hk⟩
theorem rd_far {B g : Nat} {w w' : World} {A : Option Addr} {xs : List Value} (h : Rd B w A xs) (hg : w.grownBy w' (some g)) (hB : B ≤ g) : Rd B w' A xs := fun k u hu => by
  obtain ⟨ad, e, hl, hc⟩ := h k u hu
  refine ⟨ad, e, hl, hg.cell hc ?_⟩
  rw [add_block]
  intro h'
  injection h' with h'
  omega
theorem own_far {w w' : World} {base n g : Nat} {e : TypeId} {v : Value} {xs : List Value} (h : w.ownsRow base e 1 v n xs) (hg : w.grownBy w' (some g)) (hne : ∀ k, v.ownBlock = some k → k ≠ g) : w'.ownsRow base e 1 v n xs :=
  h.kept hg (by
    cases hv : v.ownBlock with
    | none => exact .inl rfl
    | some k => exact .inr (fun e => hne k hv (by injection e)))
theorem blk_far {w w' : World} {g g' : Nat} {cs : Array Value} {A : TypeId} (h : Blk w g' cs A) (hg : w.grownBy w' (some g)) (hne : g' ≠ g) : Blk w' g' cs A := by
  unfold Blk
  rw [hg.block g' h.lt (by intro e; injection e with e; exact hne e)]
  exact h
/-- The slice at A reads the cells xs, none of which lies in block g. -/
def Rf (g : Nat) (w : World) (A : Option Addr) (xs : List Value) : Prop :=
  ∀ k u, xs[k]? = some u → ∃ ad, A = some ad ∧ ad.block ≠ g ∧ w.cell? (ad.add k) = some u
section
variable {g : Nat} {w w' : World} {A : Option Addr} {xs : List Value}
theorem Rf.none : Rf g w A [] := fun k u h => by simp at h
theorem Rf.none' : Rf g w A (bv []) := fun k u h => by simp [bv] at h
theorem Rf.grown (h : Rf g w A xs) (hg : w.grownBy w' (some g)) : Rf g w' A xs := fun k u hu => by
  obtain ⟨ad, e, hn, hc⟩ := h k u hu
  exact ⟨ad, e, hn, hg.cell hc (by rw [add_block]; intro e; injection e with e; exact hn e)⟩
theorem Rf.src (h : Rf g w A xs) (hl : 0 < xs.length) : ∃ ad, A = some ad ∧ ad.block ≠ g ∧ ∀ j v, xs[j]? = some v → w.cell? (ad.add j) = some v := by
  obtain ⟨ad, rfl, hn, _⟩ := h 0 _ (List.getElem?_eq_getElem hl)
  refine ⟨ad, rfl, hn, fun j v hv => ?_⟩
  obtain ⟨ad', e, _, hc⟩ := h j v hv
  injection e with e
  subst e
  exact hc
theorem Rf.drop {a : Addr} {l : List UInt8} (h : Rf g w (some a) (bv l)) (k : Nat) : Rf g w (some (a.add k)) (bv (l.drop k)) := fun j u hu => by
  rw [bv_drop, List.getElem?_drop] at hu
  obtain ⟨ad, e, hb, hc⟩ := h (k + j) u hu
  injection e with e
  subst e
  exact ⟨_, rfl, by rw [add_block]; exact hb, by rw [add_twice]; exact hc⟩
theorem Rf.of_rd {B : Nat} (h : Rd B w A xs) (hB : B ≤ g) : Rf g w A xs := fun k u hu => by
  obtain ⟨ad, e, hb, hc⟩ := h k u hu
  exact ⟨ad, e, by omega, hc⟩
theorem Rf.of_own {base n c : Nat} {e : TypeId} (h : w.ownsRow base e 1 (.slice A n c) n xs) (hg : g < base) : Rf g w A xs := fun k u hu => by
  obtain ⟨ad, e', hb, hc⟩ := Rd.own h k u hu
  have hk : k < xs.length := (List.getElem?_eq_some_iff.1 hu).1
  have hn := own_len h
  subst e'
  have := (h.lt ad.block rfl).1
  exact ⟨ad, rfl, by omega, hc⟩
end
theorem grown_setCell (w : World) (g o : Nat) (v : Value) : w.grownBy (w.setCell ⟨g, o, none⟩ v) (some g) :=
  ⟨rfl, rfl, rfl, by simp, fun k _ hne => heap_setCell_other _ _ _ _ (fun e => hne (by rw [e]))⟩
theorem grown_setCells (g : Nat) : ∀ (vs : List Value) (o : Nat) (w : World), w.grownBy (w.setCells g o vs) (some g)
  | [], _, w => World.grownBy.refl w _
  | v :: vs, o, w => grown_trans (grown_setCell w g o v) (grown_setCells g vs (o + 1) _)
theorem grown_setRow (w : World) (g : Nat) (cs : Array Value) : w.grownBy (w.setRow g cs) (some g) :=
  ⟨rfl, rfl, rfl, by simp, fun k _ hne => setRow_other w g k cs (fun e => hne (by rw [e]))⟩
theorem grown_drew (w : World) (row : Option Nat) : w.grownBy w.drew row := ⟨rfl, rfl, rfl, Nat.le_refl _, fun _ _ _ => rfl⟩
theorem grown_drewN (w : World) (q : Nat) (row : Option Nat) : w.grownBy (w.drewN q) row := ⟨rfl, rfl, rfl, Nat.le_refl _, fun _ _ _ => rfl⟩

theorem splice_right {α : Type} (X L : List α) (o : Nat) (cs : List α) : splice (X ++ L) (X.length + o) cs = X ++ splice L o cs := by
  unfold splice
  rw [List.take_append, List.take_of_length_le (Nat.le_add_right _ _), Nat.add_sub_cancel_left, List.append_assoc, show X.length + o + cs.length = X.length + (o + cs.length) by omega, List.drop_append, List.drop_of_length_le (Nat.le_add_right _ _), List.nil_append, Nat.add_sub_cancel_left]
theorem splice_left {α : Type} (L Z : List α) (o : Nat) (cs : List α) (h : o + cs.length ≤ L.length) : splice (L ++ Z) o cs = splice L o cs ++ Z := by
  unfold splice
  rw [List.take_append_of_le_length (by omega), List.drop_append_of_le_length h, List.append_assoc, List.append_assoc]
theorem splice_whole {α : Type} (L cs : List α) (h : cs.length = L.length) : splice L 0 cs = cs := by
  unfold splice
  rw [List.take_zero, List.nil_append, List.drop_of_length_le (by omega), List.append_nil]
theorem splice_set {α : Type} (L : List α) (o : Nat) (v : α) (cs : List α) (h : o < L.length) : splice (L.set o v) (o + 1) cs = splice L o (v :: cs) := by
  unfold splice
  rw [List.take_set, List.drop_set_of_lt (by omega), List.length_cons, show o + 1 + cs.length = o + (cs.length + 1) by omega]
  rw [List.take_add_one, List.getElem?_eq_getElem h, Option.toList_some, List.set_append_right _ _ (by rw [List.length_take]; omega), List.length_take, Nat.min_eq_left (by omega), Nat.sub_self, List.set_cons_zero, List.append_assoc]
  rfl
theorem row_setCells (g : Nat) (t : TypeId) : ∀ (vs : List Value) (o : Nat) (w : World) (cs : List Value), w.heap[g]? = some (.cells cs.toArray t (0, 0)) → o + vs.length ≤ cs.length → (w.setCells g o vs).heap[g]? = some (.cells (splice cs o vs).toArray t (0, 0))
  | [], o, w, cs, h, _ => by
    have e : splice cs o [] = cs := by unfold splice; simp
    rw [e]; exact h
  | v :: vs, o, w, cs, h, hl => by
    rw [List.length_cons] at hl
    have h1 := heap_setCell_same w g o _ t v h
    rw [List.setIfInBounds_toArray] at h1
    have h2 := row_setCells g t vs (o + 1) (w.setCell ⟨g, o, none⟩ v) (cs.set o v) h1 (by rw [List.length_set]; omega)
    rw [splice_set cs o v vs (by omega)] at h2
    exact h2
theorem there_of_blk {w : World} {g : Nat} {cs : List Value} {A : TypeId} (h : Blk w g cs.toArray A) {o n : Nat} (hn : o + n ≤ cs.length) : w.there g o n := fun j hj =>
  ⟨by rw [h.cell, List.getElem?_toArray, List.getElem?_eq_getElem (by omega)]; rfl, h.free _⟩
theorem range_of_blk {w : World} {g : Nat} {X Y Z : List Value} {A : TypeId} (h : Blk w g (X ++ (Y ++ Z)).toArray A) : w.rangeAt g X.length Y := fun j v hv => by
  rw [h.cell, List.getElem?_toArray, List.getElem?_append_right (Nat.le_add_right _ _), Nat.add_sub_cancel_left]
  have hj := (List.getElem?_eq_some_iff.1 hv).1
  rw [List.getElem?_append_left hj]
  exact hv
/-- A copy of something, at a step of a region that draws: the world is told. -/
theorem step_copy_set {P : Program} {ops : Array Oper} {o : Oper} {a : Act} {w : World} {K : Act → World → Prop} {Q : Exit → Act → World → Prop} {E : Prop} (hgd : o.guard = none) (d s : Operand) (dT sT : TypeId)
    (ho : o.op = .call { callee := .builtin .copy, args := #[d, s], argTypes := #[dT, sT] }) (elem : TypeId) (hu : P.underlying dT = some (.slice elem)) (hsz : (P.info? elem).map (·.size) = some 1)
    (ad : Addr) (g off dLen dCap sLen sCap : Nat) (hd : a.eval d = .slice (some ⟨g, off, none⟩) dLen dCap) (hs : a.eval s = .slice (some ad) sLen sCap)
    (cur : List Value) (t : TypeId) (hg : w.heap[g]? = some (.cells cur.toArray t (0, 0))) (cs : List Value) (hn : cs.length = Nat.min sLen dLen)
    (hsrc : ∀ j v, cs[j]? = some v → w.cell? (ad.add j) = some v)
    (hfit : off + cs.length ≤ cur.length) (h1 : ∀ v ∈ cs, v.oneCell' = true) (k : Nat) (hk : cs.length = k)
    (h : K (a.put o.dst (goInt k)) (w.setRow g (splice cur off cs).toArray)) :
    if Region.wanted o (yielded ops a.tmps) = true then Oper.wp P o a w K Q else E := by
  subst hk
  have hw : Region.wanted o (yielded ops a.tmps) = true := by simp [Region.wanted, hgd]
  rw [if_pos hw]
  have hrun := run_copy_row (P := P) w dT sT o.type elem g off dLen dCap ad sLen sCap cur.toArray t cs hu hsz hg hn hsrc (by simpa using hfit) h1
  unfold Oper.wp
  simp [execOp, ho, resolve, invoke, builtin, hd, hs, hrun, Result.andThen]
  unfold splice at h
  simp only [Oper.upon]
  simpa using h
end Go.Proofs.Ytippbjpodnnhiaa
/-
  The contract of the real cipher's Split.
-/
namespace Go.Proofs.Ytippbjpodnnhiaa.Ci
open Go.RowKit
attribute [local go_sem ↓] Go.wp_at_zero Go.wp_at_succ
theorem info_64 : (Try.prog.info? 93).map (·.size) = some 64 := by kernel_rfl
theorem info_keyR : (Try.prog.info? 43).map (·.size) = some 32 := by kernel_rfl
theorem info5r : (Try.prog.info? 5).map (·.size) = some 1 := by kernel_rfl
/-- Two arrays are told. -/
theorem results_cells2 {P : Program} {fn : Func} {p q : Tmp} {ty : TypeId} (h : fn.results = #[.cell p ty, .cell q ty]) (tmps : Array Value) (w : World) (g g' : Nat) (t t' : TypeId) (cs cs' : Array Value) (d : TypeDesc)
    (hp : tmps.getD p undef = .pointer (some ⟨g, 0, none⟩)) (hq : tmps.getD q undef = .pointer (some ⟨g', 0, none⟩)) (hg : Blk w g cs t) (hg' : Blk w g' cs' t')
    (hu : P.underlying ty = some d) (hd : (match d with | .struct _ | .array _ _ => true | _ => false) = true) (hi : (P.info? ty).map (·.size) = some cs.size) (hi' : (P.info? ty).map (·.size) = some cs'.size) :
    (results fn tmps).run P w = .ok (.tuple #[.agg cs, .agg cs']) w := by
  have hp' : tmps[p]?.getD undef = .pointer (some ⟨g, 0, none⟩) := by simpa using hp
  have hq' : tmps[q]?.getD undef = .pointer (some ⟨g', 0, none⟩) := by simpa using hq
  simp [results, h, hp', hq', asAddr, run_loadVar_row w g t ty cs (0, 0) d hg hu hd hi, run_loadVar_row w g' t' ty cs' (0, 0) d hg' hu hd hi']
theorem four_blocks (w : World) (A B C D : Obj) : ((((w.alloc A).alloc B).alloc C).alloc D).heap[w.heap.size]? = some A ∧ ((((w.alloc A).alloc B).alloc C).alloc D).heap[w.heap.size + 1]? = some B ∧ ((((w.alloc A).alloc B).alloc C).alloc D).heap[w.heap.size + 1 + 1]? = some C ∧ ((((w.alloc A).alloc B).alloc C).alloc D).heap[w.heap.size + 1 + 1 + 1]? = some D ∧ Below w.heap.size w ((((w.alloc A).alloc B).alloc C).alloc D) := by
  obtain ⟨h1, h2, h3, hb⟩ := three_blocks w A B C
  have hs : (((w.alloc A).alloc B).alloc C).heap.size = w.heap.size + 1 + 1 + 1 := by simp
  refine ⟨?_, ?_, ?_, ?_, hb.alloc (by rw [hs]; omega) _⟩
  · rw [heap_alloc_old _ _ (by rw [hs]; omega)]; exact h1
  · rw [heap_alloc_old _ _ (by rw [hs]; omega)]; exact h2
  · rw [heap_alloc_old _ _ (by rw [hs]; omega)]; exact h3
  · rw [← hs]; exact heap_alloc_new _ _
theorem blk_old1 {w : World} {g : Nat} {cs : Array Value} {t : TypeId} {A : Obj} (h : Blk w g cs t) : Blk (w.alloc A) g cs t := (heap_alloc_old _ _ h.lt).trans h
theorem blk_old2 {w : World} {g : Nat} {cs : Array Value} {t : TypeId} {A B : Obj} (h : Blk w g cs t) : Blk ((w.alloc A).alloc B) g cs t := blk_old1 (blk_old1 h)
theorem blk_row {w : World} {g g' : Nat} {cs cs' : Array Value} {t : TypeId} (h : Blk w g cs t) (hg : g ≠ g') : Blk (w.setRow g' cs') g cs t := by unfold Blk; rw [setRow_other _ _ _ _ hg]; exact h
theorem below_alloc2 {B : Nat} {w w' : World} {X Y : Obj} (h : Below B w w') (hB : B ≤ w'.heap.size) : Below B w ((w'.alloc X).alloc Y) := (h.alloc hB _).alloc (by simp; omega) _
/-- A key's two. -/
def leftL (k : List UInt8) : List UInt8 := (blockL k 1 0).take 32
def rightL (k : List UInt8) : List UInt8 := (blockL k 1 0).drop 32
theorem leftL_length (k : List UInt8) : (leftL k).length = 32 := by rw [leftL, List.length_take, blockL_length]; rfl
theorem rightL_length (k : List UInt8) : (rightL k).length = 32 := by rw [rightL, List.length_drop, blockL_length]
theorem bv_drop_get {b : List UInt8} {m j : Nat} {v : Value} (h : (bv (b.drop m))[j]? = some v) : (bv b)[m + j]? = some v := by
  rw [bv_drop, List.getElem?_drop] at h
  exact h
set_option maxRecDepth 100000 in
set_option maxHeartbeats 1600000 in
theorem realsplit_any (key : List UInt8) (hk : key.length = 32) (w : World) :
    Calls Try.prog 26 #[.agg #[], .agg (bva key)] w (RetB (.tuple #[.agg (bva (leftL key)), .agg (bva (rightL key))]) w) := by
  obtain ⟨z, hz0⟩ : ∃ z : List UInt8, z = List.replicate 32 0 := ⟨_, rfl⟩
  obtain ⟨y, hy0⟩ : ∃ y : List UInt8, y = List.replicate 64 0 := ⟨_, rfl⟩
  obtain ⟨b1, b2, b3, b4, hb⟩ := four_blocks w (.cells #[] 68) (.cells (bva key) 43) (.cells (bva z) 43) (.cells (bva z) 43)
  have hz : ∀ W, (zeroValue 43).run Try.prog W = .ok (.agg (bva z)) W := fun _ => by rw [hz0]; kernel_rfl
  have hy : ∀ W, (zeroValue 93).run Try.prog W = .ok (.agg (bva y)) W := fun _ => by rw [hy0]; kernel_rfl
  have Z3 : Hid (z.length = 32) := by show _ = _; rw [hz0]; rfl
  have Y3 : Hid (y.length = 64) := by show _ = _; rw [hy0]; rfl
  obtain ⟨L, hL⟩ : ∃ L, L = blockL key 1 0 := ⟨_, rfl⟩
  have HL3 : Hid (L.length = 64) := by show _ = _; rw [hL, blockL_length]
  have HL : Hid ((Try.prog.info? 93).map (·.size) = some (bva L).size) := by rw [bva_size, HL3.out]; exact info_64
  have HLL := Lib.hid hL
  obtain ⟨p, hp⟩ : ∃ p, p = L.take 32 := ⟨_, rfl⟩
  have HP3 : Hid (p.length = 32) := by show _ = _; rw [hp, List.length_take, HL3.out]; rfl
  have HP : Hid ((Try.prog.info? 43).map (·.size) = some (bva p).size) := by rw [bva_size, HP3.out]; exact info_keyR
  have HPP := Lib.hid hp
  obtain ⟨q, hq⟩ : ∃ q, q = L.drop 32 := ⟨_, rfl⟩
  have HQ3 : Hid (q.length = 32) := by show _ = _; rw [hq, List.length_drop, HL3.out]
  have HQ : Hid ((Try.prog.info? 43).map (·.size) = some (bva q).size) := by rw [bva_size, HQ3.out]; exact info_keyR
  have HQQ := Lib.hid hq
  have B2 := Lib.hid (show Blk _ _ _ _ from b2)
  have B3 := Lib.hid (show Blk _ _ _ _ from b3)
  have B4 := Lib.hid (show Blk _ _ _ _ from b4)
  have BB := Lib.hid hb
  have HK := Lib.hid hk
  have HI : Hid ((Try.prog.info? 43).map (·.size) = some (bva key).size) := by rw [bva_size, hk]; exact info_keyR
  clear hz0 hy0 b1 b2 b3 b4 hb hk hL hp hq
  go_enter Try.func26, Try.ntmps26
  go_wp2_with (refine wpList_load_row rfl 43 (.tmp 3) rfl (w.heap.size + 1) rfl 43 (bva key) (0, 0) _ ?hg Try.underlying43 rfl HI.out ?_; case hg => exact B2.out)
  refine (block_any key HK.out 1 0 _).mono ?_
  rintro e w1 ⟨rfl, bw⟩
  rw [← HLL.out]
  have C3 := Lib.hid (B3.out.below bw)
  have C4 := Lib.hid (B4.out.below bw)
  have CB := Lib.hid (BB.out.trans (bw.mono BB.out.size))
  have hw1 : w.heap.size + 1 + 1 + 1 < w1.heap.size := by have h1 := C4.out.lt; omega
  clear bw B2 B3 B4 BB
  go_wp2_with (refine wpList_store_row rfl 93 (.tmp 6) (.tmp 9) rfl w1.heap.size (bva L) rfl rfl 93 (bva y) (heap_alloc_new _ _) HL.out (by simp only [bva_size, HL3.out, Y3.out]) (bva_one _) ?_
               generalize hw2 : World.setRow _ _ _ = w2
               have d3 : Blk w2 (w.heap.size + 1 + 1) (bva z) 43 := by rw [← hw2]; exact blk_past C3.out
               have d4 : Blk w2 (w.heap.size + 1 + 1 + 1) (bva z) 43 := by rw [← hw2]; exact blk_past C4.out
               have d5 : Blk w2 w1.heap.size (bva L) 93 := by rw [← hw2]; exact blk_new _
               have db : Below w.heap.size w w2 := by rw [← hw2]; exact below_new CB.out CB.out.size
               have D3 := Lib.hid d3
               have D4 := Lib.hid d4
               have D5 := Lib.hid d5
               have DB := Lib.hid db
               clear d3 d4 d5 db hw2 C3 C4 CB)
  refine wp_region_any (by kernel_rfl) ?_
  change wpAny _ _ _ _ _ _ _ (World.drew _)
  refine wpAny_take (i := 0) (v := ?v0) rfl (by kernel_rfl) (by kernel_rfl) (by kernel_rfl) (fun _ _ _ h => h) (Or.inl ⟨by rfl, ?y0⟩) ?_
  case y0 => (intro w'; go_simp; try with_reducible rfl)
  refine wpAny_take (i := 1) (v := ?v1) rfl (by kernel_rfl) (by kernel_rfl) (by kernel_rfl) (fun _ _ _ h => h) (Or.inl ⟨by rfl, ?y1⟩) ?_
  case y1 => (intro w'; go_simp; try with_reducible rfl)
  refine wpAny_ready (rs := [2]) (by kernel_rfl) (by simp) (AllReady.cons rfl (fun K hK => ?_) AllReady.nil)
  refine step_copy_set rfl (.tmp 10) (.tmp 11) 24 24 rfl 5 Try.underlying24 info5r ⟨w1.heap.size, 0, none⟩ (w.heap.size + 1 + 1) 0 32 32 64 64 rfl rfl (bv z) 43 ?c3 (bv p) ?c1 ?c4 ?c2 (bv_one _) 32 (by rw [bv_length, HP3.out]) ?_
  case c3 => exact D3.out
  case c4 => exact fun j v hv => by rw [add_head]; rw [HPP.out] at hv; exact (D5.out.cell j).trans (by rw [bva, List.getElem?_toArray]; exact bv_take_get hv)
  case c1 => rw [bv_length, HP3.out]; rfl
  case c2 => rw [bv_length, bv_length, HP3.out, Z3.out]; omega
  generalize hw4 : World.setRow _ _ _ = w4
  have r3 : Blk w4 (w.heap.size + 1 + 1) (bva p) 43 := by
    rw [← hw4, splice_whole _ _ (by rw [bv_length, bv_length, HP3.out, Z3.out])]; exact setRow_heap _ _ _ _ _ _ D3.out
  have r4 : Blk w4 (w.heap.size + 1 + 1 + 1) (bva z) 43 := by rw [← hw4]; unfold Blk; rw [setRow_other _ _ _ _ (by omega)]; exact D4.out
  have r5 : Blk w4 w1.heap.size (bva L) 93 := by rw [← hw4]; unfold Blk; rw [setRow_other _ _ _ _ (by omega)]; exact D5.out
  have rb : Below w.heap.size w w4 := by rw [← hw4]; exact below_setRow DB.out.drew (by omega) _
  have R3 := Lib.hid r3
  have R4 := Lib.hid r4
  have R5 := Lib.hid r5
  have RB := Lib.hid rb
  clear r3 r4 r5 rb hw4 D3 D4 D5 DB
  refine hK _ _ ?_
  clear hK K
  refine wpAny_take (i := 3) (v := ?v3) rfl (by kernel_rfl) (by kernel_rfl) (by kernel_rfl) (fun _ _ _ h => h) (Or.inl ⟨by rfl, ?y3⟩) ?_
  case y3 => (intro w'; go_simp; try with_reducible rfl)
  refine wpAny_done (by kernel_rfl) ?_ _
  go_wp2_with fail
  simp only [List.getElem_toArray, List.getElem_cons_succ, List.getElem_cons_zero, Act.put, List.setIfInBounds_toArray, List.set_cons_zero, List.set_cons_succ]
  refine wp_region_any (by kernel_rfl) ?_
  change wpAny _ _ _ _ _ _ _ (World.drew _)
  refine wpAny_take (i := 0) (v := ?w0) rfl (by kernel_rfl) (by kernel_rfl) (by kernel_rfl) (fun _ _ _ h => h) (Or.inl ⟨by rfl, ?z0⟩) ?_
  case z0 => (intro w'; go_simp; try with_reducible rfl)
  refine wpAny_take (i := 1) (v := ?w1) rfl (by kernel_rfl) (by kernel_rfl) (by kernel_rfl) (fun _ _ _ h => h) (Or.inl ⟨by rfl, ?z1⟩) ?_
  case z1 => (intro w'; go_simp; try with_reducible rfl)
  refine wpAny_take (i := 2) (v := ?w2) rfl (by kernel_rfl) (by kernel_rfl) (by kernel_rfl) (fun _ _ _ h => h) (Or.inl ⟨by rfl, ?z2⟩) ?_
  case z2 => (intro w'; go_simp; try with_reducible rfl)
  simp only [List.getElem_toArray, List.getElem_cons_succ, List.getElem_cons_zero, Act.put, List.setIfInBounds_toArray, List.set_cons_zero, List.set_cons_succ]
  refine wpAny_ready (rs := [3]) (by kernel_rfl) (by simp) (AllReady.cons rfl (fun K hK => ?_) AllReady.nil)
  refine step_copy_set rfl (.tmp 13) (.tmp 15) 24 24 rfl 5 Try.underlying24 info5r ⟨w1.heap.size, 32, none⟩ (w.heap.size + 1 + 1 + 1) 0 32 32 32 32 rfl rfl (bv z) 43 ?d3 (bv q) ?d1 ?d4 ?d2 (bv_one _) 32 (by rw [bv_length, HQ3.out]) ?_
  case d3 => exact R4.out
  case d4 => exact fun j v hv => by rw [Addr.add_mid]; rw [HQQ.out] at hv; exact (R5.out.cell (32 + j)).trans (by rw [bva, List.getElem?_toArray]; exact bv_drop_get hv)
  case d1 => rw [bv_length, HQ3.out]; rfl
  case d2 => rw [bv_length, bv_length, HQ3.out, Z3.out]; omega
  generalize hw5 : World.setRow _ _ _ = w5
  have s4 : Blk w5 (w.heap.size + 1 + 1 + 1) (bva q) 43 := by
    rw [← hw5, splice_whole _ _ (by rw [bv_length, bv_length, HQ3.out, Z3.out])]; exact setRow_heap _ _ _ _ _ _ R4.out
  have s3 : Blk w5 (w.heap.size + 1 + 1) (bva p) 43 := by rw [← hw5]; unfold Blk; rw [setRow_other _ _ _ _ (by omega)]; exact R3.out
  have sb : Below w.heap.size w w5 := by rw [← hw5]; exact below_setRow RB.out.drew (by omega) _
  have S3 := Lib.hid s3
  have S4 := Lib.hid s4
  have SB := Lib.hid sb
  clear s3 s4 sb hw5 R3 R4 R5 RB
  refine hK _ _ ?_
  clear hK K
  refine wpAny_done (by kernel_rfl) ?_ _
  simp only [List.getElem_toArray, List.getElem_cons_succ, List.getElem_cons_zero, Act.put, List.setIfInBounds_toArray, List.set_cons_zero, List.set_cons_succ]
  go_wp2_with (first
    | (refine wpList_load_row rfl 43 (.tmp 4) rfl (w.heap.size + 1 + 1) rfl 43 (bva p) (0, 0) _ S3.out Try.underlying43 rfl HP.out ?_)
    | (refine wpList_load_row rfl 43 (.tmp 5) rfl (w.heap.size + 1 + 1 + 1) rfl 43 (bva q) (0, 0) _ S4.out Try.underlying43 rfl HQ.out ?_)
    | (refine wpList_store_row rfl 43 (.tmp 4) (.tmp 17) rfl (w.heap.size + 1 + 1) (bva p) rfl rfl 43 (bva p) S3.out HP.out rfl (bva_one _) ?_
       generalize hw6 : World.setRow _ _ _ = w6
       have u3 : Blk w6 (w.heap.size + 1 + 1) (bva p) 43 := by rw [← hw6]; exact setRow_heap _ _ _ _ _ _ S3.out
       have u4 : Blk w6 (w.heap.size + 1 + 1 + 1) (bva q) 43 := by rw [← hw6]; unfold Blk; rw [setRow_other _ _ _ _ (by omega)]; exact S4.out
       have ub : Below w.heap.size w w6 := by rw [← hw6]; exact below_setRow SB.out (by omega) _
       have U3 := Lib.hid u3
       have U4 := Lib.hid u4
       have UB := Lib.hid ub
       clear u3 u4 ub hw6 S3 S4 SB)
    | (refine wpList_store_row rfl 43 (.tmp 5) (.tmp 18) rfl (w.heap.size + 1 + 1 + 1) (bva q) rfl rfl 43 (bva q) U4.out HQ.out rfl (bva_one _) ?_))
  exact bodyPost_ret (v := .tuple #[.agg (bva p), .agg (bva q)]) (results_cells2 Try.results26 _ _ (w.heap.size + 1 + 1) (w.heap.size + 1 + 1 + 1) 43 43 (bva p) (bva q) _ rfl rfl (by unfold Blk; rw [setRow_other _ _ _ _ (by omega)]; exact U3.out) (setRow_heap _ _ _ _ _ _ U4.out) Try.underlying43 rfl HP.out HQ.out) rfl ⟨by rw [leftL, rightL, HPP.out, HQQ.out, HLL.out], below_setRow UB.out (by omega) _⟩
end Go.Proofs.Ytippbjpodnnhiaa.Ci
/-
  A cipher that a tree of keys is made of: how it is handed in, and what it splits a key into.
-/
namespace Go.Proofs.Ytippbjpodnnhiaa.Kg
open Go.RowKit
structure Ciph where
  T : TypeId
  x : Value
  f : Nat
  L : List UInt8 → List UInt8
  R : List UInt8 → List UInt8
  lenL : ∀ k, (L k).length = 32
  lenR : ∀ k, (R k).length = 32
  hM : ∀ fuel W, (method (fuel + 1) T x "Split").run Try.prog W = .ok (f, x) W
  hC : ∀ args W, (callFunc f args).run Try.prog W = .ok (.enter f args) W
  hS : ∀ k, k.length = 32 → ∀ W, Calls Try.prog f #[x, .agg (bva k)] W (RetB (.tuple #[.agg (bva (L k)), .agg (bva (R k))]) W)
/-- As it is handed in. -/
def Ciph.v (ci : Ciph) : Value := .iface ci.T ci.x
end Go.Proofs.Ytippbjpodnnhiaa.Kg
/-
  The real cipher as a cipher that a tree of keys is made of.
-/
namespace Go.Proofs.Ytippbjpodnnhiaa.Kc
open Go.RowKit Kg
theorem real_method (x : Array Value) (fuel : Nat) (W : World) : (method (fuel + 1) 68 (.agg x) "Split").run Try.prog W = .ok (26, .agg x) W := by kernel_rfl
theorem real_calls (args : Array Value) (W : World) : (callFunc 26 args).run Try.prog W = .ok (.enter 26 args) W := by kernel_rfl
/-- The real cipher. -/
def realC : Ciph := ⟨68, .agg #[], 26, Ci.leftL, Ci.rightL, Ci.leftL_length, Ci.rightL_length, fun fuel W => real_method #[] fuel W, fun args W => real_calls args W, fun k hk W => Ci.realsplit_any k hk W⟩
end Go.Proofs.Ytippbjpodnnhiaa.Kc
/-
  Rows of the call's own whose elements have several cells: append; loads of a whole struct at an address.
-/
namespace Go.Proofs.Ytippbjpodnnhiaa
open Go.RowKit
/-- t is a slice type of elements e of so many cells, whose zero is z, of so many bytes each. -/
structure EltN (P : Program) (t e : TypeId) (z : Value) (size bytes : Nat) : Prop where
  under : P.underlying t = some (.slice e)
  info : (P.info? e).map (fun i => (i.zero, i.size, i.bytes)) = some (some z, size, bytes)
  cells_ : z.cells.size = size
  pos : 0 < size
  some_ : 0 < bytes
theorem own_formN {w : World} {base n size : Nat} {e : TypeId} {v : Value} {xs : List Value} (h : w.ownsRow base e size v n xs) : ∃ A c, v = .slice A n c := by
  rcases h.2 with ⟨rfl, rfl⟩ | ⟨g, cap, _, rfl, _⟩
  · exact ⟨_, _, rfl⟩
  · exact ⟨_, _, rfl⟩
section
variable {P : Program} (w : World)
/-- append onto a row of the call's own, from whatever slice can be read, nil let in. -/
theorem run_appN {t e ty : TypeId} {z : Value} {size bytes : Nat} (E : EltN P t e z size bytes) {base n : Nat} {v : Value} {xs : List Value} (hown : w.ownsRow base e size v n xs)
    {B m c : Nat} {A : Option Addr} {news : List Value} (hr : Rd B w A news) (hm : news.length = m * size) (h1 : ∀ u ∈ news, u.oneCell' = true)
    (hsz : (n + m) * bytes ≤ 140737488355328) (hbase : base ≤ w.heap.size) :
    ∃ A' c' w', (Builtin.append_ #[t, t] ty #[v, .slice A m c]).run P w = .ok (.slice A' (n + m) c') w' ∧ w'.ownsRow base e size (.slice A' (n + m) c') (n + m) (xs ++ news) ∧ w.grownBy w' v.ownBlock ∧
      ((Value.slice A' (n + m) c').ownBlock = v.ownBlock ∨ (Value.slice A' (n + m) c').ownBlock = some w.heap.size) := by
  obtain ⟨i, hi, hz, hs, hby⟩ := info_parts E.info
  have fin : ∀ ad : Addr, (∀ j u, news[j]? = some u → w.cell? (ad.add j) = some u) → ∃ A' c' w', (Builtin.append_ #[t, t] ty #[v, .slice (some ad) m c]).run P w = .ok (.slice A' (n + m) c') w' ∧ w'.ownsRow base e size (.slice A' (n + m) c') (n + m) (xs ++ news) ∧ w.grownBy w' v.ownBlock ∧
      ((Value.slice A' (n + m) c').ownBlock = v.ownBlock ∨ (Value.slice A' (n + m) c').ownBlock = some w.heap.size) := by
    intro ad hc
    obtain ⟨v', w', hrun, h2, h3, _, h5⟩ := run_append_own_at (P := P) w base t ty e i z size bytes E.under hi hz hs hby E.cells_ E.pos v n xs hown ad m c news hm hc h1 (small_len E.some_ hsz) hsz hbase
    obtain ⟨A', c', rfl⟩ := own_formN h2
    exact ⟨A', c', w', hrun, h2, h3, h5⟩
  rcases A with _ | ad
  · have hn : news = [] := by
      rcases news with _ | ⟨u, r⟩
      · rfl
      · obtain ⟨_, h, _⟩ := hr 0 u rfl
        cases h
    subst hn
    obtain rfl : m = 0 := by
      have h0 := E.pos
      have h1 : 0 = m * size := hm
      rcases Nat.eq_zero_or_pos m with h | h
      · exact h
      · have := Nat.mul_pos h h0; omega
    obtain ⟨A', c', rfl⟩ := own_formN hown
    refine ⟨A', c', w, ?_, by simpa using hown, World.grownBy.refl w _, .inl rfl⟩
    rcases hown.2 with ⟨h, rfl⟩ | ⟨g, cap, cur, h, _, _, hnc, _⟩
    · injection h with ha hb hc
      subst ha; subst hc
      simp [Builtin.append_, run_underlying E.under, sizeOf, typeInfo, hi, Builtin.lenOf, Builtin.firstCells]
    · injection h with ha hb hc
      subst ha; subst hc
      simp [Builtin.append_, run_underlying E.under, sizeOf, typeInfo, hi, Builtin.lenOf, Builtin.firstCells, hnc, storeCells]
  · refine fin ad fun j u hu => ?_
    obtain ⟨ad', h, _, hc⟩ := hr j u hu
    injection h with h
    subst h
    exact hc

theorem wp_appN {o : Oper} {a : Act} {K : Act → World → Prop} {Q : Exit → Act → World → Prop} (s x : Operand) (t : TypeId)
    (ho : o.op = .call { callee := .builtin .append, args := #[s, x], argTypes := #[t, t] })
    {e : TypeId} {z : Value} {size bytes : Nat} (E : EltN P t e z size bytes) {base n : Nat} {v : Value} {xs : List Value} (hs : a.eval s = v) (hown : w.ownsRow base e size v n xs)
    {B m c : Nat} {A : Option Addr} {news : List Value} (hx : a.eval x = .slice A m c) (hr : Rd B w A news) (hm : news.length = m * size) (h1 : ∀ u ∈ news, u.oneCell' = true)
    (hsz : (n + m) * bytes ≤ 140737488355328) (hbase : base ≤ w.heap.size)
    (h : ∀ A' c' w', w'.ownsRow base e size (.slice A' (n + m) c') (n + m) (xs ++ news) → w.grownBy w' v.ownBlock →
      ((Value.slice A' (n + m) c').ownBlock = v.ownBlock ∨ (Value.slice A' (n + m) c').ownBlock = some w.heap.size) → K (a.put o.dst (.slice A' (n + m) c')) w') : o.wp P a w K Q := by
  obtain ⟨A', c', w', hrun, h2, h3, h4⟩ := run_appN w (ty := o.type) (c := c) E hown hr hm h1 hsz hbase
  unfold Oper.wp execOp
  simp only [ho, resolve, invoke, builtin, Sem.run_bind, Sem.run_pure, Result.andThen_ok, List.map_toArray, List.map_cons, List.map_nil, hs, hx, hrun]
  exact h A' c' w' h2 h3 h4

theorem wpList_appN {ops : Array Oper} {rest : List Oper} {o : Oper} {a : Act} {Q : Exit → Act → World → Prop} (hgd : o.guard = none) (s x : Operand) (t : TypeId)
    (ho : o.op = .call { callee := .builtin .append, args := #[s, x], argTypes := #[t, t] })
    {e : TypeId} {z : Value} {size bytes : Nat} (E : EltN P t e z size bytes) {base n : Nat} {v : Value} {xs : List Value} (hs : a.eval s = v) (hown : w.ownsRow base e size v n xs)
    {B m c : Nat} {A : Option Addr} {news : List Value} (hx : a.eval x = .slice A m c) (hr : Rd B w A news) (hm : news.length = m * size) (h1 : ∀ u ∈ news, u.oneCell' = true)
    (hsz : (n + m) * bytes ≤ 140737488355328) (hbase : base ≤ w.heap.size)
    (h : ∀ A' c' w', w'.ownsRow base e size (.slice A' (n + m) c') (n + m) (xs ++ news) → w.grownBy w' v.ownBlock →
      ((Value.slice A' (n + m) c').ownBlock = v.ownBlock ∨ (Value.slice A' (n + m) c').ownBlock = some w.heap.size) → wpList P ops Q rest (a.put o.dst (.slice A' (n + m) c')) w') :
    wpList P ops Q (o :: rest) a w :=
  wpList_plain hgd fun _ hK => wp_appN w s x t ho E hs hown hx hr hm h1 hsz hbase fun A' c' w' h2 h3 h4 => hK _ _ (h A' c' w' h2 h3 h4)

theorem step_appN {ops : Array Oper} {o : Oper} {a : Act} {K : Act → World → Prop} {Q : Exit → Act → World → Prop} {F : Prop} (hgd : o.guard = none) (s x : Operand) (t : TypeId)
    (ho : o.op = .call { callee := .builtin .append, args := #[s, x], argTypes := #[t, t] })
    {e : TypeId} {z : Value} {size bytes : Nat} (E : EltN P t e z size bytes) {base n : Nat} {v : Value} {xs : List Value} (hs : a.eval s = v) (hown : w.ownsRow base e size v n xs)
    {B m c : Nat} {A : Option Addr} {news : List Value} (hx : a.eval x = .slice A m c) (hr : Rd B w A news) (hm : news.length = m * size) (h1 : ∀ u ∈ news, u.oneCell' = true)
    (hsz : (n + m) * bytes ≤ 140737488355328) (hbase : base ≤ w.heap.size)
    (h : ∀ A' c' w', w'.ownsRow base e size (.slice A' (n + m) c') (n + m) (xs ++ news) → w.grownBy w' v.ownBlock →
      ((Value.slice A' (n + m) c').ownBlock = v.ownBlock ∨ (Value.slice A' (n + m) c').ownBlock = some w.heap.size) → K (a.put o.dst (.slice A' (n + m) c')) w') :
    if Region.wanted o (yielded ops a.tmps) = true then Oper.wp P o a w K Q else F := by
  have hw : Region.wanted o (yielded ops a.tmps) = true := by simp [Region.wanted, hgd]
  rw [if_pos hw]
  exact wp_appN w s x t ho E hs hown hx hr hm h1 hsz hbase h
end

theorem app_belowN {a w w' : World} {B base n size : Nat} {e : TypeId} {v : Value} {xs : List Value} (h : Below B a w) (hown : w.ownsRow base e size v n xs) (hg : w.grownBy w' v.ownBlock) (hB : B ≤ base) (hs : B ≤ w.heap.size) : Below B a w' :=
  h.grown hg hs fun k hk => Nat.le_trans hB (hown.lt k hk).1
theorem own_belowN {w w' : World} {base n size : Nat} {e : TypeId} {v : Value} {xs : List Value} (h : w.ownsRow base e size v n xs) (hb : Below w.heap.size w w') : w'.ownsRow base e size v n xs :=
  h.kept (row := none) ⟨hb.os, hb.tape, hb.output, hb.size, fun k hk _ => hb.block k hk⟩ (by cases v.ownBlock <;> simp)
theorem Rd.ownN {w : World} {base n c size : Nat} {e : TypeId} {A : Option Addr} {xs : List Value} (h : w.ownsRow base e size (.slice A n c) n xs) : Rd w.heap.size w A xs := fun k u hu => by
  have hk : k < xs.length := (List.getElem?_eq_some_iff.1 hu).1
  have hn : 0 < n := by
    rcases Nat.eq_zero_or_pos n with h0 | h0
    · have := h.1; rw [h0, Nat.zero_mul] at this; omega
    · exact h0
  obtain ⟨g, cap, hv, _, hlt⟩ := h.form hn
  have hA : A = some ⟨g, 0, .none⟩ := by injection hv
  subst hA
  exact ⟨_, rfl, hlt, h.cells (g := g) rfl k u hu⟩
theorem own_eqN {w : World} {base n n' c size : Nat} {e : TypeId} {A : Option Addr} {xs xs' : List Value} (h : w.ownsRow base e size (.slice A n c) n xs) (hn : n = n') (hx : xs = xs') : w.ownsRow base e size (.slice A n' c) n' xs' := by
  subst hn; subst hx; exact h
/-- It returns a new row of elements of so many cells. -/
def RetRowN (t : TypeId) (size : Nat) (xs : List Value) (w : World) (e : Ending) (w' : World) : Prop :=
  ∃ A n c, e = .returned (.slice A n c) ∧ w'.ownsRow w.heap.size t size (.slice A n c) n xs ∧ Below w.heap.size w w'
/-- A whole struct or array that is read at an address. -/
theorem run_loadVar_at {P : Program} (w : World) (a : Addr) (ty : TypeId) (cs : List Value) (d : TypeDesc) (hc : ∀ j v, cs[j]? = some v → w.cell? (a.add j) = some v)
    (hu : P.underlying ty = some d) (hd : (match d with | .struct _ | .array _ _ => true | _ => false) = true) (hi : (P.info? ty).map (·.size) = some cs.length) :
    (loadVar ty a).run P w = .ok (.agg cs.toArray) w := by
  have hl : (loadCells a cs.length).run P w = .ok cs.toArray w := run_loadCells_list (P := P) w a cs hc
  cases hq : P.info? ty with
  | none => simp [hq] at hi
  | some i =>
    have hs : i.size = cs.length := by simpa [hq] using hi
    have hagg : (isAgg ty).run P w = .ok true w := by
      unfold isAgg
      rw [Sem.run_bind, run_underlying hu w]
      cases d <;> simp_all
    simp [loadVar, Sem.run_bind, hagg, sizeOf, typeInfo, hq, hs, hl]
theorem exec_load_at {P : Program} {w : World} {r : Operand → Value} {o : Oper} (ty : TypeId) (x : Operand) (ho : o.op = .load ty x) (a : Addr) {cs : List Value} {d : TypeDesc} (hx : r x = .pointer (some a)) (hc : ∀ j v, cs[j]? = some v → w.cell? (a.add j) = some v)
    (hu : P.underlying ty = some d) (hd : (match d with | .struct _ | .array _ _ => true | _ => false) = true) (hi : (P.info? ty).map (·.size) = some cs.length) :
    (execOp r o).run P w = .ok (.value (.agg cs.toArray)) w := by
  unfold execOp
  simp only [ho, hx, Instr.loadAt, Instr.sureAddr, Sem.run_bind, Sem.run_pure, Result.andThen_ok, run_loadVar_at w a ty cs d hc hu hd hi]
theorem wpList_load_at {P : Program} {ops : Array Oper} {rest : List Oper} {o : Oper} {a : Act} {w : World} {Q : Exit → Act → World → Prop} (hgd : o.guard = none) (ty : TypeId) (x : Operand) (ho : o.op = .load ty x) (ad : Addr) {cs : List Value} {d : TypeDesc} (hx : a.eval x = .pointer (some ad)) (hc : ∀ j v, cs[j]? = some v → w.cell? (ad.add j) = some v)
    (hu : P.underlying ty = some d) (hd : (match d with | .struct _ | .array _ _ => true | _ => false) = true) (hi : (P.info? ty).map (·.size) = some cs.length)
    (h : wpList P ops Q rest (a.put o.dst (.agg cs.toArray)) w) : wpList P ops Q (o :: rest) a w :=
  wpList_plain hgd fun _ hK => by
    unfold Oper.wp
    rw [exec_load_at ty x ho ad hx hc hu hd hi]
    exact hK _ _ h
end Go.Proofs.Ytippbjpodnnhiaa
/-
  The contracts of the reference's Many: how many leaves a node of a depth has.
-/
namespace Go.Proofs.Ytippbjpodnnhiaa.Kg
open Go.RowKit
/-- How many leaves a node of a depth has (as the reference counts). -/
def manyI (d : Int) : Int := if 17 ≤ d then 1 else IntKind.u64.wrap (2 ^ (17 - d).toNat)
theorem wrap_dbl (j : Nat) : IntKind.u64.wrap (2 * IntKind.u64.wrap (2 ^ j)) = IntKind.u64.wrap (2 ^ (j + 1)) := by
  have h : ∀ z : Int, IntKind.u64.wrap z = z % 18446744073709551616 := fun z => by simp [IntKind.wrap, IntKind.signed, IntKind.bits]
  rw [h, h, h, Int.pow_succ]
  generalize (2 : Int) ^ j = a
  omega
end Go.Proofs.Ytippbjpodnnhiaa.Kg
/-
  Nodes of the reference as values; the contract of its In.
-/
namespace Go.Proofs.Ytippbjpodnnhiaa.Kg
open Go.RowKit
attribute [local go_sem ↓] Go.wp_at_zero Go.wp_at_succ
/-- A node: its depth, its first leaf, its seed. -/
structure Nd where
  d : Int
  a : Int
  s : List UInt8
instance : DecidableEq Nd := fun x y => decidable_of_iff (x.d = y.d ∧ x.a = y.a ∧ x.s = y.s) ⟨fun ⟨h1, h2, h3⟩ => by cases x; cases y; simp_all, fun h => by rw [h]; exact ⟨rfl, rfl, rfl⟩⟩
def ndV (x : Nd) : List Value := .int .i64 x.d :: .int .u64 x.a :: bv x.s
def ndC (x : Nd) : Array Value := (ndV x).toArray
theorem ndV_length {x : Nd} (h : x.s.length = 32) : (ndV x).length = 34 := by simp [ndV, bv_length, h]
theorem ndC_size {x : Nd} (h : x.s.length = 32) : (ndC x).size = 34 := by simp [ndC, ndV_length h]
theorem ndV_one (x : Nd) : ∀ u ∈ ndV x, u.oneCell' = true := by
  intro u hu
  simp only [ndV, List.mem_cons] at hu
  rcases hu with rfl | rfl | hu
  · rfl
  · rfl
  · exact bv_one _ u hu
/-- The cells of a row of nodes. -/
def nvs : List Nd → List Value
  | [] => []
  | x :: l => ndV x ++ nvs l
theorem nvs_append (a b : List Nd) : nvs (a ++ b) = nvs a ++ nvs b := by
  induction a with
  | nil => rfl
  | cons x l ih => simp [nvs, ih]
theorem nvs_length {l : List Nd} (h : ∀ x ∈ l, x.s.length = 32) : (nvs l).length = l.length * 34 := by
  induction l with
  | nil => rfl
  | cons x l ih =>
    rw [nvs, List.length_append, ndV_length (h x (by simp)), ih (fun y hy => h y (by simp [hy])), List.length_cons]; omega
theorem nvs_one (l : List Nd) : ∀ u ∈ nvs l, u.oneCell' = true := by
  induction l with
  | nil => intro u hu; simp [nvs] at hu
  | cons x l ih =>
    intro u hu
    simp only [nvs, List.mem_append] at hu
    rcases hu with hu | hu
    · exact ndV_one x u hu
    · exact ih u hu
theorem nvs_get {l : List Nd} (h : ∀ x ∈ l, x.s.length = 32) {k : Nat} (hk : k < l.length) {j : Nat} {v : Value} (hv : (ndV l[k])[j]? = some v) : (nvs l)[34 * k + j]? = some v := by
  induction l generalizing k with
  | nil => simp at hk
  | cons x l ih =>
    have h34 := ndV_length (h x (by simp))
    cases k with
    | zero =>
      have hj : j < 34 := by rw [← h34]; exact (List.getElem?_eq_some_iff.1 hv).1
      rw [nvs, Nat.mul_zero, Nat.zero_add, List.getElem?_append_left (by omega)]
      exact hv
    | succ k =>
      rw [nvs, List.getElem?_append_right (by omega), h34, show 34 * (k + 1) + j - 34 = 34 * k + j by omega]
      exact ih (fun y hy => h y (by simp [hy])) (by simpa using hk) (by simpa using hv)
section
variable {w : World} {g : Nat} {x : Nd}
end
/-- Has a node a leaf? -/
def inI (x : Nd) (m : Int) : Bool := decide (x.a ≤ m) && decide (m - x.a < manyI x.d)
end Go.Proofs.Ytippbjpodnnhiaa.Kg
/-
  Structs and slices that are built of parts: steps over any program.
-/
namespace Go.Proofs.Ytippbjpodnnhiaa
open Go.RowKit
theorem fill_step (place : Nat → Option (Nat × Nat)) {i off size : Nat} (hp : place i = some (off, size)) (v : Value) (hv : v.cells.size = size) (cells : Array Value) (hle : off + size ≤ cells.size) (rest : List (Nat × Value)) :
    Instr.fill place cells ((i, v) :: rest) = Instr.fill place ((v.cells.toList.zipIdx 0).foldl (fun cs (x : Value × Nat) => cs.setIfInBounds (off + x.2) x.1) cells) rest := by
  rw [Instr.fill, hp]
  simp only [hv]
  rw [if_neg (by simp; omega)]
  congr 1
  rw [← Array.foldl_toList]
  simp
theorem exec_build {P : Program} {w : World} {r : Operand → Value} {o : Oper} {v : Value} (t : TypeId) (parts : Array (Nat × Operand)) (ho : o.op = .build t parts) (h : (Instr.build t (parts.map fun (i, x) => (i, r x))).run P w = .ok v w) :
    (execOp r o).run P w = .ok (.value v) w := by
  unfold execOp
  simp only [ho, Sem.run_bind, h, Result.andThen_ok, Sem.run_pure]
theorem wpList_build {P : Program} {ops : Array Oper} {rest : List Oper} {o : Oper} {a : Act} {w : World} {Q : Exit → Act → World → Prop} {v : Value} (hgd : o.guard = none) (t : TypeId) (parts : Array (Nat × Operand)) (ho : o.op = .build t parts) (h : (Instr.build t (parts.map fun (i, x) => (i, a.eval x))).run P w = .ok v w)
    (hk : wpList P ops Q rest (a.put o.dst v) w) : wpList P ops Q (o :: rest) a w :=
  wpList_plain hgd fun _ hK => by
    unfold Oper.wp
    rw [exec_build t parts ho h]
    exact hK _ _ hk
/-- A load of a whole row under a guard that holds. -/
theorem wpList_load_if {P : Program} {w : World} {ops : Array Oper} {rest : List Oper} {o : Oper} {a : Act} {Q : Exit → Act → World → Prop} (hgd : Region.wanted o (yielded ops a.tmps) = true) (ty : TypeId) (x : Operand) (ho : o.op = .load ty x) {g : Nat} {cs : Array Value} {A : TypeId} {d : TypeDesc}
    (hx : a.eval x = .pointer (some ⟨g, 0, none⟩)) (hg : Blk w g cs A) (hu : P.underlying ty = some d) (hd : (match d with | .struct _ | .array _ _ => true | _ => false) = true) (hi : (P.info? ty).map (·.size) = some cs.size)
    (h : wpList P ops Q rest (a.put o.dst (.agg cs)) w) : wpList P ops Q (o :: rest) a w := by
  unfold wpList
  rw [if_pos hgd]
  refine .inl ?_
  unfold Oper.wp
  rw [exec_load ty x ho hx hg hu hd hi]
  exact h
end Go.Proofs.Ytippbjpodnnhiaa
/-
  Nodes that are built of their parts; a row of one node.
-/
namespace Go.Proofs.Ytippbjpodnnhiaa.Kg
open Go.RowKit
variable {ci : Ciph}
def places3 (i : Nat) : Option (Nat × Nat) := #[(0, 1), (1, 1), (2, 32)][i]?
def zeroNd : Nd := ⟨0, 0, List.replicate 32 0⟩
theorem one_fill (x : Nd) (hs : x.s.length = 32) : Instr.fill (fun i => some (i * 34, 34)) ((Array.range (1 * 34)).map ((Value.agg (ndC zeroNd)).cells[· % (Value.agg (ndC zeroNd)).cells.size]!)) [(0, .agg (ndC x))] = some (ndC x) := by
  have h := Great.fill_whole (s := 34) (by omega) [.agg (ndC x)] ((Array.range (1 * 34)).map ((Value.agg (ndC zeroNd)).cells[· % (Value.agg (ndC zeroNd)).cells.size]!)) (by intro v hv; simp at hv; subst hv; exact ndC_size hs) (by simp)
  refine Eq.trans h ?_
  simp [Value.cells]
end Go.Proofs.Ytippbjpodnnhiaa.Kg
/-
  The contract of the reference's Split, a ci.v one.
-/
namespace Go.Proofs.Ytippbjpodnnhiaa.Kg
open Go.RowKit
attribute [local go_sem ↓] Go.wp_at_zero Go.wp_at_succ
theorem two_rows_a (w : World) (Z c : Array Value) (A : TypeId) : Blk ((((w.drew.alloc (.cells Z A)).alloc (.cells Z A)).setRow w.heap.size c).setRow (w.heap.size + 1) c) w.heap.size c A ∧ Blk ((((w.drew.alloc (.cells Z A)).alloc (.cells Z A)).setRow w.heap.size c).setRow (w.heap.size + 1) c) (w.heap.size + 1) c A ∧ Below w.heap.size w ((((w.drew.alloc (.cells Z A)).alloc (.cells Z A)).setRow w.heap.size c).setRow (w.heap.size + 1) c) := by
  have h1 : (w.drew.alloc (.cells Z A)).heap.size = w.heap.size + 1 := by simp
  refine ⟨?_, ?_, below_setRow (below_setRow (((Below.refl w.heap.size w).drew.alloc (Nat.le_refl _) _).alloc (by rw [h1]; exact Nat.le_succ _) _) (Nat.le_refl _) _) (Nat.le_succ _) _⟩
  · unfold Blk; rw [setRow_other _ _ _ _ (by omega)]; exact setRow_heap _ _ _ _ _ _ (heap_alloc2_old w.drew _ _)
  · exact setRow_heap _ _ _ _ _ _ (by rw [setRow_other _ _ _ _ (by omega)]; exact heap_alloc2_new w.drew _ _)
theorem two_rows_b (w : World) (Z c : Array Value) (A : TypeId) : Blk ((((w.drew.alloc (.cells Z A)).alloc (.cells Z A)).setRow (w.heap.size + 1) c).setRow w.heap.size c) w.heap.size c A ∧ Blk ((((w.drew.alloc (.cells Z A)).alloc (.cells Z A)).setRow (w.heap.size + 1) c).setRow w.heap.size c) (w.heap.size + 1) c A ∧ Below w.heap.size w ((((w.drew.alloc (.cells Z A)).alloc (.cells Z A)).setRow (w.heap.size + 1) c).setRow w.heap.size c) := by
  have h1 : (w.drew.alloc (.cells Z A)).heap.size = w.heap.size + 1 := by simp
  refine ⟨?_, ?_, below_setRow (below_setRow (((Below.refl w.heap.size w).drew.alloc (Nat.le_refl _) _).alloc (by rw [h1]; exact Nat.le_succ _) _) (Nat.le_succ _) _) (Nat.le_refl _) _⟩
  · exact setRow_heap _ _ _ _ _ _ (by rw [setRow_other _ _ _ _ (by omega)]; exact heap_alloc2_old w.drew _ _)
  · unfold Blk; rw [setRow_other _ _ _ _ (by omega)]; exact setRow_heap _ _ _ _ _ _ (heap_alloc2_new w.drew _ _)
/-- One rest for all ways through a region. -/
theorem by_rest {R G : Nat → Nat → World → Prop} {p : Prop} (ways : (∀ X Y w', R X Y w' → G X Y w') → p) (rest : ∀ X Y w', R X Y w' → G X Y w') : p := ways rest
theorem info_b32 : (Try.prog.info? 39).map (·.size) = some 32 := by kernel_rfl
/-- Two arrays are told. -/
theorem results_cells2 {P : Program} {fn : Func} {p q : Tmp} {ty : TypeId} (h : fn.results = #[.cell p ty, .cell q ty]) (tmps : Array Value) (w : World) (g g' : Nat) (t t' : TypeId) (cs cs' : Array Value) (d : TypeDesc)
    (hp : tmps.getD p undef = .pointer (some ⟨g, 0, none⟩)) (hq : tmps.getD q undef = .pointer (some ⟨g', 0, none⟩)) (hg : Blk w g cs t) (hg' : Blk w g' cs' t')
    (hu : P.underlying ty = some d) (hd : (match d with | .struct _ | .array _ _ => true | _ => false) = true) (hi : (P.info? ty).map (·.size) = some cs.size) (hi' : (P.info? ty).map (·.size) = some cs'.size) :
    (results fn tmps).run P w = .ok (.tuple #[.agg cs, .agg cs']) w := by
  have hp' : tmps[p]?.getD undef = .pointer (some ⟨g, 0, none⟩) := by simpa using hp
  have hq' : tmps[q]?.getD undef = .pointer (some ⟨g', 0, none⟩) := by simpa using hq
  simp [results, h, hp', hq', asAddr, run_loadVar_row w g t ty cs (0, 0) d hg hu hd hi, run_loadVar_row w g' t' ty cs' (0, 0) d hg' hu hd hi']
theorem blk_row {w : World} {g g' : Nat} {cs cs' : Array Value} {t : TypeId} (h : Blk w g cs t) (hg : g ≠ g') : Blk (w.setRow g' cs') g cs t := by unfold Blk; rw [setRow_other _ _ _ _ hg]; exact h
end Go.Proofs.Ytippbjpodnnhiaa.Kg
/-
  The contract of the reference's without: what is held of a node without a leaf.
-/
namespace Go.Proofs.Ytippbjpodnnhiaa.Kg
open Go.RowKit
variable {ci : Ciph}
attribute [local go_sem ↓] Go.wp_at_zero Go.wp_at_succ
/-- The two below a node. -/
def ndL (ci : Ciph) (x : Nd) : Nd := ⟨x.d + 1, x.a, ci.L x.s⟩
def ndR (ci : Ciph) (x : Nd) : Nd := ⟨x.d + 1, IntKind.u64.wrap (x.a + manyI (x.d + 1)), ci.R x.s⟩
/-- What is held of a node without a leaf, as far as so many levels below it. -/
def woL (ci : Ciph) : Nat → Nd → Int → List Nd
  | 0, x, m => if inI x m then [] else [x]
  | f + 1, x, m => if inI x m then woL ci f (ndL ci x) m ++ woL ci f (ndR ci x) m else [x]
theorem woL_len : ∀ (f : Nat) (x : Nd) (m : Int), x.s.length = 32 → ∀ y ∈ woL ci f x m, y.s.length = 32
  | 0, x, m, h, y, hy => by
    unfold woL at hy; split at hy
    · simp at hy
    · simp at hy; rw [hy]; exact h
  | f + 1, x, m, h, y, hy => by
    unfold woL at hy; split at hy
    · rcases List.mem_append.1 hy with hy | hy
      · exact woL_len f _ m (ci.lenL _) y hy
      · exact woL_len f _ m (ci.lenR _) y hy
    · simp at hy; rw [hy]; exact h
theorem woL_count : ∀ (f : Nat) (x : Nd) (m : Int), (woL ci f x m).length ≤ 2 ^ f
  | 0, x, m => by unfold woL; split <;> simp
  | f + 1, x, m => by
    unfold woL; split
    · have h1 := woL_count f (ndL ci x) m
      have h2 := woL_count f (ndR ci x) m
      rw [List.length_append, Nat.pow_succ]; omega
    · exact Nat.one_le_two_pow
theorem u64_pos (z : Int) : 0 ≤ IntKind.u64.wrap z := by
  have h : IntKind.u64.wrap z = z % 18446744073709551616 := by simp [IntKind.wrap, IntKind.signed, IntKind.bits]
  rw [h]; omega
theorem own_moreN {w : World} {base base' n size : Nat} {e : TypeId} {v : Value} {xs : List Value} (h : w.ownsRow base e size v n xs) (hb : base' ≤ base) : w.ownsRow base' e size v n xs := by
  refine ⟨h.1, ?_⟩
  rcases h.2 with h0 | ⟨g, cap, cur, h1, h2, h3⟩
  · exact .inl h0
  · exact .inr ⟨g, cap, cur, h1, Nat.le_trans hb h2, h3⟩
theorem blk_old1 {w : World} {g : Nat} {cs : Array Value} {t : TypeId} {A : Obj} (h : Blk w g cs t) : Blk (w.alloc A) g cs t := (heap_alloc_old _ _ h.lt).trans h
end Go.Proofs.Ytippbjpodnnhiaa.Kg
/-
  The contract of the reference's Puncture.
-/
namespace Go.Proofs.Ytippbjpodnnhiaa.Kg
open Go.RowKit
variable {ci : Ciph}
attribute [local go_sem ↓] Go.wp_at_zero Go.wp_at_succ
/-- A node as the document lets it be held. -/
def okN (x : Nd) : Prop := 0 ≤ x.d ∧ x.d ≤ 17 ∧ 0 ≤ x.a ∧ x.s.length = 32
/-- What is held of nodes without a leaf. -/
def punL (ci : Ciph) (l : List Nd) (m : Int) : List Nd := l.flatMap fun x => woL ci (17 - x.d).toNat x m
theorem punL_snoc (l : List Nd) (m : Int) {k : Nat} (h : k < l.length) : punL ci (l.take (k + 1)) m = punL ci (l.take k) m ++ woL ci (17 - l[k].d).toNat l[k] m := by
  rw [punL, List.take_succ_eq_append_getElem h, List.flatMap_append]; simp [punL]
theorem punL_count (l : List Nd) (m : Int) (h : ∀ x ∈ l, okN x) : (punL ci l m).length ≤ l.length * 131072 := by
  induction l with
  | nil => simp [punL]
  | cons x l ih =>
    have h1 := woL_count (ci := ci) (17 - x.d).toNat x m
    have h2 : 2 ^ (17 - x.d).toNat ≤ 2 ^ 17 := Nat.pow_le_pow_right (by omega) (by have := (h x (by simp)).1; omega)
    have h3 := ih (fun y hy => h y (by simp [hy]))
    have e : punL ci (x :: l) m = woL ci (17 - x.d).toNat x m ++ punL ci l m := by simp [punL]
    rw [e, List.length_append, List.length_cons]; omega
theorem punL_len (l : List Nd) (m : Int) (h : ∀ x ∈ l, okN x) : ∀ y ∈ punL ci l m, y.s.length = 32 := by
  intro y hy
  obtain ⟨x, hx, hy⟩ := List.mem_flatMap.1 hy
  exact woL_len (ci := ci) _ x m (h x hx).2.2.2 y hy
/-- An element of a row of nodes, as a load meets it. -/
theorem rd_node {B : Nat} {w : World} {A : Option Addr} {l : List Nd} (h : Rd B w A (nvs l)) (hl : ∀ x ∈ l, x.s.length = 32) {k : Nat} (hk : k < l.length) :
    ∃ ad, A = some ad ∧ ad.block < B ∧ ∀ j v, (ndV l[k])[j]? = some v → w.cell? ((ad.add (k * 34)).add j) = some v := by
  have h0 : (ndV l[k])[0]? = some (.int .i64 l[k].d) := rfl
  obtain ⟨ad, hA, hb, _⟩ := h (34 * k + 0) _ (nvs_get hl hk h0)
  refine ⟨ad, hA, hb, fun j v hv => ?_⟩
  obtain ⟨ad', hA', _, hc⟩ := h (34 * k + j) v (nvs_get hl hk hv)
  rw [hA] at hA'
  injection hA' with hA'
  rw [hA', add_twice, Nat.mul_comm k 34]
  exact hc
end Go.Proofs.Ytippbjpodnnhiaa.Kg
/-
  The contract of the reference's Count.
-/
namespace Go.Proofs.Ytippbjpodnnhiaa.Kg
open Go.RowKit
variable {ci : Ciph}
attribute [local go_sem ↓] Go.wp_at_zero Go.wp_at_succ
theorem manyI_ok {d : Int} (h0 : 0 ≤ d) (h1 : d ≤ 17) : manyI d = 2 ^ (17 - d).toNat ∧ 1 ≤ manyI d ∧ manyI d ≤ 131072 := by
  obtain ⟨n, rfl⟩ := Int.eq_ofNat_of_zero_le h0
  have hn : n ≤ 17 := by omega
  match n, hn with
  | 0, _ => decide
  | 1, _ => decide
  | 2, _ => decide
  | 3, _ => decide
  | 4, _ => decide
  | 5, _ => decide
  | 6, _ => decide
  | 7, _ => decide
  | 8, _ => decide
  | 9, _ => decide
  | 10, _ => decide
  | 11, _ => decide
  | 12, _ => decide
  | 13, _ => decide
  | 14, _ => decide
  | 15, _ => decide
  | 16, _ => decide
  | 17, _ => decide
/-- How many leaves nodes have. -/
def countL : List Nd → Int
  | [] => 0
  | x :: l => manyI x.d + countL l
theorem countL_append (a b : List Nd) : countL (a ++ b) = countL a + countL b := by
  induction a with
  | nil => simp [countL]
  | cons x l ih => simp only [List.cons_append, countL, ih]; omega
theorem countL_bd (l : List Nd) (h : ∀ x ∈ l, okN x) : 0 ≤ countL l ∧ countL l ≤ l.length * 131072 := by
  induction l with
  | nil => simp [countL]
  | cons x l ih =>
    obtain ⟨h1, h2⟩ := ih (fun y hy => h y (by simp [hy]))
    obtain ⟨_, h3, h4⟩ := manyI_ok (h x (by simp)).1 (h x (by simp)).2.1
    rw [countL, List.length_cons]; omega
theorem countL_snoc (l : List Nd) {k : Nat} (h : k < l.length) : countL (l.take (k + 1)) = countL (l.take k) + manyI l[k].d := by
  rw [List.take_succ_eq_append_getElem h, countL_append]; simp [countL]
end Go.Proofs.Ytippbjpodnnhiaa.Kg
