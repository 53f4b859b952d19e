/-
  Cells in the midst of a block that is known whole; what grows; a copy told by the world that it makes.
-/
import Derived.Test.YtolbffcbamfbeaaArr
import Derived.Deep.Upon
import Derived.Lib.SliceRun
namespace Go.Proofs.Ytolbffcbamfbeaa
open Go.RowKit
theorem grown_trans {w w1 w2 : World} {row : Option Nat} (h : w.grownBy w1 row) (h' : w1.grownBy w2 row) : w.grownBy w2 row :=
  ⟨h'.os.trans h.os, h'.tape.trans h.tape, h'.output.trans h.output, Nat.le_trans h.size h'.size, fun k hk hne => (h'.block k (Nat.lt_of_lt_of_le hk h.size) hne).trans (h.block k hk hne)⟩
theorem grown_of_below {w w' : World} {row : Option Nat} (h : Below w.heap.size w w') : w.grownBy w' row :=
  ⟨h.os, h.tape, h.output, h.size, fun k hk _ => h.block k hk⟩
theorem rd_far {B g : Nat} {w w' : World} {A : Option Addr} {xs : List Value} (h : Rd B w A xs) (hg : w.grownBy w' (some g)) (hB : B ≤ g) : Rd B w' A xs := fun k u hu => by
  obtain ⟨ad, e, hl, hc⟩ := h k u hu
  refine ⟨ad, e, hl, hg.cell hc ?_⟩
  rw [add_block]
  intro h'
  injection h' with h'
  omega
theorem own_far {w w' : World} {base n g : Nat} {e : TypeId} {v : Value} {xs : List Value} (h : w.ownsRow base e 1 v n xs) (hg : w.grownBy w' (some g)) (hne : ∀ k, v.ownBlock = some k → k ≠ g) : w'.ownsRow base e 1 v n xs :=
  h.kept hg (by
    cases hv : v.ownBlock with
    | none => exact .inl rfl
    | some k => exact .inr (fun e => hne k hv (by injection e)))
theorem blk_far {w w' : World} {g g' : Nat} {cs : Array Value} {A : TypeId} (h : Blk w g' cs A) (hg : w.grownBy w' (some g)) (hne : g' ≠ g) : Blk w' g' cs A := by
  unfold Blk
  rw [hg.block g' h.lt (by intro e; injection e with e; exact hne e)]
  exact h
/-- The slice at A reads the cells xs, none of which lies in block g. -/
def Rf (g : Nat) (w : World) (A : Option Addr) (xs : List Value) : Prop :=
  ∀ k u, xs[k]? = some u → ∃ ad, A = some ad ∧ ad.block ≠ g ∧ w.cell? (ad.add k) = some u
section
variable {g : Nat} {w w' : World} {A : Option Addr} {xs : List Value}
theorem Rf.none : Rf g w A [] := fun k u h => by simp at h
theorem Rf.none' : Rf g w A (bv []) := fun k u h => by simp [bv] at h
theorem Rf.grown (h : Rf g w A xs) (hg : w.grownBy w' (some g)) : Rf g w' A xs := fun k u hu => by
  obtain ⟨ad, e, hn, hc⟩ := h k u hu
  exact ⟨ad, e, hn, hg.cell hc (by rw [add_block]; intro e; injection e with e; exact hn e)⟩
theorem Rf.src (h : Rf g w A xs) (hl : 0 < xs.length) : ∃ ad, A = some ad ∧ ad.block ≠ g ∧ ∀ j v, xs[j]? = some v → w.cell? (ad.add j) = some v := by
  obtain ⟨ad, rfl, hn, _⟩ := h 0 _ (List.getElem?_eq_getElem hl)
  refine ⟨ad, rfl, hn, fun j v hv => ?_⟩
  obtain ⟨ad', e, _, hc⟩ := h j v hv
  injection e with e
  subst e
  exact hc
theorem Rf.drop {a : Addr} {l : List UInt8} (h : Rf g w (some a) (bv l)) (k : Nat) : Rf g w (some (a.add k)) (bv (l.drop k)) := fun j u hu => by
  rw [bv_drop, List.getElem?_drop] at hu
  obtain ⟨ad, e, hb, hc⟩ := h (k + j) u hu
  injection e with e
  subst e
  exact ⟨_, rfl, by rw [add_block]; exact hb, by rw [add_twice]; exact hc⟩
theorem Rf.of_rd {B : Nat} (h : Rd B w A xs) (hB : B ≤ g) : Rf g w A xs := fun k u hu => by
  obtain ⟨ad, e, hb, hc⟩ := h k u hu
  exact ⟨ad, e, by omega, hc⟩
theorem Rf.of_own {base n c : Nat} {e : TypeId} (h : w.ownsRow base e 1 (.slice A n c) n xs) (hg : g < base) : Rf g w A xs := fun k u hu => by
  obtain ⟨ad, e', hb, hc⟩ := Rd.own h k u hu
  have hk : k < xs.length := (List.getElem?_eq_some_iff.1 hu).1
  have hn := own_len h
  subst e'
  have := (h.lt ad.block rfl).1
  exact ⟨ad, rfl, by omega, hc⟩
end
theorem grown_setCell (w : World) (g o : Nat) (v : Value) : w.grownBy (w.setCell ⟨g, o, none⟩ v) (some g) :=
  ⟨rfl, rfl, rfl, by simp, fun k _ hne => heap_setCell_other _ _ _ _ (fun e => hne (by rw [e]))⟩
theorem grown_setCells (g : Nat) : ∀ (vs : List Value) (o : Nat) (w : World), w.grownBy (w.setCells g o vs) (some g)
  | [], _, w => World.grownBy.refl w _
  | v :: vs, o, w => grown_trans (grown_setCell w g o v) (grown_setCells g vs (o + 1) _)
theorem grown_setRow (w : World) (g : Nat) (cs : Array Value) : w.grownBy (w.setRow g cs) (some g) :=
  ⟨rfl, rfl, rfl, by simp, fun k _ hne => setRow_other w g k cs (fun e => hne (by rw [e]))⟩
theorem grown_drew (w : World) (row : Option Nat) : w.grownBy w.drew row := ⟨rfl, rfl, rfl, Nat.le_refl _, fun _ _ _ => rfl⟩
theorem grown_drewN (w : World) (q : Nat) (row : Option Nat) : w.grownBy (w.drewN q) row := ⟨rfl, rfl, rfl, Nat.le_refl _, fun _ _ _ => rfl⟩

theorem splice_right {α : Type} (X L : List α) (o : Nat) (cs : List α) : splice (X ++ L) (X.length + o) cs = X ++ splice L o cs := by
  unfold splice
  rw [List.take_append, List.take_of_length_le (Nat.le_add_right _ _), Nat.add_sub_cancel_left, List.append_assoc, show X.length + o + cs.length = X.length + (o + cs.length) by omega, List.drop_append, List.drop_of_length_le (Nat.le_add_right _ _), List.nil_append, Nat.add_sub_cancel_left]
theorem splice_left {α : Type} (L Z : List α) (o : Nat) (cs : List α) (h : o + cs.length ≤ L.length) : splice (L ++ Z) o cs = splice L o cs ++ Z := by
  unfold splice
  rw [List.take_append_of_le_length (by omega), List.drop_append_of_le_length h, List.append_assoc, List.append_assoc]
theorem splice_whole {α : Type} (L cs : List α) (h : cs.length = L.length) : splice L 0 cs = cs := by
  unfold splice
  rw [List.take_zero, List.nil_append, List.drop_of_length_le (by omega), List.append_nil]
theorem splice_set {α : Type} (L : List α) (o : Nat) (v : α) (cs : List α) (h : o < L.length) : splice (L.set o v) (o + 1) cs = splice L o (v :: cs) := by
  unfold splice
  rw [List.take_set, List.drop_set_of_lt (by omega), List.length_cons, show o + 1 + cs.length = o + (cs.length + 1) by omega]
  rw [List.take_add_one, List.getElem?_eq_getElem h, Option.toList_some, List.set_append_right _ _ (by rw [List.length_take]; omega), List.length_take, Nat.min_eq_left (by omega), Nat.sub_self, List.set_cons_zero, List.append_assoc]
  rfl
theorem row_setCells (g : Nat) (t : TypeId) : ∀ (vs : List Value) (o : Nat) (w : World) (cs : List Value), w.heap[g]? = some (.cells cs.toArray t (0, 0)) → o + vs.length ≤ cs.length → (w.setCells g o vs).heap[g]? = some (.cells (splice cs o vs).toArray t (0, 0))
  | [], o, w, cs, h, _ => by
    have e : splice cs o [] = cs := by unfold splice; simp
    rw [e]; exact h
  | v :: vs, o, w, cs, h, hl => by
    rw [List.length_cons] at hl
    have h1 := heap_setCell_same w g o _ t v h
    rw [List.setIfInBounds_toArray] at h1
    have h2 := row_setCells g t vs (o + 1) (w.setCell ⟨g, o, none⟩ v) (cs.set o v) h1 (by rw [List.length_set]; omega)
    rw [splice_set cs o v vs (by omega)] at h2
    exact h2
theorem there_of_blk {w : World} {g : Nat} {cs : List Value} {A : TypeId} (h : Blk w g cs.toArray A) {o n : Nat} (hn : o + n ≤ cs.length) : w.there g o n := fun j hj =>
  ⟨by rw [h.cell, List.getElem?_toArray, List.getElem?_eq_getElem (by omega)]; rfl, h.free _⟩
theorem range_of_blk {w : World} {g : Nat} {X Y Z : List Value} {A : TypeId} (h : Blk w g (X ++ (Y ++ Z)).toArray A) : w.rangeAt g X.length Y := fun j v hv => by
  rw [h.cell, List.getElem?_toArray, List.getElem?_append_right (Nat.le_add_right _ _), Nat.add_sub_cancel_left]
  have hj := (List.getElem?_eq_some_iff.1 hv).1
  rw [List.getElem?_append_left hj]
  exact hv
/-- A copy of something, at a step of a region that draws: the world is told. -/
theorem step_copy_set {P : Program} {ops : Array Oper} {o : Oper} {a : Act} {w : World} {K : Act → World → Prop} {Q : Exit → Act → World → Prop} {E : Prop} (hgd : o.guard = none) (d s : Operand) (dT sT : TypeId)
    (ho : o.op = .call { callee := .builtin .copy, args := #[d, s], argTypes := #[dT, sT] }) (elem : TypeId) (hu : P.underlying dT = some (.slice elem)) (hsz : (P.info? elem).map (·.size) = some 1)
    (ad : Addr) (g off dLen dCap sLen sCap : Nat) (hd : a.eval d = .slice (some ⟨g, off, none⟩) dLen dCap) (hs : a.eval s = .slice (some ad) sLen sCap)
    (cur : List Value) (t : TypeId) (hg : w.heap[g]? = some (.cells cur.toArray t (0, 0))) (cs : List Value) (hn : cs.length = Nat.min sLen dLen)
    (hsrc : ∀ j v, cs[j]? = some v → w.cell? (ad.add j) = some v)
    (hfit : off + cs.length ≤ cur.length) (h1 : ∀ v ∈ cs, v.oneCell' = true) (k : Nat) (hk : cs.length = k)
    (h : K (a.put o.dst (goInt k)) (w.setRow g (splice cur off cs).toArray)) :
    if Region.wanted o (yielded ops a.tmps) = true then Oper.wp P o a w K Q else E := by
  subst hk
  have hw : Region.wanted o (yielded ops a.tmps) = true := by simp [Region.wanted, hgd]
  rw [if_pos hw]
  have hrun := run_copy_row (P := P) w dT sT o.type elem g off dLen dCap ad sLen sCap cur.toArray t cs hu hsz hg hn hsrc (by simpa using hfit) h1
  unfold Oper.wp
  simp [execOp, ho, resolve, invoke, builtin, hd, hs, hrun, Result.andThen]
  unfold splice at h
  simp only [Oper.upon]
  simpa using h
end Go.Proofs.Ytolbffcbamfbeaa
