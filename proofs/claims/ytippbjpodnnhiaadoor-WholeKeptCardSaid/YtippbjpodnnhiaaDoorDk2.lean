/-
  Texts of this seat, one behind the other: KgWithout, KgPunct, KgCount, ShMid, Here, PureCall, KgKey, KtArr.
-/
import Derived.Deep.Upon
import Derived.Lib.SliceRun
import Derived.OrdersHeld
import Derived.Stop.Looks
import Derived.Deep.RegionHeld
import Derived.Lib.AppendZerosOnto
import Derived.Lib.Overlaps
import Derived.Test.YtippbjpodnnhiaaDoorDk1
/-
  The contract of the reference's without: what is held of a node without a leaf.
-/
namespace Go.Proofs.YtippbjpodnnhiaaDoor.Kg
open Go.RowKit
variable {ci : Ciph}
attribute [local go_sem ↓] Go.wp_at_zero Go.wp_at_succ
/-- The two below a node. -/
def ndL (ci : Ciph) (x : Nd) : Nd := ⟨x.d + 1, x.a, ci.L x.s⟩
def ndR (ci : Ciph) (x : Nd) : Nd := ⟨x.d + 1, IntKind.u64.wrap (x.a + manyI (x.d + 1)), ci.R x.s⟩
/-- What is held of a node without a leaf, as far as so many levels below it. -/
def woL (ci : Ciph) : Nat → Nd → Int → List Nd
  | 0, x, m => if inI x m then [] else [x]
  | f + 1, x, m => if inI x m then woL ci f (ndL ci x) m ++ woL ci f (ndR ci x) m else [x]
theorem woL_len : ∀ (f : Nat) (x : Nd) (m : Int), x.s.length = 32 → ∀ y ∈ woL ci f x m, y.s.length = 32
  | 0, x, m, h, y, hy => by
    unfold woL at hy; split at hy
    · simp at hy
    · simp at hy; rw [hy]; exact h
  | f + 1, x, m, h, y, hy => by
    unfold woL at hy; split at hy
    · rcases List.mem_append.1 hy with hy | hy
      · exact woL_len f _ m (ci.lenL _) y hy
      · exact woL_len f _ m (ci.lenR _) y hy
    · simp at hy; rw [hy]; exact h
theorem woL_count : ∀ (f : Nat) (x : Nd) (m : Int), (woL ci f x m).length ≤ 2 ^ f
  | 0, x, m => by unfold woL; split <;> simp
  | f + 1, x, m => by
    unfold woL; split
    · have h1 := woL_count f (ndL ci x) m
      have h2 := woL_count f (ndR ci x) m
      rw [List.length_append, Nat.pow_succ]; omega
    · exact Nat.one_le_two_pow
theorem u64_pos (z : Int) : 0 ≤ IntKind.u64.wrap z := by
  have h : IntKind.u64.wrap z = z % 18446744073709551616 := by simp [IntKind.wrap, IntKind.signed, IntKind.bits]
  rw [h]; omega
theorem own_moreN {w : World} {base base' n size : Nat} {e : TypeId} {v : Value} {xs : List Value} (h : w.ownsRow base e size v n xs) (hb : base' ≤ base) : w.ownsRow base' e size v n xs := by
  refine ⟨h.1, ?_⟩
  rcases h.2 with h0 | ⟨g, cap, cur, h1, h2, h3⟩
  · exact .inl h0
  · exact .inr ⟨g, cap, cur, h1, Nat.le_trans hb h2, h3⟩
theorem blk_old1 {w : World} {g : Nat} {cs : Array Value} {t : TypeId} {A : Obj} (h : Blk w g cs t) : Blk (w.alloc A) g cs t := (heap_alloc_old _ _ h.lt).trans h
end Go.Proofs.YtippbjpodnnhiaaDoor.Kg
/-
  The contract of the reference's Puncture.
-/
namespace Go.Proofs.YtippbjpodnnhiaaDoor.Kg
open Go.RowKit
variable {ci : Ciph}
attribute [local go_sem ↓] Go.wp_at_zero Go.wp_at_succ
/-- A node as the document lets it be held. -/
def okN (x : Nd) : Prop := 0 ≤ x.d ∧ x.d ≤ 17 ∧ 0 ≤ x.a ∧ x.s.length = 32
/-- What is held of nodes without a leaf. -/
def punL (ci : Ciph) (l : List Nd) (m : Int) : List Nd := l.flatMap fun x => woL ci (17 - x.d).toNat x m
theorem punL_snoc (l : List Nd) (m : Int) {k : Nat} (h : k < l.length) : punL ci (l.take (k + 1)) m = punL ci (l.take k) m ++ woL ci (17 - l[k].d).toNat l[k] m := by
  rw [punL, List.take_succ_eq_append_getElem h, List.flatMap_append]; simp [punL]
theorem punL_count (l : List Nd) (m : Int) (h : ∀ x ∈ l, okN x) : (punL ci l m).length ≤ l.length * 131072 := by
  induction l with
  | nil => simp [punL]
  | cons x l ih =>
    have h1 := woL_count (ci := ci) (17 - x.d).toNat x m
    have h2 : 2 ^ (17 - x.d).toNat ≤ 2 ^ 17 := Nat.pow_le_pow_right (by omega) (by have := (h x (by simp)).1; omega)
    have h3 := ih (fun y hy => h y (by simp [hy]))
    have e : punL ci (x :: l) m = woL ci (17 - x.d).toNat x m ++ punL ci l m := by simp [punL]
    rw [e, List.length_append, List.length_cons]; omega
theorem punL_len (l : List Nd) (m : Int) (h : ∀ x ∈ l, okN x) : ∀ y ∈ punL ci l m, y.s.length = 32 := by
  intro y hy
  obtain ⟨x, hx, hy⟩ := List.mem_flatMap.1 hy
  exact woL_len (ci := ci) _ x m (h x hx).2.2.2 y hy
/-- An element of a row of nodes, as a load meets it. -/
theorem rd_node {B : Nat} {w : World} {A : Option Addr} {l : List Nd} (h : Rd B w A (nvs l)) (hl : ∀ x ∈ l, x.s.length = 32) {k : Nat} (hk : k < l.length) :
    ∃ ad, A = some ad ∧ ad.block < B ∧ ∀ j v, (ndV l[k])[j]? = some v → w.cell? ((ad.add (k * 34)).add j) = some v := by
  have h0 : (ndV l[k])[0]? = some (.int .i64 l[k].d) := rfl
  obtain ⟨ad, hA, hb, _⟩ := h (34 * k + 0) _ (nvs_get hl hk h0)
  refine ⟨ad, hA, hb, fun j v hv => ?_⟩
  obtain ⟨ad', hA', _, hc⟩ := h (34 * k + j) v (nvs_get hl hk hv)
  rw [hA] at hA'
  injection hA' with hA'
  rw [hA', add_twice, Nat.mul_comm k 34]
  exact hc
end Go.Proofs.YtippbjpodnnhiaaDoor.Kg
/-
  The contract of the reference's Count.
-/
namespace Go.Proofs.YtippbjpodnnhiaaDoor.Kg
open Go.RowKit
variable {ci : Ciph}
attribute [local go_sem ↓] Go.wp_at_zero Go.wp_at_succ
theorem manyI_ok {d : Int} (h0 : 0 ≤ d) (h1 : d ≤ 17) : manyI d = 2 ^ (17 - d).toNat ∧ 1 ≤ manyI d ∧ manyI d ≤ 131072 := by
  obtain ⟨n, rfl⟩ := Int.eq_ofNat_of_zero_le h0
  have hn : n ≤ 17 := by omega
  match n, hn with
  | 0, _ => decide
  | 1, _ => decide
  | 2, _ => decide
  | 3, _ => decide
  | 4, _ => decide
  | 5, _ => decide
  | 6, _ => decide
  | 7, _ => decide
  | 8, _ => decide
  | 9, _ => decide
  | 10, _ => decide
  | 11, _ => decide
  | 12, _ => decide
  | 13, _ => decide
  | 14, _ => decide
  | 15, _ => decide
  | 16, _ => decide
  | 17, _ => decide
/-- How many leaves nodes have. -/
def countL : List Nd → Int
  | [] => 0
  | x :: l => manyI x.d + countL l
theorem countL_append (a b : List Nd) : countL (a ++ b) = countL a + countL b := by
  induction a with
  | nil => simp [countL]
  | cons x l ih => simp only [List.cons_append, countL, ih]; omega
theorem countL_bd (l : List Nd) (h : ∀ x ∈ l, okN x) : 0 ≤ countL l ∧ countL l ≤ l.length * 131072 := by
  induction l with
  | nil => simp [countL]
  | cons x l ih =>
    obtain ⟨h1, h2⟩ := ih (fun y hy => h y (by simp [hy]))
    obtain ⟨_, h3, h4⟩ := manyI_ok (h x (by simp)).1 (h x (by simp)).2.1
    rw [countL, List.length_cons]; omega
theorem countL_snoc (l : List Nd) {k : Nat} (h : k < l.length) : countL (l.take (k + 1)) = countL (l.take k) + manyI l[k].d := by
  rw [List.take_succ_eq_append_getElem h, countL_append]; simp [countL]
end Go.Proofs.YtippbjpodnnhiaaDoor.Kg
/-
  Cells in the midst of a block that is known whole; what grows; a copy told by the world that it makes.
-/
namespace Go.Proofs.YtippbjpodnnhiaaDoor
open Go.RowKit
theorem grown_trans {w w1 w2 : World} {row : Option Nat} (h : w.grownBy w1 row) (h' : w1.grownBy w2 row) : w.grownBy w2 row :=
  ⟨h'.os.trans h.os, h'.tape.trans h.tape, h'.output.trans h.output, Nat.le_trans h.size h'.size, fun k hk hne => (h'.block k (Nat.lt_of_lt_of_le hk h.size) hne).trans (h.block k hk hne)⟩
theorem grown_of_below {w w' : World} {row : Option Nat} (h : Below w.heap.size w w') : w.grownBy w' row :=
  ⟨h.os, h.tape, h.output, h.size, fun k hk _ => h.block k hk⟩
theorem rd_far {B g : Nat} {w w' : World} {A : Option Addr} {xs : List Value} (h : Rd B w A xs) (hg : w.grownBy w' (some g)) (hB : B ≤ g) : Rd B w' A xs := fun k u hu => by
  obtain ⟨ad, e, hl, hc⟩ := h k u hu
  refine ⟨ad, e, hl, hg.cell hc ?_⟩
  rw [add_block]
  intro h'
  injection h' with h'
  omega
theorem own_far {w w' : World} {base n g : Nat} {e : TypeId} {v : Value} {xs : List Value} (h : w.ownsRow base e 1 v n xs) (hg : w.grownBy w' (some g)) (hne : ∀ k, v.ownBlock = some k → k ≠ g) : w'.ownsRow base e 1 v n xs :=
  h.kept hg (by
    cases hv : v.ownBlock with
    | none => exact .inl rfl
    | some k => exact .inr (fun e => hne k hv (by injection e)))
theorem blk_far {w w' : World} {g g' : Nat} {cs : Array Value} {A : TypeId} (h : Blk w g' cs A) (hg : w.grownBy w' (some g)) (hne : g' ≠ g) : Blk w' g' cs A := by
  unfold Blk
  rw [hg.block g' h.lt (by intro e; injection e with e; exact hne e)]
  exact h
/-- The slice at A reads the cells xs, none of which lies in block g. -/
def Rf (g : Nat) (w : World) (A : Option Addr) (xs : List Value) : Prop :=
  ∀ k u, xs[k]? = some u → ∃ ad, A = some ad ∧ ad.block ≠ g ∧ w.cell? (ad.add k) = some u
section
variable {g : Nat} {w w' : World} {A : Option Addr} {xs : List Value}
theorem Rf.none : Rf g w A [] := fun k u h => by simp at h
theorem Rf.none' : Rf g w A (bv []) := fun k u h => by simp [bv] at h
theorem Rf.grown (h : Rf g w A xs) (hg : w.grownBy w' (some g)) : Rf g w' A xs := fun k u hu => by
  obtain ⟨ad, e, hn, hc⟩ := h k u hu
  exact ⟨ad, e, hn, hg.cell hc (by rw [add_block]; intro e; injection e with e; exact hn e)⟩
theorem Rf.src (h : Rf g w A xs) (hl : 0 < xs.length) : ∃ ad, A = some ad ∧ ad.block ≠ g ∧ ∀ j v, xs[j]? = some v → w.cell? (ad.add j) = some v := by
  obtain ⟨ad, rfl, hn, _⟩ := h 0 _ (List.getElem?_eq_getElem hl)
  refine ⟨ad, rfl, hn, fun j v hv => ?_⟩
  obtain ⟨ad', e, _, hc⟩ := h j v hv
  injection e with e
  subst e
  exact hc
theorem Rf.drop {a : Addr} {l : List UInt8} (h : Rf g w (some a) (bv l)) (k : Nat) : Rf g w (some (a.add k)) (bv (l.drop k)) := fun j u hu => by
  rw [bv_drop, List.getElem?_drop] at hu
  obtain ⟨ad, e, hb, hc⟩ := h (k + j) u hu
  injection e with e
  subst e
  exact ⟨_, rfl, by rw [add_block]; exact hb, by rw [add_twice]; exact hc⟩
theorem Rf.of_rd {B : Nat} (h : Rd B w A xs) (hB : B ≤ g) : Rf g w A xs := fun k u hu => by
  obtain ⟨ad, e, hb, hc⟩ := h k u hu
  exact ⟨ad, e, by omega, hc⟩
theorem Rf.of_own {base n c : Nat} {e : TypeId} (h : w.ownsRow base e 1 (.slice A n c) n xs) (hg : g < base) : Rf g w A xs := fun k u hu => by
  obtain ⟨ad, e', hb, hc⟩ := Rd.own h k u hu
  have hk : k < xs.length := (List.getElem?_eq_some_iff.1 hu).1
  have hn := own_len h
  subst e'
  have := (h.lt ad.block rfl).1
  exact ⟨ad, rfl, by omega, hc⟩
end
theorem grown_setCell (w : World) (g o : Nat) (v : Value) : w.grownBy (w.setCell ⟨g, o, none⟩ v) (some g) :=
  ⟨rfl, rfl, rfl, by simp, fun k _ hne => heap_setCell_other _ _ _ _ (fun e => hne (by rw [e]))⟩
theorem grown_setCells (g : Nat) : ∀ (vs : List Value) (o : Nat) (w : World), w.grownBy (w.setCells g o vs) (some g)
  | [], _, w => World.grownBy.refl w _
  | v :: vs, o, w => grown_trans (grown_setCell w g o v) (grown_setCells g vs (o + 1) _)
theorem grown_setRow (w : World) (g : Nat) (cs : Array Value) : w.grownBy (w.setRow g cs) (some g) :=
  ⟨rfl, rfl, rfl, by simp, fun k _ hne => setRow_other w g k cs (fun e => hne (by rw [e]))⟩
theorem grown_drew (w : World) (row : Option Nat) : w.grownBy w.drew row := ⟨rfl, rfl, rfl, Nat.le_refl _, fun _ _ _ => rfl⟩
theorem grown_drewN (w : World) (q : Nat) (row : Option Nat) : w.grownBy (w.drewN q) row := ⟨rfl, rfl, rfl, Nat.le_refl _, fun _ _ _ => rfl⟩

theorem splice_right {α : Type} (X L : List α) (o : Nat) (cs : List α) : splice (X ++ L) (X.length + o) cs = X ++ splice L o cs := by
  unfold splice
  rw [List.take_append, List.take_of_length_le (Nat.le_add_right _ _), Nat.add_sub_cancel_left, List.append_assoc, show X.length + o + cs.length = X.length + (o + cs.length) by omega, List.drop_append, List.drop_of_length_le (Nat.le_add_right _ _), List.nil_append, Nat.add_sub_cancel_left]
theorem splice_left {α : Type} (L Z : List α) (o : Nat) (cs : List α) (h : o + cs.length ≤ L.length) : splice (L ++ Z) o cs = splice L o cs ++ Z := by
  unfold splice
  rw [List.take_append_of_le_length (by omega), List.drop_append_of_le_length h, List.append_assoc, List.append_assoc]
theorem splice_whole {α : Type} (L cs : List α) (h : cs.length = L.length) : splice L 0 cs = cs := by
  unfold splice
  rw [List.take_zero, List.nil_append, List.drop_of_length_le (by omega), List.append_nil]
theorem splice_set {α : Type} (L : List α) (o : Nat) (v : α) (cs : List α) (h : o < L.length) : splice (L.set o v) (o + 1) cs = splice L o (v :: cs) := by
  unfold splice
  rw [List.take_set, List.drop_set_of_lt (by omega), List.length_cons, show o + 1 + cs.length = o + (cs.length + 1) by omega]
  rw [List.take_add_one, List.getElem?_eq_getElem h, Option.toList_some, List.set_append_right _ _ (by rw [List.length_take]; omega), List.length_take, Nat.min_eq_left (by omega), Nat.sub_self, List.set_cons_zero, List.append_assoc]
  rfl
theorem row_setCells (g : Nat) (t : TypeId) : ∀ (vs : List Value) (o : Nat) (w : World) (cs : List Value), w.heap[g]? = some (.cells cs.toArray t (0, 0)) → o + vs.length ≤ cs.length → (w.setCells g o vs).heap[g]? = some (.cells (splice cs o vs).toArray t (0, 0))
  | [], o, w, cs, h, _ => by
    have e : splice cs o [] = cs := by unfold splice; simp
    rw [e]; exact h
  | v :: vs, o, w, cs, h, hl => by
    rw [List.length_cons] at hl
    have h1 := heap_setCell_same w g o _ t v h
    rw [List.setIfInBounds_toArray] at h1
    have h2 := row_setCells g t vs (o + 1) (w.setCell ⟨g, o, none⟩ v) (cs.set o v) h1 (by rw [List.length_set]; omega)
    rw [splice_set cs o v vs (by omega)] at h2
    exact h2
theorem there_of_blk {w : World} {g : Nat} {cs : List Value} {A : TypeId} (h : Blk w g cs.toArray A) {o n : Nat} (hn : o + n ≤ cs.length) : w.there g o n := fun j hj =>
  ⟨by rw [h.cell, List.getElem?_toArray, List.getElem?_eq_getElem (by omega)]; rfl, h.free _⟩
theorem range_of_blk {w : World} {g : Nat} {X Y Z : List Value} {A : TypeId} (h : Blk w g (X ++ (Y ++ Z)).toArray A) : w.rangeAt g X.length Y := fun j v hv => by
  rw [h.cell, List.getElem?_toArray, List.getElem?_append_right (Nat.le_add_right _ _), Nat.add_sub_cancel_left]
  have hj := (List.getElem?_eq_some_iff.1 hv).1
  rw [List.getElem?_append_left hj]
  exact hv
/-- A copy of something, at a step of a region that draws: the world is told. -/
theorem step_copy_set {P : Program} {ops : Array Oper} {o : Oper} {a : Act} {w : World} {K : Act → World → Prop} {Q : Exit → Act → World → Prop} {E : Prop} (hgd : o.guard = none) (d s : Operand) (dT sT : TypeId)
    (ho : o.op = .call { callee := .builtin .copy, args := #[d, s], argTypes := #[dT, sT] }) (elem : TypeId) (hu : P.underlying dT = some (.slice elem)) (hsz : (P.info? elem).map (·.size) = some 1)
    (ad : Addr) (g off dLen dCap sLen sCap : Nat) (hd : a.eval d = .slice (some ⟨g, off, none⟩) dLen dCap) (hs : a.eval s = .slice (some ad) sLen sCap)
    (cur : List Value) (t : TypeId) (hg : w.heap[g]? = some (.cells cur.toArray t (0, 0))) (cs : List Value) (hn : cs.length = Nat.min sLen dLen)
    (hsrc : ∀ j v, cs[j]? = some v → w.cell? (ad.add j) = some v)
    (hfit : off + cs.length ≤ cur.length) (h1 : ∀ v ∈ cs, v.oneCell' = true) (k : Nat) (hk : cs.length = k)
    (h : K (a.put o.dst (goInt k)) (w.setRow g (splice cur off cs).toArray)) :
    if Region.wanted o (yielded ops a.tmps) = true then Oper.wp P o a w K Q else E := by
  subst hk
  have hw : Region.wanted o (yielded ops a.tmps) = true := by simp [Region.wanted, hgd]
  rw [if_pos hw]
  have hrun := run_copy_row (P := P) w dT sT o.type elem g off dLen dCap ad sLen sCap cur.toArray t cs hu hsz hg hn hsrc (by simpa using hfit) h1
  unfold Oper.wp
  simp [execOp, ho, resolve, invoke, builtin, hd, hs, hrun, Result.andThen]
  unfold splice at h
  simp only [Oper.upon]
  simpa using h
end Go.Proofs.YtippbjpodnnhiaaDoor
/-
  A load of a region that draws its order may be taken first where all that does not wait for it only looks at memory: whatever the region does behind.
-/
namespace Go.Proofs.YtippbjpodnnhiaaDoor

theorem loadAt_looks (t : TypeId) (x : Value) : (Instr.loadAt t x).Looks := by
  unfold Instr.loadAt
  refine Sem.Looks.bind ?_ fun a => ?_
  · unfold Instr.sureAddr
    split
    · exact pure_looks _
    · exact stuck_looks _
  · unfold loadVar isAgg
    refine Sem.Looks.bind (Sem.Looks.bind (underlying_looks t) fun d => ?_) fun b => ?_
    · split <;> exact pure_looks _
    · split
      · exact Sem.Looks.bind (sizeOf_looks t) fun n => Sem.Looks.bind (loadCells_looks a n) fun c => pure_looks _
      · exact load_looks _ _

/-- It yields a value, or ends, and leaves the world as it is. -/
def peeks (o : Oper) : Bool := match o.op with
  | .load .. | .move _ | .assign _ | .extract .. => true
  | _ => false

theorem peeks_run {P : Program} {o : Oper} (h : peeks o = true) (r : Operand → Value) (w : World) :
    (∃ v, (execOp r o).run P w = .ok (.value v) w) ∨ ∃ x w', (execOp r o).run P w = .halt x w' := by
  have val : ∀ s : Sem Value, s.Looks → (∃ v, (do pure (Next.value (← s)) : Sem Next).run P w = .ok (.value v) w) ∨ ∃ x w', (do pure (Next.value (← s)) : Sem Next).run P w = .halt x w' := by
    intro s hs
    rw [Sem.run_bind]
    cases hr : s.run P w with
    | ok v w1 =>
      have := hs.ok hr
      subst this
      exact .inl ⟨v, rfl⟩
    | halt x w1 => exact .inr ⟨x, w1, rfl⟩
  unfold peeks at h
  split at h
  · rename_i t x ho
    unfold execOp
    simp only [ho]
    exact val _ (loadAt_looks _ _)
  · rename_i x ho
    unfold execOp
    simp only [ho]
    exact .inl ⟨_, rfl⟩
  · rename_i x ho
    unfold execOp
    simp only [ho]
    exact .inl ⟨_, rfl⟩
  · rename_i x k ho
    unfold execOp
    simp only [ho]
    refine val _ ?_
    unfold Instr.extract
    repeat (first | exact pure_looks _ | exact stuck_looks _ | split)
  · cases h

section
variable {P : Program} {ops : Array Oper} {Q : Exit → Act → World → Prop} {md : Region.Mode}

theorem wpOp_peeks {j : Nat} {o : Oper} (hj : ops[j]? = some o) (h : peeks o = true) {K : Act → World → Prop} {a : Act} {w : World} (hh : wpOp P ops Q j K a w) :
    wpOp P ops Q j (fun a' w' => w' = w ∧ K a' w') a w := by
  unfold wpOp at *
  simp only [hj] at *
  split
  · rename_i hw
    simp only [hw, if_true] at hh
    rcases hh with hh | hh
    · refine .inl ?_
      unfold Oper.wp at *
      rcases peeks_run (P := P) h a.eval w with ⟨v, hr⟩ | ⟨x, w', hr⟩
      · rw [hr] at hh ⊢
        exact ⟨rfl, hh⟩
      · rw [hr] at hh ⊢
        cases x <;> exact hh
    · exact .inr hh
  · rename_i hw
    simp only [hw] at hh
    exact ⟨trivial, hh⟩

theorem wpAny_here {i : Nat} {oi : Oper} {v : Value} (hi : ops[i]? = some oi) (hsel : ∀ (j : Nat) (o : Oper) cs b, ops[j]? = some o → o.op ≠ .select cs b)
    (hQ : ∀ c a w, Q (.panic c) (a.put oi.dst v) w → Q (.panic c) a w) :
    ∀ (fuel : Nat) (listed : Array Bool) (a : Act) (w : World),
      (∀ j oj, ops[j]? = some oj → j ≠ i → listed.getD j true = false → (∀ e ∈ oj.after, Region.binds md e = true → e.on ≠ i) → oi.apart ops oj = true ∧ peeks oj = true) →
      i ∈ Region.ready md ops listed → YieldsIf P ops (· = w) oi v a →
      wpAny P md ops Q fuel (listed.setIfInBounds i true) (a.put oi.dst v) w → wpAny P md ops Q (fuel + 1) listed a w := by
  intro fuel
  induction fuel with
  | zero =>
    intro listed a w _ hr hy H
    refine ⟨fun h => (by rw [h] at hr; cases hr), fun j hj => ?_⟩
    by_cases hji : j = i
    · subst hji; exact hy.wpOp hi rfl H
    · have := ready_mono hj hji
      rw [H.1] at this
      cases this
  | succ fuel ih =>
    intro listed a w hfree hr hy H
    refine ⟨fun h => (by rw [h] at hr; cases hr), fun j hj => ?_⟩
    by_cases hji : j = i
    · subst hji; exact hy.wpOp hi rfl H
    · obtain ⟨hun, oj, hoj, hall⟩ := mem_ready.1 hj
      have hno : ∀ e ∈ oj.after, Region.binds md e = true → e.on ≠ i := fun e he hb heq => by
        have h1 := hall e he hb
        have h0 := (mem_ready.1 hr).1
        rw [heq] at h1
        by_cases h' : i < listed.size
        · simp [h'] at h0 h1; rw [h0] at h1; cases h1
        · simp [Array.getElem?_eq_none (Nat.le_of_not_lt h')] at h1
      obtain ⟨hap, hpk⟩ := hfree j oj hoj hji hun hno
      have h2 := wpOp_peeks hoj hpk (wpOp_putIf hoj hap (fun cs b => hsel i oi cs b hi) (fun cs b => hsel j oj cs b hoj) hQ hy (H.2 j (ready_mono hj hji)))
      refine wpOp_mono (fun a' w' h3 => ?_) h2
      obtain ⟨rfl, hy', h4⟩ := h3
      refine ih (listed.setIfInBounds j true) a' w' (fun k ok hk hki hunk hnk => hfree k ok hk hki ?_ hnk) (ready_mono hr (Ne.symm hji)) hy' ?_
      · by_cases hjk : j = k
        · subst hjk; exact hun
        · rw [getD_set_ne true hjk] at hunk; exact hunk
      · rw [Array.setIfInBounds_comm _ _ hji]
        exact h4

/-- What does not wait for number i, and has not come up, is apart from it and only looks. -/
def hereB (md : Region.Mode) (ops : Array Oper) (listed : Array Bool) (i : Nat) : Bool :=
  match ops[i]? with
  | none => false
  | some oi => (List.range ops.size).all fun j => j == i || listed.getD j true || match ops[j]? with
      | some oj => oj.after.any (fun e => Region.binds md e && e.on == i) || (oi.apart ops oj && peeks oj)
      | none => true

/-- Number i, which looks at memory, is taken first. -/
theorem wpAny_look {i : Nat} {oi : Oper} {v : Value} {fuel : Nat} {listed : Array Bool} {a : Act} {w : World} (hi : ops[i]? = some oi)
    (hs : Region.noSelect ops = true) (hf : hereB md ops listed i = true) (hr : (Region.ready md ops listed).contains i = true)
    (hQ : ∀ c a w, Q (.panic c) (a.put oi.dst v) w → Q (.panic c) a w) (hw : Region.wanted oi (yielded ops a.tmps) = true) (hy : (execOp a.eval oi).run P w = .ok (.value v) w)
    (h : wpAny P md ops Q fuel (listed.setIfInBounds i true) (a.put oi.dst v) w) : wpAny P md ops Q (fuel + 1) listed a w := by
  refine wpAny_here hi (Region.noSelect_spec hs) hQ fuel listed a w (fun j oj hj hji hun hno => ?_) (by simpa using hr) (.inl ⟨hw, fun w' hw' => by subst hw'; exact hy⟩) h
  simp only [hereB, hi, List.all_eq_true, List.mem_range] at hf
  have h1 := hf j (Array.getElem?_eq_some_iff.1 hj).1
  simp only [hj, Bool.or_eq_true, beq_iff_eq, hji, false_or, hun, Bool.false_eq_true, Bool.and_eq_true] at h1
  rcases h1 with h1 | h1
  · obtain ⟨e, he, hb⟩ := Array.any_eq_true'.1 h1
    simp only [Bool.and_eq_true, beq_iff_eq] at hb
    exact absurd hb.2 (hno e he hb.1)
  · exact h1
end
end Go.Proofs.YtippbjpodnnhiaaDoor
/-
  A call that always comes to one value and leaves the world as it is may be taken first in a region that draws its order, whatever stands beside it.
-/
namespace Go.Proofs.YtippbjpodnnhiaaDoor
section
variable {P : Program} {ops : Array Oper} {Q : Exit → Act → World → Prop} {md : Region.Mode} {S : World → Prop}
/-- What one operation leaves of a state: its own slot turned, and what is deferred. -/
def OneSlot (o : Oper) (a a' : Act) : Prop := ∃ u ds, a' = ({ a with defers := ds } : Act).put o.dst u
theorem wpOp_oneSlot {j : Nat} {o : Oper} (hj : ops[j]? = some o) {K : Act → World → Prop} {a : Act} {w : World} (h : wpOp P ops Q j K a w) :
    wpOp P ops Q j (fun a' w' => OneSlot o a a' ∧ K a' w') a w := by
  unfold wpOp at h ⊢
  simp only [hj] at h ⊢
  by_cases hw : Region.wanted o (yielded ops a.tmps) = true
  · rw [if_pos hw] at h ⊢
    refine h.imp (fun h => ?_) id
    unfold Oper.wp at h ⊢
    cases hr : (execOp a.eval o).run P w with
    | halt x w' => rw [hr] at h; cases x <;> exact h
    | ok nx w' =>
      rw [hr] at h
      cases nx <;> simp only [Oper.upon] at h ⊢
      case value u => exact ⟨⟨u, _, rfl⟩, h⟩
      case skip => exact ⟨⟨_, _, rfl⟩, h⟩
      case defer d => exact ⟨⟨_, d :: a.defers, rfl⟩, h⟩
      case enter f args =>
        refine Calls.mono h fun e w'' he => ?_
        cases e with
        | returned u => exact ⟨⟨u, _, rfl⟩, he⟩
        | panicked c => exact he
        | outgrown => exact he
      case row r args => exact Rows.mono h fun u w'' he => ⟨⟨u, _, rfl⟩, he⟩
  · rw [if_neg hw] at h ⊢
    exact ⟨⟨_, _, rfl⟩, h⟩
/-- It calls, comes to v, and the world is as it was. -/
def Pure (P : Program) (o : Oper) (v : Value) (a : Act) : Prop :=
  ∃ f args, (∀ w, (execOp a.eval o).run P w = .ok (.enter f args) w) ∧ ∀ w, Calls P f args w fun e w' => e = .returned v ∧ w = w'
theorem Pure.step {i : Nat} {o : Oper} {v : Value} {a : Act} (hi : ops[i]? = some o) (hw : Region.wanted o (yielded ops a.tmps) = true) (h : Pure P o v a) {K : Act → World → Prop} {w : World} (hk : K (a.put o.dst v) w) : wpOp P ops Q i K a w := by
  obtain ⟨f, args, h1, h2⟩ := h
  unfold wpOp
  simp only [hi]
  rw [if_pos hw]
  refine .inl ?_
  unfold Oper.wp
  rw [h1 w]
  exact (h2 w).mono fun e w' he => by
    obtain ⟨rfl, rfl⟩ := he
    exact hk
theorem wpAny_pure {i : Nat} {oi : Oper} {v : Value} (hi : ops[i]? = some oi) (hsel : ∀ (j : Nat) (o : Oper) cs b, ops[j]? = some o → o.op ≠ .select cs b)
    (hQ : ∀ c a w, Q (.panic c) (a.put oi.dst v) w → Q (.panic c) a w) :
    ∀ (fuel : Nat) (listed : Array Bool) (a : Act) (w : World),
      (∀ j oj, ops[j]? = some oj → j ≠ i → listed.getD j true = false → (∀ e ∈ oj.after, Region.binds md e = true → e.on ≠ i) → oi.apart ops oj = true) →
      i ∈ Region.ready md ops listed → Region.wanted oi (yielded ops a.tmps) = true → Pure P oi v a →
      wpAny P md ops Q fuel (listed.setIfInBounds i true) (a.put oi.dst v) w → wpAny P md ops Q (fuel + 1) listed a w
  | 0, listed, a, w, _, hr, hw, hy, H => by
    refine ⟨fun h => (by rw [h] at hr; cases hr), fun j hj => ?_⟩
    by_cases hji : j = i
    · subst hji; exact hy.step hi hw H
    · have := ready_mono hj hji
      rw [H.1] at this
      cases this
  | fuel + 1, listed, a, w, hfree, hr, hw, hy, H => by
    refine ⟨fun h => (by rw [h] at hr; cases hr), fun j hj => ?_⟩
    by_cases hji : j = i
    · subst hji; exact hy.step hi hw H
    · obtain ⟨hun, oj, hoj, hall⟩ := mem_ready.1 hj
      have hno : ∀ e ∈ oj.after, Region.binds md e = true → e.on ≠ i := fun e he hb heq => by
        have h1 := hall e he hb
        have h0 := (mem_ready.1 hr).1
        rw [heq] at h1
        by_cases h' : i < listed.size
        · simp [h'] at h0 h1; rw [h0] at h1; cases h1
        · simp [Array.getElem?_eq_none (Nat.le_of_not_lt h')] at h1
      have hap := hfree j oj hoj hji hun hno
      have h2 := wpOp_putIf (S := fun _ => False) hoj hap (fun cs b => hsel i oi cs b hi) (fun cs b => hsel j oj cs b hoj) hQ (.inl ⟨hw, fun _ h => h.elim⟩) (H.2 j (ready_mono hj hji))
      obtain ⟨_, _, hlook⟩ := Oper.apart_spec hap
      refine wpOp_mono (fun a' w' h3 => ?_) (wpOp_oneSlot hoj h2)
      obtain ⟨⟨u, ds, rfl⟩, _, h4⟩ := h3
      refine wpAny_pure hi hsel hQ fuel (listed.setIfInBounds j true) _ w' (fun k ok hk hki hunk hnk => hfree k ok hk hki ?_ hnk) (ready_mono hr (Ne.symm hji)) ?_ ?_ ?_
      · by_cases hjk : j = k
        · subst hjk; exact hun
        · rw [getD_set_ne true hjk] at hunk; exact hunk
      · rw [wanted_put oi _ oj.dst u hlook]; exact hw
      · obtain ⟨f, args, h5, h6⟩ := hy
        refine ⟨f, args, fun W => ?_, h6⟩
        rw [execOp_put oi (fun cs b => hsel i oi cs b hi) _ oj.dst u hlook]
        exact h5 W
      · rw [Array.setIfInBounds_comm _ _ hji]
        exact h4
/-- The move: number i is a call that only comes to v. -/
theorem wpAny_call {i : Nat} {oi : Oper} {v : Value} {fuel : Nat} {listed : Array Bool} {a : Act} {w : World} (hi : ops[i]? = some oi)
    (hs : Region.noSelect ops = true) (hf : Region.free md ops listed i = true) (hr : (Region.ready md ops listed).contains i = true)
    (hQ : ∀ c a w, Q (.panic c) (a.put oi.dst v) w → Q (.panic c) a w) (hw : Region.wanted oi (yielded ops a.tmps) = true) (f : FuncId) (args : Array Value)
    (he : ∀ w, (execOp a.eval oi).run P w = .ok (.enter f args) w) (hc : ∀ w, Calls P f args w fun e w' => e = .returned v ∧ w = w')
    (h : wpAny P md ops Q fuel (listed.setIfInBounds i true) (a.put oi.dst v) w) : wpAny P md ops Q (fuel + 1) listed a w :=
  wpAny_pure hi (Region.noSelect_spec hs) hQ fuel listed a w (Region.free_spec hi hf) (by simpa using hr) hw ⟨f, args, he, hc⟩ h
theorem wpAnyH_pure {i : Nat} {oi : Oper} {v : Value} (hi : ops[i]? = some oi) (hsel : ∀ (j : Nat) (o : Oper) cs b, ops[j]? = some o → o.op ≠ .select cs b)
    (hQ : ∀ c a w, Q (.panic c) (a.put oi.dst v) w → Q (.panic c) a w) :
    ∀ (fuel : Nat) (listed : Array Bool) (a : Act) (w : World),
      (∀ j oj, ops[j]? = some oj → j ≠ i → listed.getD j true = false → (∀ e ∈ oj.after, Region.binds md e = true → e.on ≠ i) → oi.apart ops oj = true) →
      i ∈ Region.ready md ops listed → Region.wanted oi (yielded ops a.tmps) = true → Pure P oi v a → S w →
      wpAnyH P md ops Q S fuel (listed.setIfInBounds i true) (a.put oi.dst v) w → wpAnyH P md ops Q S (fuel + 1) listed a w
  | 0, listed, a, w, _, hr, hw, hy, hS, H => by
    refine ⟨fun h => (by rw [h] at hr; cases hr), fun j hj => ?_⟩
    by_cases hji : j = i
    · subst hji; exact hy.step hi hw ⟨hS, H⟩
    · have := ready_mono hj hji
      rw [H.1] at this
      cases this
  | fuel + 1, listed, a, w, hfree, hr, hw, hy, hS, H => by
    refine ⟨fun h => (by rw [h] at hr; cases hr), fun j hj => ?_⟩
    by_cases hji : j = i
    · subst hji; exact hy.step hi hw ⟨hS, H⟩
    · obtain ⟨hun, oj, hoj, hall⟩ := mem_ready.1 hj
      have hno : ∀ e ∈ oj.after, Region.binds md e = true → e.on ≠ i := fun e he hb heq => by
        have h1 := hall e he hb
        have h0 := (mem_ready.1 hr).1
        rw [heq] at h1
        by_cases h' : i < listed.size
        · simp [h'] at h0 h1; rw [h0] at h1; cases h1
        · simp [Array.getElem?_eq_none (Nat.le_of_not_lt h')] at h1
      have hap := hfree j oj hoj hji hun hno
      have h2 := wpOp_putIf (S := fun _ => False) hoj hap (fun cs b => hsel i oi cs b hi) (fun cs b => hsel j oj cs b hoj) hQ (.inl ⟨hw, fun _ h => h.elim⟩) (H.2 j (ready_mono hj hji))
      obtain ⟨_, _, hlook⟩ := Oper.apart_spec hap
      refine wpOp_mono (fun a' w' h3 => ?_) (wpOp_oneSlot hoj h2)
      obtain ⟨⟨u, ds, rfl⟩, _, hS', h4⟩ := h3
      refine ⟨hS', ?_⟩
      refine wpAnyH_pure hi hsel hQ fuel (listed.setIfInBounds j true) _ w' (fun k ok hk hki hunk hnk => hfree k ok hk hki ?_ hnk) (ready_mono hr (Ne.symm hji)) ?_ ?_ hS' ?_
      · by_cases hjk : j = k
        · subst hjk; exact hun
        · rw [getD_set_ne true hjk] at hunk; exact hunk
      · rw [wanted_put oi _ oj.dst u hlook]; exact hw
      · obtain ⟨f, args, h5, h6⟩ := hy
        refine ⟨f, args, fun W => ?_, h6⟩
        rw [execOp_put oi (fun cs b => hsel i oi cs b hi) _ oj.dst u hlook]
        exact h5 W
      · rw [Array.setIfInBounds_comm _ _ hji]
        exact h4
/-- The move under a condition that is held. -/
theorem wpAnyH_call {i : Nat} {oi : Oper} {v : Value} {fuel : Nat} {listed : Array Bool} {a : Act} {w : World} (hi : ops[i]? = some oi)
    (hs : Region.noSelect ops = true) (hf : Region.free md ops listed i = true) (hr : (Region.ready md ops listed).contains i = true)
    (hQ : ∀ c a w, Q (.panic c) (a.put oi.dst v) w → Q (.panic c) a w) (hw : Region.wanted oi (yielded ops a.tmps) = true) (f : FuncId) (args : Array Value)
    (he : ∀ w, (execOp a.eval oi).run P w = .ok (.enter f args) w) (hc : ∀ w, Calls P f args w fun e w' => e = .returned v ∧ w = w') (hS : S w)
    (h : wpAnyH P md ops Q S fuel (listed.setIfInBounds i true) (a.put oi.dst v) w) : wpAnyH P md ops Q S (fuel + 1) listed a w :=
  wpAnyH_pure hi (Region.noSelect_spec hs) hQ fuel listed a w (Region.free_spec hi hf) (by simpa using hr) hw ⟨f, args, he, hc⟩ hS h
end
end Go.Proofs.YtippbjpodnnhiaaDoor
/-
  The contract of the reference's Key: a leaf's key of nodes that are held.
-/
namespace Go.Proofs.YtippbjpodnnhiaaDoor.Kg
open Go.RowKit
variable {ci : Ciph}
attribute [local go_sem ↓] Go.wp_at_zero Go.wp_at_succ
/-- The one of the two below a node that has the leaf. -/
def stepK (ci : Ciph) (x : Nd) (m : Int) : Nd := if IntKind.u64.wrap (x.a + manyI (x.d + 1)) ≤ m then ndR ci x else ndL ci x
/-- The way down. -/
def goL (ci : Ciph) : Nat → Nd → Int → Nd
  | 0, x, _ => x
  | f + 1, x, m => goL ci f (stepK ci x m) m
theorem stepK_s (x : Nd) (m : Int) : (stepK ci x m).s.length = 32 := by unfold stepK; split; exact ci.lenR _; exact ci.lenL _
theorem stepK_d (x : Nd) (m : Int) : (stepK ci x m).d = x.d + 1 := by unfold stepK; split <;> rfl
theorem goL_s : ∀ (f : Nat) (x : Nd) (m : Int), x.s.length = 32 → (goL ci f x m).s.length = 32
  | 0, _, _, h => h
  | f + 1, x, m, _ => goL_s f _ m (stepK_s (ci := ci) x m)
def depthAt (w : World) (X : Nat) : Nat := (17 - intOf ((w.cell? ⟨X, 0, none⟩).getD undef)).toNat
theorem blk_cells {w : World} {g g' o : Nat} {cs : Array Value} {t : TypeId} {vs : List Value} (h : Blk w g cs t) (hg : g ≠ g') : Blk (w.setCells g' o vs) g cs t := by
  have := (grown_setCells g' vs o w).block g h.lt (fun e => hg (by injection e))
  unfold Blk; rw [this]; exact h
theorem below_cells {B g o : Nat} {a w : World} {vs : List Value} (h : Below B a w) (hg : B ≤ g) (hs : B ≤ w.heap.size) : Below B a (w.setCells g o vs) :=
  h.grown (grown_setCells g vs o w) hs (fun k hk => by injection hk with hk; omega)
theorem below_cell {B g o : Nat} {a w : World} {v : Value} (h : Below B a w) (hg : B ≤ g) (hs : B ≤ w.heap.size) : Below B a (w.setCell ⟨g, o, none⟩ v) := below_cells (vs := [v]) h hg hs
theorem goL_step (y : Nd) (m : Int) (h : y.d < 17) : goL ci (17 - y.d).toNat y m = goL ci (17 - (y.d + 1)).toNat (stepK ci y m) m := by
  have e : (17 - y.d).toNat = (17 - (y.d + 1)).toNat + 1 := by omega
  rw [e]; rfl
theorem goL_end (y : Nd) (m : Int) (h : ¬ y.d < 17) : goL ci (17 - y.d).toNat y m = y := by
  have e : (17 - y.d).toNat = 0 := by omega
  rw [e]; rfl
theorem results_ct {P : Program} {fn : Func} {p u : Tmp} {ty : TypeId} (h : fn.results = #[.cell p ty, .tmp u]) (tmps : Array Value) (w : World) (g : Nat) (t : TypeId) (cs : Array Value) (d : TypeDesc)
    (hp : tmps.getD p undef = .pointer (some ⟨g, 0, none⟩)) (hg : Blk w g cs t)
    (hu : P.underlying ty = some d) (hd : (match d with | .struct _ | .array _ _ => true | _ => false) = true) (hi : (P.info? ty).map (·.size) = some cs.size) :
    (results fn tmps).run P w = .ok (.tuple #[.agg cs, tmps.getD u undef]) w := by
  have hp' : tmps[p]?.getD undef = .pointer (some ⟨g, 0, none⟩) := by simpa using hp
  simp [results, h, hp', asAddr, run_loadVar_row w g t ty cs (0, 0) d hg hu hd hi]
/-- What Key tells of the one that was found. -/
def keyV (ci : Ciph) (o : Option Nd) (m : Int) : Value := match o with | some x => .tuple #[.agg (bva (goL ci (17 - x.d).toNat x m).s), .bool true] | none => .tuple #[.agg (bva (List.replicate 32 0)), .bool false]
theorem keyV_some (x : Nd) (m : Int) : keyV ci (some x) m = .tuple #[.agg (bva (goL ci (17 - x.d).toNat x m).s), .bool true] := rfl
theorem keyV_none (m : Int) : keyV ci none m = .tuple #[.agg (bva (List.replicate 32 0)), .bool false] := rfl
theorem ndC_one (x : Nd) : (ndC x).all (·.oneCell') = true := by
  rw [ndC, List.all_toArray]; exact List.all_eq_true.2 (ndV_one x)
end Go.Proofs.YtippbjpodnnhiaaDoor.Kg
/-
  Rows of elements of several cells: copy, clear and append in place, over any program; and the world kept but for some blocks.
-/
namespace Go.Proofs.YtippbjpodnnhiaaDoor
open Go.RowKit
section
variable {P : Program}
theorem run_copyN (w : World) (dT sT ty elem : TypeId) (size : Nat) (hu : P.underlying dT = some (.slice elem)) (hs : (P.info? elem).map (·.size) = some size)
    (g o dLen dCap : Nat) (a : Addr) (sLen sCap : Nat) (cur : Array Value) (t : TypeId) (cs : List Value)
    (hg : w.heap[g]? = some (.cells cur t (0, 0))) (hn : cs.length = Nat.min sLen dLen * size)
    (hsrc : ∀ j v, cs[j]? = some v → w.cell? (a.add j) = some v) (hfit : o + cs.length ≤ cur.size) (h1 : ∀ v ∈ cs, v.oneCell' = true) :
    (Builtin.copy_ #[dT, sT] ty #[.slice (some ⟨g, o, none⟩) dLen dCap, .slice (some a) sLen sCap]).run P w =
      .ok (goInt (Nat.min sLen dLen)) (w.setRow g (splice cur.toList o cs).toArray) := by
  have hl := run_firstCells_some (P := P) w size (Nat.min sLen dLen) a sLen sCap cs hn hsrc
  have hst := run_storeCells_at P g o t cs 0 cur w hg (by simpa using hfit) h1
  cases hq : P.info? elem with
  | none => simp [hq] at hs
  | some i =>
    have hi : i.size = size := by simpa [hq] using hs
    rw [splice, ← List.append_assoc]
    simp only [Nat.add_zero] at hst
    have hl' : (Builtin.firstCells size (min sLen dLen) (.slice (some a) sLen sCap)).run P w = .ok cs.toArray w := hl
    simp [Builtin.copy_, run_underlying hu, Builtin.lenOf, sizeOf, typeInfo, hq, hi, hl', hst]
theorem run_clearN (w : World) (t e ty : TypeId) (z : Value) (size : Nat) (ht : P.underlying t = some (.slice e)) (hv : ∀ w, (zeroValue e).run P w = .ok z w) (hz : z.cells.size = size) (h1 : ∀ v ∈ z.cells.toList, v.oneCell' = true)
    (g o n c : Nat) (hn : 0 < n) (hs0 : 0 < size) (cur : Array Value) (te : TypeId) (hg : w.heap[g]? = some (.cells cur te (0, 0))) (hfit : o + n * size ≤ cur.size) :
    (Builtin.clear_ #[t] ty #[.slice (some ⟨g, o, none⟩) n c]).run P w = .ok (.tuple #[]) (w.setRow g (splice cur.toList o (Builtin.zeroCells z.cells n).toList).toArray) := by
  have hsz : (Builtin.zeroCells z.cells n).toList.length = n * size := by rw [Array.length_toList, size_zeroCells, hz]
  have h1' : ∀ v ∈ (Builtin.zeroCells z.cells n).toList, v.oneCell' = true := by
    intro v hv'
    simp only [Builtin.zeroCells, Array.toList_map, List.mem_map] at hv'
    obtain ⟨i, _, rfl⟩ := hv'
    have hlt : i % z.cells.size < z.cells.size := Nat.mod_lt _ (by omega)
    rw [getElem!_pos z.cells _ hlt]
    exact h1 _ (by simp)
  have hst := run_storeCells_at P g o te (Builtin.zeroCells z.cells n).toList 0 cur w hg (by rw [hsz]; simpa using hfit) h1'
  obtain ⟨m, rfl⟩ : ∃ m, n = m + 1 := ⟨n - 1, by omega⟩
  rw [splice, ← List.append_assoc]
  simp only [Nat.add_zero] at hst
  simp [Builtin.clear_, run_underlying ht, hv, hst]
theorem wp_copyR (w : World) {o : Oper} {a : Act} {K : Act → World → Prop} {Q : Exit → Act → World → Prop} (d s : Operand) (t t' : TypeId)
    (ho : o.op = .call { callee := .builtin .copy, args := #[d, s], argTypes := #[t, t'] }) (v u : Value) (hd : a.eval d = v) (hs : a.eval s = u) {v' : Value} {w' : World}
    (hr : (Builtin.copy_ #[t, t'] o.type #[v, u]).run P w = .ok v' w') (h : K (a.put o.dst v') w') : o.wp P a w K Q := by
  unfold Oper.wp execOp
  simp only [ho, resolve, invoke, builtin, Sem.run_bind, Sem.run_pure, Result.andThen_ok, List.map_toArray, List.map_cons, List.map_nil, hd, hs, hr]
  exact h
theorem wpList_copyR (w : World) {ops : Array Oper} {rest : List Oper} {o : Oper} {a : Act} {Q : Exit → Act → World → Prop} (hgd : o.guard = none) (d s : Operand) (t t' : TypeId)
    (ho : o.op = .call { callee := .builtin .copy, args := #[d, s], argTypes := #[t, t'] }) (v u : Value) (hd : a.eval d = v) (hs : a.eval s = u) {v' : Value} {w' : World}
    (hr : (Builtin.copy_ #[t, t'] o.type #[v, u]).run P w = .ok v' w') (h : wpList P ops Q rest (a.put o.dst v') w') : wpList P ops Q (o :: rest) a w :=
  wpList_plain hgd fun _ hK => wp_copyR w d s t t' ho v u hd hs hr (hK _ _ h)
theorem step_copyR {ops : Array Oper} {o : Oper} {a : Act} {w : World} {K : Act → World → Prop} {Q : Exit → Act → World → Prop} {E : Prop}
    (hg : o.guard = none) (d x : Operand) (dT sT : TypeId) (hop : o.op = Op.call { callee := Callee.builtin Builtin.copy, args := #[d, x], argTypes := #[dT, sT] })
    (v u : Value) (hd : a.eval d = v) (hx : a.eval x = u) {v' : Value} {w' : World} (hr : (Builtin.copy_ #[dT, sT] o.type #[v, u]).run P w = .ok v' w') (hK : K (a.put o.dst v') w') :
    if Region.wanted o (yielded ops a.tmps) = true then Oper.wp P o a w K Q else E := by
  rw [if_pos (by simp [Region.wanted, hg])]
  exact wp_copyR w d x dT sT hop v u hd hx hr hK
theorem wp_appR (w : World) {o : Oper} {a : Act} {K : Act → World → Prop} {Q : Exit → Act → World → Prop} (d s : Operand) (t t' : TypeId)
    (ho : o.op = .call { callee := .builtin .append, args := #[d, s], argTypes := #[t, t'] }) (v u : Value) (hd : a.eval d = v) (hs : a.eval s = u) {v' : Value} {w' : World}
    (hr : (Builtin.append_ #[t, t'] o.type #[v, u]).run P w = .ok v' w') (h : K (a.put o.dst v') w') : o.wp P a w K Q := by
  unfold Oper.wp execOp
  simp only [ho, resolve, invoke, builtin, Sem.run_bind, Sem.run_pure, Result.andThen_ok, List.map_toArray, List.map_cons, List.map_nil, hd, hs, hr]
  exact h
theorem wpList_appR (w : World) {ops : Array Oper} {rest : List Oper} {o : Oper} {a : Act} {Q : Exit → Act → World → Prop} (hgd : o.guard = none) (d s : Operand) (t t' : TypeId)
    (ho : o.op = .call { callee := .builtin .append, args := #[d, s], argTypes := #[t, t'] }) (v u : Value) (hd : a.eval d = v) (hs : a.eval s = u) {v' : Value} {w' : World}
    (hr : (Builtin.append_ #[t, t'] o.type #[v, u]).run P w = .ok v' w') (h : wpList P ops Q rest (a.put o.dst v') w') : wpList P ops Q (o :: rest) a w :=
  wpList_plain hgd fun _ hK => wp_appR w d s t t' ho v u hd hs hr (hK _ _ h)
theorem step_appR {ops : Array Oper} {o : Oper} {a : Act} {w : World} {K : Act → World → Prop} {Q : Exit → Act → World → Prop} {E : Prop}
    (hg : o.guard = none) (d x : Operand) (dT sT : TypeId) (hop : o.op = Op.call { callee := Callee.builtin Builtin.append, args := #[d, x], argTypes := #[dT, sT] })
    (v u : Value) (hd : a.eval d = v) (hx : a.eval x = u) {v' : Value} {w' : World} (hr : (Builtin.append_ #[dT, sT] o.type #[v, u]).run P w = .ok v' w') (hK : K (a.put o.dst v') w') :
    if Region.wanted o (yielded ops a.tmps) = true then Oper.wp P o a w K Q else E := by
  rw [if_pos (by simp [Region.wanted, hg])]
  exact wp_appR w d x dT sT hop v u hd hx hr hK
theorem wpList_clearR (w : World) {ops : Array Oper} {rest : List Oper} {o : Oper} {a : Act} {Q : Exit → Act → World → Prop} (hgd : o.guard = none) (d : Operand) (t : TypeId)
    (ho : o.op = .call { callee := .builtin .clear, args := #[d], argTypes := #[t] }) (v : Value) (hd : a.eval d = v) {v' : Value} {w' : World}
    (hr : (Builtin.clear_ #[t] o.type #[v]).run P w = .ok v' w') (h : wpList P ops Q rest (a.put o.dst v') w') : wpList P ops Q (o :: rest) a w :=
  wpList_plain hgd fun _ hK => by
    unfold Oper.wp execOp
    simp only [ho, resolve, invoke, builtin, Sem.run_bind, Sem.run_pure, Result.andThen_ok, List.map_toArray, List.map_cons, List.map_nil, hd, hr]
    exact hK _ _ h
end
/-- What there was is as it was, but for the blocks of S. -/
structure But (S : Nat → Prop) (w w' : World) : Prop where
  os : w'.os = w.os
  tape : w'.tape = w.tape
  output : w'.output = w.output
  size : w.heap.size ≤ w'.heap.size
  block : ∀ k, k < w.heap.size → ¬ S k → w'.heap[k]? = w.heap[k]?
section
variable {S T : Nat → Prop} {w w' w'' : World}
theorem But.refl (w : World) : But S w w := ⟨rfl, rfl, rfl, Nat.le_refl _, fun _ _ _ => rfl⟩
theorem But.mono (h : But S w w') (hST : ∀ k, S k → T k) : But T w w' := ⟨h.os, h.tape, h.output, h.size, fun k hk hT => h.block k hk (fun hS => hT (hST k hS))⟩
theorem But.trans (h : But S w w') (h' : But S w' w'') : But S w w'' :=
  ⟨h'.os.trans h.os, h'.tape.trans h.tape, h'.output.trans h.output, Nat.le_trans h.size h'.size, fun k hk hS => (h'.block k (Nat.lt_of_lt_of_le hk h.size) hS).trans (h.block k hk hS)⟩
theorem But.of_below {B : Nat} (h : Below B w w') (hS : ∀ k, B ≤ k → k < w.heap.size → S k) : But S w w' :=
  ⟨h.os, h.tape, h.output, h.size, fun k hk hk' => h.block k (Nat.lt_of_not_le fun hB => hk' (hS k hB hk))⟩
theorem But.below {B : Nat} (h : But S w w') (hS : ∀ k, k < B → ¬ S k) (hB : B ≤ w.heap.size) : Below B w w' :=
  ⟨h.os, h.tape, h.output, h.size, fun k hk => h.block k (Nat.lt_of_lt_of_le hk hB) (hS k hk)⟩
theorem But.drewN (h : But S w w') (n : Nat) : But S w (w'.drewN n) := ⟨h.os, h.tape, h.output, h.size, h.block⟩
theorem But.drew (h : But S w w') : But S w w'.drew := ⟨h.os, h.tape, h.output, h.size, h.block⟩
theorem But.setRow (h : But S w w') {g : Nat} (hg : S g ∨ w.heap.size ≤ g) (cs : Array Value) : But S w (w'.setRow g cs) :=
  ⟨h.os, h.tape, h.output, by simpa [World.setRow] using h.size, fun k hk hS => by
    have hne : k ≠ g := by rintro rfl; rcases hg with h1 | h1; exact hS h1; omega
    rw [setRow_other _ _ _ _ hne]; exact h.block k hk hS⟩
theorem But.setCell (h : But S w w') {g o : Nat} (hg : S g ∨ w.heap.size ≤ g) (v : Value) : But S w (w'.setCell ⟨g, o, none⟩ v) :=
  ⟨h.os, h.tape, h.output, by simpa using h.size, fun k hk hS => by
    have hne : k ≠ g := by rintro rfl; rcases hg with h1 | h1; exact hS h1; omega
    rw [heap_setCell_other _ _ _ _ hne]; exact h.block k hk hS⟩
theorem But.alloc (h : But S w w') (ob : Obj) : But S w (w'.alloc ob) :=
  ⟨h.os, h.tape, h.output, Nat.le_trans h.size (by simp), fun k hk hS => (heap_alloc_old _ _ (Nat.lt_of_lt_of_le hk h.size)).trans (h.block k hk hS)⟩
theorem But.grown {row : Option Nat} (h : But S w w') (hg : w'.grownBy w'' row) (hr : ∀ k, row = some k → S k ∨ w.heap.size ≤ k) : But S w w'' :=
  ⟨hg.os.trans h.os, hg.tape.trans h.tape, hg.output.trans h.output, Nat.le_trans h.size hg.size, fun k hk hS => by
    have hk' : k < w'.heap.size := Nat.lt_of_lt_of_le hk h.size
    refine (hg.block k hk' ?_).trans (h.block k hk hS)
    intro he
    rcases hr k (by first | exact he.symm | exact he) with h1 | h1
    · exact hS h1
    · omega⟩
theorem Blk.but {g : Nat} {cs : Array Value} {A : TypeId} (h : Blk w g cs A) (hb : But S w w') (hg : ¬ S g) : Blk w' g cs A := by
  unfold Blk; rw [hb.block g h.lt hg]; exact h
theorem Own.but {base n size : Nat} {e : TypeId} {v : Value} {xs : List Value} (h : w.ownsRow base e size v n xs) (hb : But S w w') (hv : ∀ k, v.ownBlock = some k → ¬ S k) : w'.ownsRow base e size v n xs := by
  refine ⟨h.1, ?_⟩
  rcases h.2 with h0 | ⟨g, cap, cur, rfl, h1, h2, h3⟩
  · exact .inl h0
  · exact .inr ⟨g, cap, cur, rfl, h1, by rw [hb.block g (Array.getElem?_eq_some_iff.1 h2).1 (hv g rfl)]; exact h2, h3⟩
end
end Go.Proofs.YtippbjpodnnhiaaDoor
