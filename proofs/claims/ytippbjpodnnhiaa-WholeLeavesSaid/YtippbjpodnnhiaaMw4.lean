/-
  Texts of this seat, one behind the other: PureCall, KgKey, KtArr, KgDelete, KgTree, KgLeaves, KgFind.
-/
import Derived.OrdersHeld
import Derived.Deep.RegionHeld
import Derived.Lib.AppendZerosOnto
import Derived.Lib.Overlaps
import Derived.Test.YtippbjpodnnhiaaMw3
/-
  A call that always comes to one value and leaves the world as it is may be taken first in a region that draws its order, whatever stands beside it.
-/
namespace Go.Proofs.Ytippbjpodnnhiaa
section
variable {P : Program} {ops : Array Oper} {Q : Exit → Act → World → Prop} {md : Region.Mode} {S : World → Prop}
/-- What one operation leaves of a state: its own slot turned, and what is deferred. -/
def OneSlot (o : Oper) (a a' : Act) : Prop := ∃ u ds, a' = ({ a with defers := ds } : Act).put o.dst u
theorem wpOp_oneSlot {j : Nat} {o : Oper} (hj : ops[j]? = some o) {K : Act → World → Prop} {a : Act} {w : World} (h : wpOp P ops Q j K a w) :
    wpOp P ops Q j (fun a' w' => OneSlot o a a' ∧ K a' w') a w := by
  unfold wpOp at h ⊢
  simp only [hj] at h ⊢
  by_cases hw : Region.wanted o (yielded ops a.tmps) = true
  · rw [if_pos hw] at h ⊢
    refine h.imp (fun h => ?_) id
    unfold Oper.wp at h ⊢
    cases hr : (execOp a.eval o).run P w with
    | halt x w' => rw [hr] at h; cases x <;> exact h
    | ok nx w' =>
      rw [hr] at h
      cases nx <;> simp only [Oper.upon] at h ⊢
      case value u => exact ⟨⟨u, _, rfl⟩, h⟩
      case skip => exact ⟨⟨_, _, rfl⟩, h⟩
      case defer d => exact ⟨⟨_, d :: a.defers, rfl⟩, h⟩
      case enter f args =>
        refine Calls.mono h fun e w'' he => ?_
        cases e with
        | returned u => exact ⟨⟨u, _, rfl⟩, he⟩
        | panicked c => exact he
        | outgrown => exact he
      case row r args => exact Rows.mono h fun u w'' he => ⟨⟨u, _, rfl⟩, he⟩
  · rw [if_neg hw] at h ⊢
    exact ⟨⟨_, _, rfl⟩, h⟩
/-- It calls, comes to v, and the world is as it was. -/
def Pure (P : Program) (o : Oper) (v : Value) (a : Act) : Prop :=
  ∃ f args, (∀ w, (execOp a.eval o).run P w = .ok (.enter f args) w) ∧ ∀ w, Calls P f args w fun e w' => e = .returned v ∧ w = w'
theorem Pure.step {i : Nat} {o : Oper} {v : Value} {a : Act} (hi : ops[i]? = some o) (hw : Region.wanted o (yielded ops a.tmps) = true) (h : Pure P o v a) {K : Act → World → Prop} {w : World} (hk : K (a.put o.dst v) w) : wpOp P ops Q i K a w := by
  obtain ⟨f, args, h1, h2⟩ := h
  unfold wpOp
  simp only [hi]
  rw [if_pos hw]
  refine .inl ?_
  unfold Oper.wp
  rw [h1 w]
  exact (h2 w).mono fun e w' he => by
    obtain ⟨rfl, rfl⟩ := he
    exact hk
theorem wpAny_pure {i : Nat} {oi : Oper} {v : Value} (hi : ops[i]? = some oi) (hsel : ∀ (j : Nat) (o : Oper) cs b, ops[j]? = some o → o.op ≠ .select cs b)
    (hQ : ∀ c a w, Q (.panic c) (a.put oi.dst v) w → Q (.panic c) a w) :
    ∀ (fuel : Nat) (listed : Array Bool) (a : Act) (w : World),
      (∀ j oj, ops[j]? = some oj → j ≠ i → listed.getD j true = false → (∀ e ∈ oj.after, Region.binds md e = true → e.on ≠ i) → oi.apart ops oj = true) →
      i ∈ Region.ready md ops listed → Region.wanted oi (yielded ops a.tmps) = true → Pure P oi v a →
      wpAny P md ops Q fuel (listed.setIfInBounds i true) (a.put oi.dst v) w → wpAny P md ops Q (fuel + 1) listed a w
  | 0, listed, a, w, _, hr, hw, hy, H => by
    refine ⟨fun h => (by rw [h] at hr; cases hr), fun j hj => ?_⟩
    by_cases hji : j = i
    · subst hji; exact hy.step hi hw H
    · have := ready_mono hj hji
      rw [H.1] at this
      cases this
  | fuel + 1, listed, a, w, hfree, hr, hw, hy, H => by
    refine ⟨fun h => (by rw [h] at hr; cases hr), fun j hj => ?_⟩
    by_cases hji : j = i
    · subst hji; exact hy.step hi hw H
    · obtain ⟨hun, oj, hoj, hall⟩ := mem_ready.1 hj
      have hno : ∀ e ∈ oj.after, Region.binds md e = true → e.on ≠ i := fun e he hb heq => by
        have h1 := hall e he hb
        have h0 := (mem_ready.1 hr).1
        rw [heq] at h1
        by_cases h' : i < listed.size
        · simp [h'] at h0 h1; rw [h0] at h1; cases h1
        · simp [Array.getElem?_eq_none (Nat.le_of_not_lt h')] at h1
      have hap := hfree j oj hoj hji hun hno
      have h2 := wpOp_putIf (S := fun _ => False) hoj hap (fun cs b => hsel i oi cs b hi) (fun cs b => hsel j oj cs b hoj) hQ (.inl ⟨hw, fun _ h => h.elim⟩) (H.2 j (ready_mono hj hji))
      obtain ⟨_, _, hlook⟩ := Oper.apart_spec hap
      refine wpOp_mono (fun a' w' h3 => ?_) (wpOp_oneSlot hoj h2)
      obtain ⟨⟨u, ds, rfl⟩, _, h4⟩ := h3
      refine wpAny_pure hi hsel hQ fuel (listed.setIfInBounds j true) _ w' (fun k ok hk hki hunk hnk => hfree k ok hk hki ?_ hnk) (ready_mono hr (Ne.symm hji)) ?_ ?_ ?_
      · by_cases hjk : j = k
        · subst hjk; exact hun
        · rw [getD_set_ne true hjk] at hunk; exact hunk
      · rw [wanted_put oi _ oj.dst u hlook]; exact hw
      · obtain ⟨f, args, h5, h6⟩ := hy
        refine ⟨f, args, fun W => ?_, h6⟩
        rw [execOp_put oi (fun cs b => hsel i oi cs b hi) _ oj.dst u hlook]
        exact h5 W
      · rw [Array.setIfInBounds_comm _ _ hji]
        exact h4
/-- The move: number i is a call that only comes to v. -/
theorem wpAny_call {i : Nat} {oi : Oper} {v : Value} {fuel : Nat} {listed : Array Bool} {a : Act} {w : World} (hi : ops[i]? = some oi)
    (hs : Region.noSelect ops = true) (hf : Region.free md ops listed i = true) (hr : (Region.ready md ops listed).contains i = true)
    (hQ : ∀ c a w, Q (.panic c) (a.put oi.dst v) w → Q (.panic c) a w) (hw : Region.wanted oi (yielded ops a.tmps) = true) (f : FuncId) (args : Array Value)
    (he : ∀ w, (execOp a.eval oi).run P w = .ok (.enter f args) w) (hc : ∀ w, Calls P f args w fun e w' => e = .returned v ∧ w = w')
    (h : wpAny P md ops Q fuel (listed.setIfInBounds i true) (a.put oi.dst v) w) : wpAny P md ops Q (fuel + 1) listed a w :=
  wpAny_pure hi (Region.noSelect_spec hs) hQ fuel listed a w (Region.free_spec hi hf) (by simpa using hr) hw ⟨f, args, he, hc⟩ h
theorem wpAnyH_pure {i : Nat} {oi : Oper} {v : Value} (hi : ops[i]? = some oi) (hsel : ∀ (j : Nat) (o : Oper) cs b, ops[j]? = some o → o.op ≠ .select cs b)
    (hQ : ∀ c a w, Q (.panic c) (a.put oi.dst v) w → Q (.panic c) a w) :
    ∀ (fuel : Nat) (listed : Array Bool) (a : Act) (w : World),
      (∀ j oj, ops[j]? = some oj → j ≠ i → listed.getD j true = false → (∀ e ∈ oj.after, Region.binds md e = true → e.on ≠ i) → oi.apart ops oj = true) →
      i ∈ Region.ready md ops listed → Region.wanted oi (yielded ops a.tmps) = true → Pure P oi v a → S w →
      wpAnyH P md ops Q S fuel (listed.setIfInBounds i true) (a.put oi.dst v) w → wpAnyH P md ops Q S (fuel + 1) listed a w
  | 0, listed, a, w, _, hr, hw, hy, hS, H => by
    refine ⟨fun h => (by rw [h] at hr; cases hr), fun j hj => ?_⟩
    by_cases hji : j = i
    · subst hji; exact hy.step hi hw ⟨hS, H⟩
    · have := ready_mono hj hji
      rw [H.1] at this
      cases this
  | fuel + 1, listed, a, w, hfree, hr, hw, hy, hS, H => by
    refine ⟨fun h => (by rw [h] at hr; cases hr), fun j hj => ?_⟩
    by_cases hji : j = i
    · subst hji; exact hy.step hi hw ⟨hS, H⟩
    · obtain ⟨hun, oj, hoj, hall⟩ := mem_ready.1 hj
      have hno : ∀ e ∈ oj.after, Region.binds md e = true → e.on ≠ i := fun e he hb heq => by
        have h1 := hall e he hb
        have h0 := (mem_ready.1 hr).1
        rw [heq] at h1
        by_cases h' : i < listed.size
        · simp [h'] at h0 h1; rw [h0] at h1; cases h1
        · simp [Array.getElem?_eq_none (Nat.le_of_not_lt h')] at h1
      have hap := hfree j oj hoj hji hun hno
      have h2 := wpOp_putIf (S := fun _ => False) hoj hap (fun cs b => hsel i oi cs b hi) (fun cs b => hsel j oj cs b hoj) hQ (.inl ⟨hw, fun _ h => h.elim⟩) (H.2 j (ready_mono hj hji))
      obtain ⟨_, _, hlook⟩ := Oper.apart_spec hap
      refine wpOp_mono (fun a' w' h3 => ?_) (wpOp_oneSlot hoj h2)
      obtain ⟨⟨u, ds, rfl⟩, _, hS', h4⟩ := h3
      refine ⟨hS', ?_⟩
      refine wpAnyH_pure hi hsel hQ fuel (listed.setIfInBounds j true) _ w' (fun k ok hk hki hunk hnk => hfree k ok hk hki ?_ hnk) (ready_mono hr (Ne.symm hji)) ?_ ?_ hS' ?_
      · by_cases hjk : j = k
        · subst hjk; exact hun
        · rw [getD_set_ne true hjk] at hunk; exact hunk
      · rw [wanted_put oi _ oj.dst u hlook]; exact hw
      · obtain ⟨f, args, h5, h6⟩ := hy
        refine ⟨f, args, fun W => ?_, h6⟩
        rw [execOp_put oi (fun cs b => hsel i oi cs b hi) _ oj.dst u hlook]
        exact h5 W
      · rw [Array.setIfInBounds_comm _ _ hji]
        exact h4
/-- The move under a condition that is held. -/
theorem wpAnyH_call {i : Nat} {oi : Oper} {v : Value} {fuel : Nat} {listed : Array Bool} {a : Act} {w : World} (hi : ops[i]? = some oi)
    (hs : Region.noSelect ops = true) (hf : Region.free md ops listed i = true) (hr : (Region.ready md ops listed).contains i = true)
    (hQ : ∀ c a w, Q (.panic c) (a.put oi.dst v) w → Q (.panic c) a w) (hw : Region.wanted oi (yielded ops a.tmps) = true) (f : FuncId) (args : Array Value)
    (he : ∀ w, (execOp a.eval oi).run P w = .ok (.enter f args) w) (hc : ∀ w, Calls P f args w fun e w' => e = .returned v ∧ w = w') (hS : S w)
    (h : wpAnyH P md ops Q S fuel (listed.setIfInBounds i true) (a.put oi.dst v) w) : wpAnyH P md ops Q S (fuel + 1) listed a w :=
  wpAnyH_pure hi (Region.noSelect_spec hs) hQ fuel listed a w (Region.free_spec hi hf) (by simpa using hr) hw ⟨f, args, he, hc⟩ hS h
end
end Go.Proofs.Ytippbjpodnnhiaa
/-
  The contract of the reference's Key: a leaf's key of nodes that are held.
-/
namespace Go.Proofs.Ytippbjpodnnhiaa.Kg
open Go.RowKit
variable {ci : Ciph}
attribute [local go_sem ↓] Go.wp_at_zero Go.wp_at_succ
/-- The one of the two below a node that has the leaf. -/
def stepK (ci : Ciph) (x : Nd) (m : Int) : Nd := if IntKind.u64.wrap (x.a + manyI (x.d + 1)) ≤ m then ndR ci x else ndL ci x
/-- The way down. -/
def goL (ci : Ciph) : Nat → Nd → Int → Nd
  | 0, x, _ => x
  | f + 1, x, m => goL ci f (stepK ci x m) m
theorem stepK_s (x : Nd) (m : Int) : (stepK ci x m).s.length = 32 := by unfold stepK; split; exact ci.lenR _; exact ci.lenL _
theorem stepK_d (x : Nd) (m : Int) : (stepK ci x m).d = x.d + 1 := by unfold stepK; split <;> rfl
theorem goL_s : ∀ (f : Nat) (x : Nd) (m : Int), x.s.length = 32 → (goL ci f x m).s.length = 32
  | 0, _, _, h => h
  | f + 1, x, m, _ => goL_s f _ m (stepK_s (ci := ci) x m)
def depthAt (w : World) (X : Nat) : Nat := (17 - intOf ((w.cell? ⟨X, 0, none⟩).getD undef)).toNat
theorem blk_cells {w : World} {g g' o : Nat} {cs : Array Value} {t : TypeId} {vs : List Value} (h : Blk w g cs t) (hg : g ≠ g') : Blk (w.setCells g' o vs) g cs t := by
  have := (grown_setCells g' vs o w).block g h.lt (fun e => hg (by injection e))
  unfold Blk; rw [this]; exact h
theorem below_cells {B g o : Nat} {a w : World} {vs : List Value} (h : Below B a w) (hg : B ≤ g) (hs : B ≤ w.heap.size) : Below B a (w.setCells g o vs) :=
  h.grown (grown_setCells g vs o w) hs (fun k hk => by injection hk with hk; omega)
theorem below_cell {B g o : Nat} {a w : World} {v : Value} (h : Below B a w) (hg : B ≤ g) (hs : B ≤ w.heap.size) : Below B a (w.setCell ⟨g, o, none⟩ v) := below_cells (vs := [v]) h hg hs
theorem goL_step (y : Nd) (m : Int) (h : y.d < 17) : goL ci (17 - y.d).toNat y m = goL ci (17 - (y.d + 1)).toNat (stepK ci y m) m := by
  have e : (17 - y.d).toNat = (17 - (y.d + 1)).toNat + 1 := by omega
  rw [e]; rfl
theorem goL_end (y : Nd) (m : Int) (h : ¬ y.d < 17) : goL ci (17 - y.d).toNat y m = y := by
  have e : (17 - y.d).toNat = 0 := by omega
  rw [e]; rfl
theorem results_ct {P : Program} {fn : Func} {p u : Tmp} {ty : TypeId} (h : fn.results = #[.cell p ty, .tmp u]) (tmps : Array Value) (w : World) (g : Nat) (t : TypeId) (cs : Array Value) (d : TypeDesc)
    (hp : tmps.getD p undef = .pointer (some ⟨g, 0, none⟩)) (hg : Blk w g cs t)
    (hu : P.underlying ty = some d) (hd : (match d with | .struct _ | .array _ _ => true | _ => false) = true) (hi : (P.info? ty).map (·.size) = some cs.size) :
    (results fn tmps).run P w = .ok (.tuple #[.agg cs, tmps.getD u undef]) w := by
  have hp' : tmps[p]?.getD undef = .pointer (some ⟨g, 0, none⟩) := by simpa using hp
  simp [results, h, hp', asAddr, run_loadVar_row w g t ty cs (0, 0) d hg hu hd hi]
/-- What Key tells of the one that was found. -/
def keyV (ci : Ciph) (o : Option Nd) (m : Int) : Value := match o with | some x => .tuple #[.agg (bva (goL ci (17 - x.d).toNat x m).s), .bool true] | none => .tuple #[.agg (bva (List.replicate 32 0)), .bool false]
theorem keyV_some (x : Nd) (m : Int) : keyV ci (some x) m = .tuple #[.agg (bva (goL ci (17 - x.d).toNat x m).s), .bool true] := rfl
theorem keyV_none (m : Int) : keyV ci none m = .tuple #[.agg (bva (List.replicate 32 0)), .bool false] := rfl
theorem ndC_one (x : Nd) : (ndC x).all (·.oneCell') = true := by
  rw [ndC, List.all_toArray]; exact List.all_eq_true.2 (ndV_one x)
end Go.Proofs.Ytippbjpodnnhiaa.Kg
/-
  Rows of elements of several cells: copy, clear and append in place, over any program; and the world kept but for some blocks.
-/
namespace Go.Proofs.Ytippbjpodnnhiaa
open Go.RowKit
section
variable {P : Program}
theorem run_copyN (w : World) (dT sT ty elem : TypeId) (size : Nat) (hu : P.underlying dT = some (.slice elem)) (hs : (P.info? elem).map (·.size) = some size)
    (g o dLen dCap : Nat) (a : Addr) (sLen sCap : Nat) (cur : Array Value) (t : TypeId) (cs : List Value)
    (hg : w.heap[g]? = some (.cells cur t (0, 0))) (hn : cs.length = Nat.min sLen dLen * size)
    (hsrc : ∀ j v, cs[j]? = some v → w.cell? (a.add j) = some v) (hfit : o + cs.length ≤ cur.size) (h1 : ∀ v ∈ cs, v.oneCell' = true) :
    (Builtin.copy_ #[dT, sT] ty #[.slice (some ⟨g, o, none⟩) dLen dCap, .slice (some a) sLen sCap]).run P w =
      .ok (goInt (Nat.min sLen dLen)) (w.setRow g (splice cur.toList o cs).toArray) := by
  have hl := run_firstCells_some (P := P) w size (Nat.min sLen dLen) a sLen sCap cs hn hsrc
  have hst := run_storeCells_at P g o t cs 0 cur w hg (by simpa using hfit) h1
  cases hq : P.info? elem with
  | none => simp [hq] at hs
  | some i =>
    have hi : i.size = size := by simpa [hq] using hs
    rw [splice, ← List.append_assoc]
    simp only [Nat.add_zero] at hst
    have hl' : (Builtin.firstCells size (min sLen dLen) (.slice (some a) sLen sCap)).run P w = .ok cs.toArray w := hl
    simp [Builtin.copy_, run_underlying hu, Builtin.lenOf, sizeOf, typeInfo, hq, hi, hl', hst]
theorem run_clearN (w : World) (t e ty : TypeId) (z : Value) (size : Nat) (ht : P.underlying t = some (.slice e)) (hv : ∀ w, (zeroValue e).run P w = .ok z w) (hz : z.cells.size = size) (h1 : ∀ v ∈ z.cells.toList, v.oneCell' = true)
    (g o n c : Nat) (hn : 0 < n) (hs0 : 0 < size) (cur : Array Value) (te : TypeId) (hg : w.heap[g]? = some (.cells cur te (0, 0))) (hfit : o + n * size ≤ cur.size) :
    (Builtin.clear_ #[t] ty #[.slice (some ⟨g, o, none⟩) n c]).run P w = .ok (.tuple #[]) (w.setRow g (splice cur.toList o (Builtin.zeroCells z.cells n).toList).toArray) := by
  have hsz : (Builtin.zeroCells z.cells n).toList.length = n * size := by rw [Array.length_toList, size_zeroCells, hz]
  have h1' : ∀ v ∈ (Builtin.zeroCells z.cells n).toList, v.oneCell' = true := by
    intro v hv'
    simp only [Builtin.zeroCells, Array.toList_map, List.mem_map] at hv'
    obtain ⟨i, _, rfl⟩ := hv'
    have hlt : i % z.cells.size < z.cells.size := Nat.mod_lt _ (by omega)
    rw [getElem!_pos z.cells _ hlt]
    exact h1 _ (by simp)
  have hst := run_storeCells_at P g o te (Builtin.zeroCells z.cells n).toList 0 cur w hg (by rw [hsz]; simpa using hfit) h1'
  obtain ⟨m, rfl⟩ : ∃ m, n = m + 1 := ⟨n - 1, by omega⟩
  rw [splice, ← List.append_assoc]
  simp only [Nat.add_zero] at hst
  simp [Builtin.clear_, run_underlying ht, hv, hst]
theorem wp_copyR (w : World) {o : Oper} {a : Act} {K : Act → World → Prop} {Q : Exit → Act → World → Prop} (d s : Operand) (t t' : TypeId)
    (ho : o.op = .call { callee := .builtin .copy, args := #[d, s], argTypes := #[t, t'] }) (v u : Value) (hd : a.eval d = v) (hs : a.eval s = u) {v' : Value} {w' : World}
    (hr : (Builtin.copy_ #[t, t'] o.type #[v, u]).run P w = .ok v' w') (h : K (a.put o.dst v') w') : o.wp P a w K Q := by
  unfold Oper.wp execOp
  simp only [ho, resolve, invoke, builtin, Sem.run_bind, Sem.run_pure, Result.andThen_ok, List.map_toArray, List.map_cons, List.map_nil, hd, hs, hr]
  exact h
theorem wpList_copyR (w : World) {ops : Array Oper} {rest : List Oper} {o : Oper} {a : Act} {Q : Exit → Act → World → Prop} (hgd : o.guard = none) (d s : Operand) (t t' : TypeId)
    (ho : o.op = .call { callee := .builtin .copy, args := #[d, s], argTypes := #[t, t'] }) (v u : Value) (hd : a.eval d = v) (hs : a.eval s = u) {v' : Value} {w' : World}
    (hr : (Builtin.copy_ #[t, t'] o.type #[v, u]).run P w = .ok v' w') (h : wpList P ops Q rest (a.put o.dst v') w') : wpList P ops Q (o :: rest) a w :=
  wpList_plain hgd fun _ hK => wp_copyR w d s t t' ho v u hd hs hr (hK _ _ h)
theorem step_copyR {ops : Array Oper} {o : Oper} {a : Act} {w : World} {K : Act → World → Prop} {Q : Exit → Act → World → Prop} {E : Prop}
    (hg : o.guard = none) (d x : Operand) (dT sT : TypeId) (hop : o.op = Op.call { callee := Callee.builtin Builtin.copy, args := #[d, x], argTypes := #[dT, sT] })
    (v u : Value) (hd : a.eval d = v) (hx : a.eval x = u) {v' : Value} {w' : World} (hr : (Builtin.copy_ #[dT, sT] o.type #[v, u]).run P w = .ok v' w') (hK : K (a.put o.dst v') w') :
    if Region.wanted o (yielded ops a.tmps) = true then Oper.wp P o a w K Q else E := by
  rw [if_pos (by simp [Region.wanted, hg])]
  exact wp_copyR w d x dT sT hop v u hd hx hr hK
theorem wp_appR (w : World) {o : Oper} {a : Act} {K : Act → World → Prop} {Q : Exit → Act → World → Prop} (d s : Operand) (t t' : TypeId)
    (ho : o.op = .call { callee := .builtin .append, args := #[d, s], argTypes := #[t, t'] }) (v u : Value) (hd : a.eval d = v) (hs : a.eval s = u) {v' : Value} {w' : World}
    (hr : (Builtin.append_ #[t, t'] o.type #[v, u]).run P w = .ok v' w') (h : K (a.put o.dst v') w') : o.wp P a w K Q := by
  unfold Oper.wp execOp
  simp only [ho, resolve, invoke, builtin, Sem.run_bind, Sem.run_pure, Result.andThen_ok, List.map_toArray, List.map_cons, List.map_nil, hd, hs, hr]
  exact h
theorem wpList_appR (w : World) {ops : Array Oper} {rest : List Oper} {o : Oper} {a : Act} {Q : Exit → Act → World → Prop} (hgd : o.guard = none) (d s : Operand) (t t' : TypeId)
    (ho : o.op = .call { callee := .builtin .append, args := #[d, s], argTypes := #[t, t'] }) (v u : Value) (hd : a.eval d = v) (hs : a.eval s = u) {v' : Value} {w' : World}
    (hr : (Builtin.append_ #[t, t'] o.type #[v, u]).run P w = .ok v' w') (h : wpList P ops Q rest (a.put o.dst v') w') : wpList P ops Q (o :: rest) a w :=
  wpList_plain hgd fun _ hK => wp_appR w d s t t' ho v u hd hs hr (hK _ _ h)
theorem step_appR {ops : Array Oper} {o : Oper} {a : Act} {w : World} {K : Act → World → Prop} {Q : Exit → Act → World → Prop} {E : Prop}
    (hg : o.guard = none) (d x : Operand) (dT sT : TypeId) (hop : o.op = Op.call { callee := Callee.builtin Builtin.append, args := #[d, x], argTypes := #[dT, sT] })
    (v u : Value) (hd : a.eval d = v) (hx : a.eval x = u) {v' : Value} {w' : World} (hr : (Builtin.append_ #[dT, sT] o.type #[v, u]).run P w = .ok v' w') (hK : K (a.put o.dst v') w') :
    if Region.wanted o (yielded ops a.tmps) = true then Oper.wp P o a w K Q else E := by
  rw [if_pos (by simp [Region.wanted, hg])]
  exact wp_appR w d x dT sT hop v u hd hx hr hK
theorem wpList_clearR (w : World) {ops : Array Oper} {rest : List Oper} {o : Oper} {a : Act} {Q : Exit → Act → World → Prop} (hgd : o.guard = none) (d : Operand) (t : TypeId)
    (ho : o.op = .call { callee := .builtin .clear, args := #[d], argTypes := #[t] }) (v : Value) (hd : a.eval d = v) {v' : Value} {w' : World}
    (hr : (Builtin.clear_ #[t] o.type #[v]).run P w = .ok v' w') (h : wpList P ops Q rest (a.put o.dst v') w') : wpList P ops Q (o :: rest) a w :=
  wpList_plain hgd fun _ hK => by
    unfold Oper.wp execOp
    simp only [ho, resolve, invoke, builtin, Sem.run_bind, Sem.run_pure, Result.andThen_ok, List.map_toArray, List.map_cons, List.map_nil, hd, hr]
    exact hK _ _ h
end
/-- What there was is as it was, but for the blocks of S. -/
structure But (S : Nat → Prop) (w w' : World) : Prop where
  os : w'.os = w.os
  tape : w'.tape = w.tape
  output : w'.output = w.output
  size : w.heap.size ≤ w'.heap.size
  block : ∀ k, k < w.heap.size → ¬ S k → w'.heap[k]? = w.heap[k]?
section
variable {S T : Nat → Prop} {w w' w'' : World}
theorem But.refl (w : World) : But S w w := ⟨rfl, rfl, rfl, Nat.le_refl _, fun _ _ _ => rfl⟩
theorem But.mono (h : But S w w') (hST : ∀ k, S k → T k) : But T w w' := ⟨h.os, h.tape, h.output, h.size, fun k hk hT => h.block k hk (fun hS => hT (hST k hS))⟩
theorem But.trans (h : But S w w') (h' : But S w' w'') : But S w w'' :=
  ⟨h'.os.trans h.os, h'.tape.trans h.tape, h'.output.trans h.output, Nat.le_trans h.size h'.size, fun k hk hS => (h'.block k (Nat.lt_of_lt_of_le hk h.size) hS).trans (h.block k hk hS)⟩
theorem But.of_below {B : Nat} (h : Below B w w') (hS : ∀ k, B ≤ k → k < w.heap.size → S k) : But S w w' :=
  ⟨h.os, h.tape, h.output, h.size, fun k hk hk' => h.block k (Nat.lt_of_not_le fun hB => hk' (hS k hB hk))⟩
theorem But.below {B : Nat} (h : But S w w') (hS : ∀ k, k < B → ¬ S k) (hB : B ≤ w.heap.size) : Below B w w' :=
  ⟨h.os, h.tape, h.output, h.size, fun k hk => h.block k (Nat.lt_of_lt_of_le hk hB) (hS k hk)⟩
theorem But.drewN (h : But S w w') (n : Nat) : But S w (w'.drewN n) := ⟨h.os, h.tape, h.output, h.size, h.block⟩
theorem But.drew (h : But S w w') : But S w w'.drew := ⟨h.os, h.tape, h.output, h.size, h.block⟩
theorem But.setRow (h : But S w w') {g : Nat} (hg : S g ∨ w.heap.size ≤ g) (cs : Array Value) : But S w (w'.setRow g cs) :=
  ⟨h.os, h.tape, h.output, by simpa [World.setRow] using h.size, fun k hk hS => by
    have hne : k ≠ g := by rintro rfl; rcases hg with h1 | h1; exact hS h1; omega
    rw [setRow_other _ _ _ _ hne]; exact h.block k hk hS⟩
theorem But.setCell (h : But S w w') {g o : Nat} (hg : S g ∨ w.heap.size ≤ g) (v : Value) : But S w (w'.setCell ⟨g, o, none⟩ v) :=
  ⟨h.os, h.tape, h.output, by simpa using h.size, fun k hk hS => by
    have hne : k ≠ g := by rintro rfl; rcases hg with h1 | h1; exact hS h1; omega
    rw [heap_setCell_other _ _ _ _ hne]; exact h.block k hk hS⟩
theorem But.alloc (h : But S w w') (ob : Obj) : But S w (w'.alloc ob) :=
  ⟨h.os, h.tape, h.output, Nat.le_trans h.size (by simp), fun k hk hS => (heap_alloc_old _ _ (Nat.lt_of_lt_of_le hk h.size)).trans (h.block k hk hS)⟩
theorem But.grown {row : Option Nat} (h : But S w w') (hg : w'.grownBy w'' row) (hr : ∀ k, row = some k → S k ∨ w.heap.size ≤ k) : But S w w'' :=
  ⟨hg.os.trans h.os, hg.tape.trans h.tape, hg.output.trans h.output, Nat.le_trans h.size hg.size, fun k hk hS => by
    have hk' : k < w'.heap.size := Nat.lt_of_lt_of_le hk h.size
    refine (hg.block k hk' ?_).trans (h.block k hk hS)
    intro he
    rcases hr k (by first | exact he.symm | exact he) with h1 | h1
    · exact hS h1
    · omega⟩
theorem Blk.but {g : Nat} {cs : Array Value} {A : TypeId} (h : Blk w g cs A) (hb : But S w w') (hg : ¬ S g) : Blk w' g cs A := by
  unfold Blk; rw [hb.block g h.lt hg]; exact h
theorem Own.but {base n size : Nat} {e : TypeId} {v : Value} {xs : List Value} (h : w.ownsRow base e size v n xs) (hb : But S w w') (hv : ∀ k, v.ownBlock = some k → ¬ S k) : w'.ownsRow base e size v n xs := by
  refine ⟨h.1, ?_⟩
  rcases h.2 with h0 | ⟨g, cap, cur, rfl, h1, h2, h3⟩
  · exact .inl h0
  · exact .inr ⟨g, cap, cur, rfl, h1, by rw [hb.block g (Array.getElem?_eq_some_iff.1 h2).1 (hv g rfl)]; exact h2, h3⟩
end
end Go.Proofs.Ytippbjpodnnhiaa
/-
  The contract of slices.Delete at a tree's nodes: one node is taken out of a row of the call's own.
-/
namespace Go.Proofs.Ytippbjpodnnhiaa.Kg
open Go.RowKit
variable {ci : Ciph}
attribute [local go_sem ↓] Go.wp_at_zero Go.wp_at_succ
theorem info_heldW : (Try.prog.info? 61).map (fun i => (i.zero, i.size, i.bytes)) = some (some (.agg (ndC zeroNd)), 34, 48) := by kernel_rfl
theorem heldsElt : EltN Try.prog 22 61 (.agg (ndC zeroNd)) 34 48 := ⟨Try.underlying22, info_heldW, ndC_size rfl, by omega, by omega⟩
theorem info_held : (Try.prog.info? 61).map (·.size) = some 34 := by kernel_rfl
theorem nvs_take {l : List Nd} (h : ∀ x ∈ l, x.s.length = 32) (k : Nat) : nvs (l.take k) = (nvs l).take (k * 34) := by
  induction l generalizing k with
  | nil => simp [nvs]
  | cons x l ih =>
    cases k with
    | zero => simp [nvs]
    | succ k =>
      have h34 := ndV_length (h x (by simp))
      rw [List.take_succ_cons, nvs, nvs, ih (fun y hy => h y (by simp [hy])), List.take_append, h34, List.take_of_length_le (l := ndV x) (by rw [h34]; omega), show (k + 1) * 34 - 34 = k * 34 by omega]
theorem nvs_drop {l : List Nd} (h : ∀ x ∈ l, x.s.length = 32) (k : Nat) : nvs (l.drop k) = (nvs l).drop (k * 34) := by
  induction l generalizing k with
  | nil => simp [nvs]
  | cons x l ih =>
    cases k with
    | zero => simp [nvs]
    | succ k =>
      have h34 := ndV_length (h x (by simp))
      rw [List.drop_succ_cons, nvs, ih (fun y hy => h y (by simp [hy])), List.drop_append, h34, List.drop_eq_nil_of_le (show (ndV x).length ≤ (k + 1) * 34 by rw [h34]; omega), List.nil_append, show (k + 1) * 34 - 34 = k * 34 by omega]
set_option maxRecDepth 100000 in
set_option maxHeartbeats 1600000 in
theorem delete_any (h n c i : Nat) (l : List Nd) (w : World) (hl : l.length = n) (h3 : ∀ x ∈ l, x.s.length = 32) (hi : i < n) (ho : w.ownsRow 0 61 34 (.slice (some ⟨h, 0, none⟩) n c) n (nvs l)) :
    Calls Try.prog 36 #[.slice (some ⟨h, 0, none⟩) n c, .int .i64 (i : Nat), .int .i64 ((i : Int) + 1)] w (fun e w' => e = .returned (.slice (some ⟨h, 0, none⟩) (n - 1) c) ∧
      w'.ownsRow 0 61 34 (.slice (some ⟨h, 0, none⟩) (n - 1) c) (n - 1) (nvs (l.take i ++ l.drop (i + 1))) ∧ But (· = h) w w') := by
  obtain ⟨hlen, h0 | ⟨g, cap, cur, hv, _, hg, hnc, hcm, hcs, htk⟩⟩ := ho
  · exact absurd h0.2 (by omega)
  injection hv with e1 _ e3
  injection e1 with e1
  injection e1 with e1
  subst e1
  subst e3
  unfold maxLen at hcm
  have i0 : (0 : Int) ≤ (i : Int) := by omega
  have i1 : (i : Int) ≤ (i : Int) + 1 := by omega
  have i2 : (i : Int) + 1 ≤ (n : Int) := by omega
  have i3 : (n : Int) ≤ (c : Int) := by omega
  have i4 : ((i : Int) == (i : Int) + 1) = false := by simp; omega
  have i5 : (i : Int) ≤ (c : Int) := by omega
  have i6 : (0 : Int) ≤ (i : Int) + 1 := by omega
  have HG := Lib.hid hg
  obtain ⟨news, hnw⟩ : ∃ x, x = nvs (l.drop (i + 1)) := ⟨_, rfl⟩
  have hnl : news.length = (n - (i + 1)) * 34 := by rw [hnw, nvs_length (fun x hx => h3 x (List.mem_of_mem_drop hx)), List.length_drop, hl]
  have hn1 : ∀ u ∈ news, u.oneCell' = true := by rw [hnw]; exact nvs_one _
  have hcell : ∀ j u, news[j]? = some u → cur.toList[(i + 1) * 34 + j]? = some u := by
    intro j u hu
    have hj := (List.getElem?_eq_some_iff.1 hu).1
    rw [hnw, nvs_drop h3, List.getElem?_drop, ← htk, List.getElem?_take] at hu
    split at hu
    · exact hu
    · cases hu
  obtain ⟨ie, hie, hz0, hz1, hz2⟩ := info_parts info_heldW
  obtain ⟨cur2, hc2⟩ : ∃ x, x = (cur.toList.take (i * 34) ++ news ++ cur.toList.drop (i * 34 + news.length)).toArray := ⟨_, rfl⟩
  have hrun : ∀ W, Blk W h cur 61 → ∀ ty m a cc, m = n - (i + 1) → (0 < m → a = ⟨h, (i + 1) * 34, none⟩) → (Builtin.append_ #[22, 22] ty #[.slice (some ⟨h, 0, none⟩) i c, .slice (some a) m cc]).run Try.prog W =
      .ok (.slice (some ⟨h, 0, none⟩) (n - 1) c) (W.setRow h cur2) := by
    intro W hW ty m a cc hm ha
    subst hm
    have hr := run_append_room (P := Try.prog) W 22 ty 61 ie Try.underlying22 hie h i c cur hW a (n - (i + 1)) cc news (by rw [hz1]; exact hnl) (fun j u hu => by
      have hj := (List.getElem?_eq_some_iff.1 hu).1
      rw [ha (by omega), Addr.add_mid, hW.cell, ← Array.getElem?_toList]
      exact hcell j u hu) hn1 (by omega) (by rw [hz1]; omega)
    rw [hz1, ← hc2, show i + (n - (i + 1)) = n - 1 by omega] at hr
    exact hr
  have HR := Lib.hid hrun
  have hs2 : cur2.size = c * 34 := by rw [hc2]; simp; omega
  have ht2 : cur2.toList.take ((n - 1) * 34) = nvs (l.take i ++ l.drop (i + 1)) := by
    rw [hc2, List.toList_toArray, List.take_left' (by simp; omega), nvs_append, ← hnw, nvs_take h3, ← htk, List.take_take]
    congr 2; omega
  obtain ⟨cur3, hc3⟩ : ∃ x, x = (splice cur2.toList ((n - 1) * 34) (Builtin.zeroCells (ndC zeroNd) 1).toList).toArray := ⟨_, rfl⟩
  have hz : ∀ W, (zeroValue 61).run Try.prog W = .ok (.agg (ndC zeroNd)) W := fun _ => by kernel_rfl
  have hclr : ∀ W, Blk W h cur2 61 → ∀ ty m cc, m = 1 → (Builtin.clear_ #[22] ty #[.slice (some ⟨h, (n - 1) * 34, none⟩) m cc]).run Try.prog W = .ok (.tuple #[]) (W.setRow h cur3) := fun W hW ty m cc hm => by
    subst hm
    rw [hc3]
    exact run_clearN W 22 61 ty (.agg (ndC zeroNd)) 34 Try.underlying22 hz (ndC_size rfl) (ndV_one zeroNd) h ((n - 1) * 34) 1 cc (by omega) (by omega) cur2 61 hW (by rw [hs2]; omega)
  have hown : ∀ W cc, Blk W h cur3 61 → cc = c → W.ownsRow 0 61 34 (.slice (some ⟨h, 0, none⟩) (n - 1) cc) (n - 1) (nvs (l.take i ++ l.drop (i + 1))) := fun W cc hW hcc => by
    subst hcc
    have hzl : (Builtin.zeroCells (ndC zeroNd) 1).toList.length = 34 := by rw [Array.length_toList, size_zeroCells, ndC_size rfl]
    refine ⟨by rw [nvs_length (fun x hx => by rcases List.mem_append.1 hx with hx | hx; exact h3 x (List.mem_of_mem_take hx); exact h3 x (List.mem_of_mem_drop hx)), List.length_append, List.length_take, List.length_drop, hl]; omega,
      .inr ⟨h, cc, cur3, rfl, Nat.zero_le _, hW, by omega, by unfold maxLen; omega, ?_, ?_⟩⟩
    · rw [hc3, List.size_toArray, length_splice _ _ _ (by rw [hzl, Array.length_toList, hs2]; omega), Array.length_toList, hs2]
    · rw [hc3, List.toList_toArray, splice, List.take_left' (by rw [List.length_take, Array.length_toList, hs2]; omega)]
      exact ht2
  have HC := Lib.hid hclr
  have HO := Lib.hid hown
  clear hclr hown hz hc3 ht2 hs2 hrun hnw hcell hz0 hz1 hz2 hie hg htk hn1 hc2
  go_enter Try.func36, Try.ntmps36
  go_wp2_with fail
  by_cases hend : i + 1 = c
  · have e0 : ((c : Int) == (i : Int) + 1) = true := by simp; omega
    refine wp_region_held_drew (S := fun w' => ∃ cs, Blk w' h cs 61) (by kernel_rfl) ⟨cur, HG.out⟩ (fun hh => ?_)
    have HH := Lib.hid hh
    clear hh
    refine wpAnyH_take (i := 0) (v := ?va0) rfl (by kernel_rfl) (by kernel_rfl) (by kernel_rfl) (fun _ _ _ h => h) (Or.inl ⟨by rfl, fun w' _ => ?ya0⟩) HH.out ?_
    case ya0 => (go_simp; try with_reducible rfl)
    refine wpAnyH_take (i := 1) (v := ?va1) rfl (by kernel_rfl) (by kernel_rfl) (by kernel_rfl) (fun _ _ _ h => h) (Or.inl ⟨by rfl, fun w' _ => ?ya1⟩) HH.out ?_
    case ya1 => (go_simp; try with_reducible rfl)
    try simp only [List.getElem_toArray, List.getElem_cons_succ, List.getElem_cons_zero, Act.put, List.setIfInBounds_toArray, List.set_cons_zero, List.set_cons_succ]
    refine wpAnyH_take (i := 2) (v := ?va2) rfl (by kernel_rfl) (by kernel_rfl) (by kernel_rfl) (fun _ _ _ h => h) (Or.inl ⟨by rfl, fun w' _ => ?ya2⟩) HH.out ?_
    case ya2 => (go_simp; try with_reducible rfl)
    refine wpAnyH_take (i := 3) (v := ?va3) rfl (by kernel_rfl) (by kernel_rfl) (by kernel_rfl) (fun _ _ _ h => h) (Or.inl ⟨by rfl, fun w' _ => ?ya3⟩) HH.out ?_
    case ya3 => (go_simp; try with_reducible rfl)
    refine wpAnyH_take (i := 4) (v := ?va4) rfl (by kernel_rfl) (by kernel_rfl) (by kernel_rfl) (fun _ _ _ h => h) (Or.inl ⟨by rfl, fun w' _ => ?ya4⟩) HH.out ?_
    case ya4 => (go_simp; try with_reducible rfl)
    try simp only [List.getElem_toArray, List.getElem_cons_succ, List.getElem_cons_zero, Act.put, List.setIfInBounds_toArray, List.set_cons_zero, List.set_cons_succ]
    refine wpAnyH_take (i := 5) (v := ?va5) rfl (by kernel_rfl) (by kernel_rfl) (by kernel_rfl) (fun _ _ _ h => h) (Or.inl ⟨by rfl, fun w' _ => ?ya5⟩) HH.out ?_
    case ya5 => (go_simp; try with_reducible rfl)
    try simp only [List.getElem_toArray, List.getElem_cons_succ, List.getElem_cons_zero, Act.put, List.setIfInBounds_toArray, List.set_cons_zero, List.set_cons_succ]
    refine wpAnyH_ready (rs := [6]) (by kernel_rfl) (by simp) (AllReadyH.cons rfl (fun K hK => ?_) AllReadyH.nil)
    refine step_appR rfl (.tmp 22) (.tmp 25) 22 22 rfl (.slice (some ⟨h, 0, none⟩) i c) (.slice (some ⟨h, 0, none⟩) 0 0) rfl rfl (HR.out w.drew HG.out _ 0 ⟨h, 0, none⟩ 0 (by omega) (by first | (intro; omega) | (intro; rfl))) ?_
    refine hK.out _ _ (⟨_, setRow_heap _ _ _ _ _ _ HG.out⟩) (fun hh => ?_)
    have HH' := Lib.hid hh
    clear hh hK K HH
    have HH := Lib.hid HH'.out
    clear HH'
    refine wpAnyH_take (i := 7) (v := ?vab7) rfl (by kernel_rfl) (by kernel_rfl) (by kernel_rfl) (fun _ _ _ h => h) (Or.inl ⟨by rfl, fun w' _ => ?yab7⟩) HH.out ?_
    case yab7 => (go_simp; try with_reducible rfl)
    try simp only [List.getElem_toArray, List.getElem_cons_succ, List.getElem_cons_zero, Act.put, List.setIfInBounds_toArray, List.set_cons_zero, List.set_cons_succ]
    refine wpAnyH_done (by kernel_rfl) ?_ _
    clear HH
    generalize hw1 : World.setRow _ _ _ = w1
    have G2 : Blk w1 h cur2 61 := by rw [← hw1]; exact setRow_heap _ _ _ _ _ _ HG.out
    have B2 : But (· = h) w w1 := by rw [← hw1]; exact But.setRow (S := (· = h)) (g := h) (But.refl w).drew (.inl rfl) _
    clear hw1
    have HG2 := Lib.hid G2
    have HB2 := Lib.hid B2
    clear G2 B2
    have hcc := HC.out _ HG2.out 0 (n - (n - 1)) (c - (n - 1)) (by omega)
    go_wp2
    clear hcc
    generalize hw3 : World.setRow _ _ _ = w3
    have O3 := HO.out _ c (show Blk w3 h cur3 61 by rw [← hw3]; exact setRow_heap _ _ _ _ _ _ HG2.out) rfl
    have B3 := show But (· = h) w w3 by rw [← hw3]; exact But.setRow (S := (· = h)) (g := h) HB2.out (.inl rfl) _
    clear hw3 HG2 HB2
    go_ret
    exact ⟨rfl, O3, B3⟩
  · have e0 : ¬ c = i + 1 := by omega
    refine wp_region_held_drew (S := fun w' => ∃ cs, Blk w' h cs 61) (by kernel_rfl) ⟨cur, HG.out⟩ (fun hh => ?_)
    have HH := Lib.hid hh
    clear hh
    refine wpAnyH_take (i := 0) (v := ?vc0) rfl (by kernel_rfl) (by kernel_rfl) (by kernel_rfl) (fun _ _ _ h => h) (Or.inl ⟨by rfl, fun w' _ => ?yc0⟩) HH.out ?_
    case yc0 => (go_simp; try with_reducible rfl)
    refine wpAnyH_take (i := 1) (v := ?vc1) rfl (by kernel_rfl) (by kernel_rfl) (by kernel_rfl) (fun _ _ _ h => h) (Or.inl ⟨by rfl, fun w' _ => ?yc1⟩) HH.out ?_
    case yc1 => (go_simp; try with_reducible rfl)
    try simp only [List.getElem_toArray, List.getElem_cons_succ, List.getElem_cons_zero, Act.put, List.setIfInBounds_toArray, List.set_cons_zero, List.set_cons_succ]
    refine wpAnyH_take (i := 2) (v := ?vc2) rfl (by kernel_rfl) (by kernel_rfl) (by kernel_rfl) (fun _ _ _ h => h) (Or.inl ⟨by rfl, fun w' _ => ?yc2⟩) HH.out ?_
    case yc2 => (go_simp; try with_reducible rfl)
    refine wpAnyH_take (i := 3) (v := ?vc3) rfl (by kernel_rfl) (by kernel_rfl) (by kernel_rfl) (fun _ _ _ h => h) (Or.inl ⟨by rfl, fun w' _ => ?yc3⟩) HH.out ?_
    case yc3 => (go_simp; try with_reducible rfl)
    refine wpAnyH_take (i := 4) (v := ?vc4) rfl (by kernel_rfl) (by kernel_rfl) (by kernel_rfl) (fun _ _ _ h => h) (Or.inl ⟨by rfl, fun w' _ => ?yc4⟩) HH.out ?_
    case yc4 => (go_simp; try with_reducible rfl)
    try simp only [List.getElem_toArray, List.getElem_cons_succ, List.getElem_cons_zero, Act.put, List.setIfInBounds_toArray, List.set_cons_zero, List.set_cons_succ]
    refine wpAnyH_take (i := 5) (v := ?vc5) rfl (by kernel_rfl) (by kernel_rfl) (by kernel_rfl) (fun _ _ _ h => h) (Or.inl ⟨by rfl, fun w' _ => ?yc5⟩) HH.out ?_
    case yc5 => (go_simp; try with_reducible rfl)
    try simp only [List.getElem_toArray, List.getElem_cons_succ, List.getElem_cons_zero, Act.put, List.setIfInBounds_toArray, List.set_cons_zero, List.set_cons_succ]
    refine wpAnyH_ready (rs := [6]) (by kernel_rfl) (by simp) (AllReadyH.cons rfl (fun K hK => ?_) AllReadyH.nil)
    refine step_appR rfl (.tmp 22) (.tmp 25) 22 22 rfl (.slice (some ⟨h, 0, none⟩) i c) (.slice (some ⟨h, (i + 1) * 34, none⟩) (n - (i + 1)) (c - (i + 1))) rfl rfl (HR.out w.drew HG.out _ (n - (i + 1)) ⟨h, (i + 1) * 34, none⟩ (c - (i + 1)) (by omega) (by first | (intro; omega) | (intro; rfl))) ?_
    refine hK.out _ _ (⟨_, setRow_heap _ _ _ _ _ _ HG.out⟩) (fun hh => ?_)
    have HH' := Lib.hid hh
    clear hh hK K HH
    have HH := Lib.hid HH'.out
    clear HH'
    refine wpAnyH_take (i := 7) (v := ?vcb7) rfl (by kernel_rfl) (by kernel_rfl) (by kernel_rfl) (fun _ _ _ h => h) (Or.inl ⟨by rfl, fun w' _ => ?ycb7⟩) HH.out ?_
    case ycb7 => (go_simp; try with_reducible rfl)
    try simp only [List.getElem_toArray, List.getElem_cons_succ, List.getElem_cons_zero, Act.put, List.setIfInBounds_toArray, List.set_cons_zero, List.set_cons_succ]
    refine wpAnyH_done (by kernel_rfl) ?_ _
    clear HH
    generalize hw1 : World.setRow _ _ _ = w1
    have G2 : Blk w1 h cur2 61 := by rw [← hw1]; exact setRow_heap _ _ _ _ _ _ HG.out
    have B2 : But (· = h) w w1 := by rw [← hw1]; exact But.setRow (S := (· = h)) (g := h) (But.refl w).drew (.inl rfl) _
    clear hw1
    have HG2 := Lib.hid G2
    have HB2 := Lib.hid B2
    clear G2 B2
    have hcc := HC.out _ HG2.out 0 (n - (n - 1)) (c - (n - 1)) (by omega)
    go_wp2
    clear hcc
    generalize hw3 : World.setRow _ _ _ = w3
    have O3 := HO.out _ c (show Blk w3 h cur3 61 by rw [← hw3]; exact setRow_heap _ _ _ _ _ _ HG2.out) rfl
    have B3 := show But (· = h) w w3 by rw [← hw3]; exact But.setRow (S := (· = h)) (g := h) HB2.out (.inl rfl) _
    clear hw3 HG2 HB2
    go_ret
    exact ⟨rfl, O3, B3⟩
end Go.Proofs.Ytippbjpodnnhiaa.Kg
/-
  A tree of keys: its held nodes as a list; what stands where; the plain facts about lists of nodes without a leaf.
-/
namespace Go.Proofs.Ytippbjpodnnhiaa.Kg
open Go.RowKit
variable {ci : Ciph}
/-- A node that may be held. -/
def okH (x : Nd) : Prop := 0 ≤ x.d ∧ x.d ≤ 17 ∧ 0 ≤ x.a ∧ x.a % manyI x.d = 0 ∧ x.a + manyI x.d ≤ 131072 ∧ x.s.length = 32
/-- Nodes that may be held, the first one not ahead of e. -/
def okS : Int → List Nd → Prop
  | _, [] => True
  | e, x :: l => okH x ∧ e ≤ x.a ∧ okS (x.a + manyI x.d) l
/-- Has one of the nodes the leaf? -/
def hasI (l : List Nd) (m : Int) : Bool := l.any (inI · m)
theorem many_cases {d : Int} (h0 : 0 ≤ d) (h1 : d ≤ 17) : (d = 17 ∧ manyI d = 1) ∨ (d < 17 ∧ manyI d = 2 * manyI (d + 1)) := by
  have h : d = 0 ∨ d = 1 ∨ d = 2 ∨ d = 3 ∨ d = 4 ∨ d = 5 ∨ d = 6 ∨ d = 7 ∨ d = 8 ∨ d = 9 ∨ d = 10 ∨ d = 11 ∨ d = 12 ∨ d = 13 ∨ d = 14 ∨ d = 15 ∨ d = 16 ∨ d = 17 := by omega
  rcases h with h | h | h | h | h | h | h | h | h | h | h | h | h | h | h | h | h | h <;> subst h <;> decide
theorem okH.many {x : Nd} (h : okH x) : 1 ≤ manyI x.d ∧ manyI x.d ≤ 131072 := (manyI_ok h.1 h.2.1).2
theorem okH.okN {x : Nd} (h : okH x) : okN x := ⟨h.1, h.2.1, h.2.2.1, h.2.2.2.2.2⟩
theorem wrap_small {z : Int} (h0 : 0 ≤ z) (h1 : z ≤ 131072) : IntKind.u64.wrap z = z := IntWalk.u64_in _ (by omega)
theorem inI_iff {x : Nd} {m : Int} : inI x m = true ↔ x.a ≤ m ∧ m < x.a + manyI x.d := by
  simp only [inI, Bool.and_eq_true, decide_eq_true_eq]; omega
theorem inI_not {x : Nd} {m : Int} : inI x m = false ↔ m < x.a ∨ x.a + manyI x.d ≤ m := by
  rw [← Bool.not_eq_true, inI_iff]; omega
theorem ndL_ok {x : Nd} (h : okH x) (hd : x.d < 17) : okH (ndL ci x) ∧ (ndL ci x).a = x.a ∧ manyI x.d = 2 * manyI (x.d + 1) := by
  obtain ⟨h0, h1, h2, h3, h4, h5⟩ := h
  have hm : manyI x.d = 2 * manyI (x.d + 1) := by rcases many_cases h0 h1 with h | h; omega; exact h.2
  have hp := (manyI_ok (d := x.d + 1) (by omega) (by omega)).2
  refine ⟨⟨by simp only [ndL]; omega, by simp only [ndL]; omega, h2, ?_, by simp only [ndL]; omega, ci.lenL _⟩, rfl, hm⟩
  simp only [ndL]
  rw [hm] at h3
  exact Int.emod_eq_zero_of_dvd (Int.dvd_trans ⟨2, by omega⟩ (Int.dvd_of_emod_eq_zero h3))
theorem ndR_ok {x : Nd} (h : okH x) (hd : x.d < 17) : okH (ndR ci x) ∧ (ndR ci x).a = x.a + manyI (x.d + 1) := by
  obtain ⟨h0, h1, h2, h3, h4, h5⟩ := h
  have hm : manyI x.d = 2 * manyI (x.d + 1) := by rcases many_cases h0 h1 with h | h; omega; exact h.2
  have hp := (manyI_ok (d := x.d + 1) (by omega) (by omega)).2
  have ha : (ndR ci x).a = x.a + manyI (x.d + 1) := by simp only [ndR]; exact wrap_small (by omega) (by omega)
  refine ⟨⟨by simp only [ndR]; omega, by simp only [ndR]; omega, by omega, ?_, by rw [ha]; simp only [ndR]; omega, ci.lenR _⟩, ha⟩
  rw [ha]
  simp only [ndR]
  rw [hm] at h3
  have : (manyI (x.d + 1)) ∣ x.a := Int.dvd_trans ⟨2, by omega⟩ (Int.dvd_of_emod_eq_zero h3)
  exact Int.emod_eq_zero_of_dvd (Int.dvd_add this (Int.dvd_refl _))
theorem woL_not {f : Nat} {x : Nd} {m : Int} (h : inI x m = false) : woL ci f x m = [x] := by
  cases f <;> (unfold woL; rw [if_neg (by simp [h])])
theorem okS_mono {e e' : Int} {l : List Nd} (h : okS e l) (he : e' ≤ e) : okS e' l := by
  cases l with
  | nil => trivial
  | cons x l => exact ⟨h.1, by have := h.2.1; omega, h.2.2⟩
theorem okS_mem : ∀ {e : Int} {l : List Nd}, okS e l → ∀ x ∈ l, okH x ∧ e ≤ x.a
  | _, [], _, x, hx => by simp at hx
  | e, y :: l, h, x, hx => by
    rcases List.mem_cons.1 hx with rfl | hx
    · exact ⟨h.1, h.2.1⟩
    · have := okS_mem h.2.2 x hx
      have h1 := h.1.many
      exact ⟨this.1, by have := h.2.1; omega⟩
/-- Two lists of nodes, the one behind the other. -/
theorem okS_append : ∀ {e E : Int} {a b : List Nd}, okS e a → (∀ x ∈ a, x.a + manyI x.d ≤ E) → okS E b → e ≤ E → okS e (a ++ b)
  | e, E, [], b, _, _, hb, he => okS_mono hb he
  | e, E, x :: a, b, ha, hE, hb, _ => ⟨ha.1, ha.2.1, okS_append ha.2.2 (fun y hy => hE y (by simp [hy])) hb (hE x (by simp))⟩
/-- What is left of a node lies in it. -/
theorem woL_ok : ∀ (f : Nat) (x : Nd) (m : Int), okH x → x.d = 17 - (f : Int) → okS x.a (woL ci f x m) ∧ ∀ y ∈ woL ci f x m, y.a + manyI y.d ≤ x.a + manyI x.d
  | 0, x, m, h, hd => by
    unfold woL; split
    · exact ⟨trivial, fun y hy => by simp at hy⟩
    · exact ⟨⟨h, Int.le_refl _, trivial⟩, fun y hy => by simp at hy; rw [hy]; exact Int.le_refl _⟩
  | f + 1, x, m, h, hd => by
    unfold woL; split
    · obtain ⟨h1, h2, h3⟩ := ndL_ok (ci := ci) h (by omega)
      obtain ⟨h4, h5⟩ := ndR_ok (ci := ci) h (by omega)
      obtain ⟨p1, p2⟩ := woL_ok f (ndL ci x) m h1 (by simp only [ndL]; omega)
      obtain ⟨q1, q2⟩ := woL_ok f (ndR ci x) m h4 (by simp only [ndR]; omega)
      have e1 : (ndL ci x).d = x.d + 1 := rfl
      have e2 : (ndR ci x).d = x.d + 1 := rfl
      have hp := (manyI_ok (d := x.d + 1) (by have := h.1; omega) (by omega)).2
      rw [e1, h2] at p2
      rw [e2, h5] at q2
      rw [h2] at p1
      rw [h5] at q1
      refine ⟨okS_append p1 p2 q1 (by omega), fun y hy => ?_⟩
      rcases List.mem_append.1 hy with hy | hy
      · have := p2 y hy; omega
      · have := q2 y hy; omega
    · exact ⟨⟨h, Int.le_refl _, trivial⟩, fun y hy => by simp at hy; rw [hy]; exact Int.le_refl _⟩
theorem punL_cons (x : Nd) (l : List Nd) (m : Int) : punL ci (x :: l) m = woL ci (17 - x.d).toNat x m ++ punL ci l m := by simp [punL]
theorem punL_append (a b : List Nd) (m : Int) : punL ci (a ++ b) m = punL ci a m ++ punL ci b m := by simp [punL]
theorem punL_ok : ∀ {e : Int} {l : List Nd} (m : Int), okS e l → okS e (punL ci l m)
  | _, [], _, _ => trivial
  | e, x :: l, m, h => by
    rw [punL_cons]
    have hf : x.d = 17 - ((17 - x.d).toNat : Int) := by have := h.1.2.1; omega
    obtain ⟨p1, p2⟩ := woL_ok (ci := ci) _ x m h.1 hf
    have := h.1.many
    exact okS_append (okS_mono p1 h.2.1) p2 (punL_ok m h.2.2) (by have := h.2.1; omega)
theorem punL_not : ∀ {l : List Nd} {m : Int}, (∀ x ∈ l, inI x m = false) → punL ci l m = l
  | [], _, _ => rfl
  | x :: l, m, h => by rw [punL_cons, woL_not (ci := ci) (h x (by simp)), punL_not (fun y hy => h y (by simp [hy]))]; rfl
theorem okS_above : ∀ {e : Int} {l : List Nd} {m : Int}, okS e l → m < e → ∀ x ∈ l, inI x m = false := fun h hm x hx => by
  have := (okS_mem h x hx).2
  rw [inI_not]; omega
theorem okS_split : ∀ {e : Int} {a b : List Nd}, okS e (a ++ b) → okS e a ∧ (∀ x ∈ a, ∀ y ∈ b, x.a + manyI x.d ≤ y.a)
  | _, [], _, _ => ⟨trivial, fun x hx => by simp at hx⟩
  | e, x :: a, b, h => by
    obtain ⟨p, q⟩ := okS_split h.2.2
    refine ⟨⟨h.1, h.2.1, p⟩, fun y hy z hz => ?_⟩
    rcases List.mem_cons.1 hy with rfl | hy
    · exact (okS_mem h.2.2 z (by simp [hz])).2
    · exact q y hy z hz
theorem okS_len {e : Int} {l : List Nd} (h : okS e l) : ∀ x ∈ l, x.s.length = 32 := fun x hx => (okS_mem h x hx).1.2.2.2.2.2
theorem okS_N {e : Int} {l : List Nd} (h : okS e l) : ∀ x ∈ l, okN x := fun x hx => (okS_mem h x hx).1.okN
/-- There are no more nodes than leaves. -/
theorem okS_count : ∀ {e : Int} {l : List Nd}, 0 ≤ e → e ≤ 131072 → okS e l → e + l.length ≤ 131072
  | e, [], h0, h1, _ => by simpa using h1
  | e, x :: l, h0, h1, h => by
    have hm := h.1.many
    have := okS_count (by have := h.2.1; omega) h.1.2.2.2.2.1 h.2.2
    have := h.2.1
    rw [List.length_cons]; omega
theorem okS_few {l : List Nd} (h : okS 0 l) : l.length ≤ 131072 := by have := okS_count (Int.le_refl 0) (by omega) h; omega
end Go.Proofs.Ytippbjpodnnhiaa.Kg
/-
  The contract of keytree's leaves: how many leaves a node of a depth has.
-/
namespace Go.Proofs.Ytippbjpodnnhiaa.Kg
open Go.RowKit
variable {ci : Ciph}
theorem leaves_any (d : Int) (h0 : 0 ≤ d) (h17 : d ≤ 17) (w : World) : Calls Try.prog 40 #[.int .i64 d] w (fun e w' => e = .returned (.int .u64 (manyI d)) ∧ w = w') := by
  have hw : IntKind.i64.wrap (17 - d) = 17 - d := IntWalk.i64_in _ (by omega)
  go_enter Try.func40, Try.ntmps40
  go_wp2
  go_ret
  refine ⟨congrArg (fun z => Ending.returned (Value.int .u64 z)) ?_, rfl⟩
  unfold manyI
  split
  · rename_i h; obtain rfl : d = 17 := by omega
    rfl
  · rfl
end Go.Proofs.Ytippbjpodnnhiaa.Kg
/-
  The contracts of the tree's find: which node has the leaf, by halving.
-/
namespace Go.Proofs.Ytippbjpodnnhiaa.Kg
open Go.RowKit
variable {ci : Ciph}
attribute [local go_sem ↓] Go.wp_at_zero Go.wp_at_succ
/-- Where a leaf lies, seen from a node: behind it, in it, ahead of it. -/
def cmpI (x : Nd) (m : Int) : Int := if m < x.a then 1 else if x.a + manyI x.d ≤ m then -1 else 0
section
variable {w : World} {g : Nat} {x : Nd} {t : TypeId}
theorem ndt_d (h : Blk w g (ndC x) t) : w.cell? ⟨g, 0, none⟩ = some (.int .i64 x.d) := by rw [h.cell]; rfl
theorem ndt_a (h : Blk w g (ndC x) t) : w.cell? ⟨g, 1, none⟩ = some (.int .u64 x.a) := by rw [h.cell]; rfl
theorem ndt_s (h : Blk w g (ndC x) t) : w.rangeAt g 2 (bv x.s) := fun j v hv => by
  rw [h.cell, ndC, List.getElem?_toArray, ndV, show 2 + j = j + 1 + 1 by omega, List.getElem?_cons_succ, List.getElem?_cons_succ]
  exact hv
end
theorem leaves_q (d : Int) (h0 : 0 ≤ d) (h17 : d ≤ 17) (w : World) : Calls Try.prog 40 #[.int .i64 d] w (RetQ (.int .u64 (manyI d)) w) :=
  (leaves_any d h0 h17 w).mono fun _ _ ⟨he, hw⟩ => ⟨he, 0, hw.symm⟩
set_option maxRecDepth 100000 in
set_option maxHeartbeats 800000 in
theorem cmp_any (x : Nd) (hx : okH x) (m : Int) (w : World) :
    Calls Try.prog 49 #[.agg (ndC x), .int .u64 m] w (RetB (.int .i64 (cmpI x m)) w) := by
  have b1 : Blk (w.alloc (.cells (ndC x) 61)) w.heap.size (ndC x) 61 := heap_alloc_new _ _
  have hb : Below w.heap.size w (w.alloc (.cells (ndC x) 61)) := (Below.refl _ _).alloc (Nat.le_refl _) _
  have c0 := ndt_d b1
  have c1 := ndt_a b1
  have BB := Lib.hid hb
  have hmm := hx.many
  obtain ⟨M, hM⟩ : ∃ M, M = manyI x.d := ⟨_, rfl⟩
  rw [← hM] at hmm
  have HQ := Lib.hid (show ∀ W, Calls Try.prog 40 #[.int .i64 x.d] W (RetQ (.int .u64 M) W) from fun W => by rw [hM]; exact leaves_q x.d hx.1 hx.2.1 W)
  have e0 : IntKind.u64.wrap (x.a + M) = x.a + M := IntWalk.u64_in _ (by have := hx.2.2.1; have := hx.2.2.2.2.1; omega)
  by_cases h1 : m < x.a
  · have e1 : decide (m < x.a) = true := decide_eq_true h1
    have ei : cmpI x m = 1 := by rw [cmpI, if_pos h1]
    clear h1 hx hb hM b1
    go_enter Try.func49, Try.ntmps49
    go_wp2
    go_ret
    rw [ei]
    exact ⟨rfl, BB.out⟩
  · have e1 : decide (m < x.a) = false := decide_eq_false h1
    by_cases h2 : x.a + M ≤ m
    · have e3 : decide (m ≥ x.a + M) = true := decide_eq_true h2
      have ei : cmpI x m = -1 := by rw [cmpI, if_neg h1, if_pos (by rw [← hM]; exact h2)]
      clear h1 h2 hx hb hM b1
      go_enter Try.func49, Try.ntmps49
      go_wp2_with fail
      go_quiet ((go_at_call 40; exact RetQ.quiet (HQ.out _)))
      go_wp2
      go_ret
      rw [ei]
      exact ⟨rfl, below_drewN' BB.out _⟩
    · have e3 : decide (m ≥ x.a + M) = false := decide_eq_false h2
      have ei : cmpI x m = 0 := by rw [cmpI, if_neg h1, if_neg (by rw [← hM]; exact h2)]
      clear h1 h2 hx hb hM b1
      go_enter Try.func49, Try.ntmps49
      go_wp2_with fail
      go_quiet ((go_at_call 40; exact RetQ.quiet (HQ.out _)))
      go_wp2
      go_ret
      rw [ei]
      exact ⟨rfl, below_drewN' BB.out _⟩
theorem wpList_load_at_if {P : Program} {ops : Array Oper} {rest : List Oper} {o : Oper} {a : Act} {w : World} {Q : Exit → Act → World → Prop} (hgd : Region.wanted o (yielded ops a.tmps) = true) (ty : TypeId) (x : Operand) (ho : o.op = .load ty x) (ad : Addr) {cs : List Value} {d : TypeDesc} (hx : a.eval x = .pointer (some ad)) (hc : ∀ j v, cs[j]? = some v → w.cell? (ad.add j) = some v)
    (hu : P.underlying ty = some d) (hd : (match d with | .struct _ | .array _ _ => true | _ => false) = true) (hi : (P.info? ty).map (·.size) = some cs.length)
    (h : wpList P ops Q rest (a.put o.dst (.agg cs.toArray)) w) : wpList P ops Q (o :: rest) a w := by
  unfold wpList
  rw [if_pos hgd]
  refine .inl ?_
  unfold Oper.wp
  rw [exec_load_at ty x ho ad hx hc hu hd hi]
  exact h
/-- Where the search ends: ahead of it lie the nodes whose leaves are all below m, from it on those that have a leaf that isn't. -/
def Found (l : List Nd) (m : Int) (i : Nat) (b : Bool) : Prop :=
  i ≤ l.length ∧ (∀ k x, k < i → l[k]? = some x → x.a + manyI x.d ≤ m) ∧ (∀ k x, i ≤ k → l[k]? = some x → m < x.a + manyI x.d) ∧ b = (match l[i]? with | some x => decide (x.a ≤ m) | none => false)
/-- Of two nodes the one that stands ahead lies ahead. -/
theorem okS_at : ∀ {e : Int} {l : List Nd}, okS e l → ∀ (i j : Nat) (x y : Nd), i < j → l[i]? = some x → l[j]? = some y → x.a + manyI x.d ≤ y.a
  | _, [], _, i, j, x, y, _, h, _ => by simp at h
  | e, z :: l, h, 0, j + 1, x, y, _, h1, h2 => by
    rw [List.getElem?_cons_zero] at h1
    injection h1 with h1; subst h1
    rw [List.getElem?_cons_succ] at h2
    exact (okS_mem h.2.2 y (List.mem_of_getElem? h2)).2
  | e, z :: l, h, i + 1, j + 1, x, y, hij, h1, h2 => by
    rw [List.getElem?_cons_succ] at h1 h2
    exact okS_at h.2.2 i j x y (by omega) h1 h2
set_option maxRecDepth 100000 in
set_option maxHeartbeats 1600000 in
theorem search_any {B : Nat} (A : Option Addr) (n c : Nat) (l : List Nd) (e : Int) (m : Int) (w : World) (hl : l.length = n) (hv : okS e l) (hB : B ≤ w.heap.size) (hr : Rd B w A (nvs l)) (hn : n ≤ 1000000) :
    Calls Try.prog 48 #[.slice A n c, .int .u64 m, .func (.func 49) #[] #[]] w (fun e w' => ∃ i b, e = .returned (.tuple #[.int .i64 (i : Nat), .bool b]) ∧ Found l m i b ∧ Below w.heap.size w w') := by
  have HL := Lib.hid hl
  have HV := Lib.hid hv
  have HR := Lib.hid (hr.more hB)
  clear hl hv hr hB
  go_enter Try.func48, Try.ntmps48
  go_wp2_with fail
  go_loopw [9, 10] (fun i j wr => ∃ p q, p ≤ q ∧ q ≤ n ∧ i = .int .i64 (p : Nat) ∧ j = .int .i64 (q : Nat) ∧ Below w.heap.size w wr ∧ Hid (∀ k x, k < p → l[k]? = some x → x.a + manyI x.d ≤ m) ∧ Hid (∀ k x, q ≤ k → l[k]? = some x → m < x.a + manyI x.d)) (fun i j _ => (intOf j - intOf i).toNat)
  case atStart => exact ⟨0, n, by omega, by omega, rfl, rfl, Below.refl _ _, fun k x h => by omega, fun k x h h' => by
    have := (List.getElem?_eq_some_iff.1 h').1
    rw [HL.out] at this; omega⟩
  case round =>
    obtain ⟨p, q, hpq, hqn, rfl, rfl, hbw, HP, HQ⟩ := hrel
    by_cases hlt : p < q
    · have e1 : IntKind.i64.wrap ((p : Int) + (q : Int)) = (p : Int) + (q : Int) := IntWalk.i64_in _ (by omega)
      obtain ⟨k, hk⟩ : ∃ k : Nat, k = (p + q) / 2 := ⟨_, rfl⟩
      have hkI : ((p : Int) + (q : Int)) / 2 = (k : Int) := by omega
      have hkn : k < n := by omega
      have hkl : k < l.length := by rw [HL.out]; exact hkn
      obtain ⟨ad, hA, hbl, hcell⟩ := rd_node (HR.out.below hbw) (okS_len HV.out) hkl
      subst hA
      obtain ⟨x, hxe⟩ : ∃ x, x = l[k] := ⟨_, rfl⟩
      have hxk : l[k]? = some x := by rw [hxe]; exact List.getElem?_eq_getElem hkl
      have hx : okH x := by rw [hxe]; exact (okS_mem HV.out _ (List.getElem_mem hkl)).1
      rw [← hxe] at hcell
      have HC := Lib.hid hcell
      have HI : Hid ((Try.prog.info? 61).map (·.size) = some (ndV x).length) := by rw [ndV_length hx.2.2.2.2.2]; exact info_held
      have HX := Lib.hid hx
      have HXK := Lib.hid hxk
      have HW := Lib.hid hbw
      have k0 : (0 : Int) ≤ (k : Int) := by omega
      have k1 : (k : Int) < (n : Int) := by omega
      have e4 : IntKind.i64.wrap ((k : Int) + 1) = ((k + 1 : Nat) : Int) := by rw [IntWalk.i64_in _ (by omega)]; omega
      have hpk : p ≤ k := by omega
      have hkq : k < q := by omega
      clear hcell hx hxk hxe hbw hk
      go_wp2_with (refine wpList_load_at rfl 61 (.tmp 27) rfl (ad.add (k * 34)) rfl HC.out Try.underlying61 rfl HI.out ?_
                   change wpList _ _ _ _ (Act.put _ _ (.agg (ndC x))) _)
      refine (cmp_any x HX.out m _).mono ?_
      rintro e w2 ⟨rfl, bw⟩
      have HB2 := Lib.hid (HW.out.trans (bw.mono HW.out.size))
      clear bw HW HC
      by_cases hc : x.a + manyI x.d ≤ m
      · have hz : cmpI x m = -1 := by
          have := HX.out.many
          rw [cmpI, if_neg (by omega), if_pos hc]
        rw [hz]
        have HCC := Lib.hid hc
        clear hc hz
        go_wp2_with fail
        go_roundw
        case rel => exact ⟨k + 1, q, by omega, hqn, by first | rfl | go_num, rfl, HB2.out, (fun k' x' h h' => by
          have := HX.out.many
          have h2 : okS e l := HV.out
          rcases Nat.lt_or_ge k' k with h3 | h3
          · have := (okS_at h2 k' k x' x h3 h' HXK.out)
            have := HCC.out
            omega
          · obtain rfl : k' = k := by omega
            rw [HXK.out] at h'; injection h' with h'; subst h'; exact HCC.out), HQ⟩
        case measure => simp [intOf]; omega
      · have hz : ∃ z, cmpI x m = z ∧ 0 ≤ z ∧ z ≤ 1 := ⟨_, rfl, by unfold cmpI; split <;> (try rw [if_neg hc]) <;> omega, by unfold cmpI; split <;> (try rw [if_neg hc]) <;> omega⟩
        obtain ⟨z, hz, hz0, _⟩ := hz
        have ez : decide (z < 0) = false := by simp; omega
        rw [hz]
        have HCC := Lib.hid (show m < x.a + manyI x.d by omega)
        clear hc hz
        go_wp2_with fail
        go_roundw
        case rel => exact ⟨p, k, hpk, by omega, rfl, rfl, HB2.out, HP, (fun k' x' h h' => by
          have := HX.out.many
          rcases Nat.lt_or_ge k k' with h3 | h3
          · have := (okS_at HV.out k k' x x' h3 HXK.out h')
            have := HCC.out
            have := (okS_mem HV.out x' (List.mem_of_getElem? h')).1.many
            omega
          · obtain rfl : k' = k := by omega
            rw [HXK.out] at h'; injection h' with h'; subst h'; exact HCC.out)⟩
        case measure => simp [intOf]; omega
    · obtain rfl : q = p := by omega
      by_cases hqn' : q < n
      · have hql : q < l.length := by rw [HL.out]; exact hqn'
        obtain ⟨ad, hA, hbl, hcell⟩ := rd_node (HR.out.below hbw) (okS_len HV.out) hql
        subst hA
        obtain ⟨x, hxe⟩ : ∃ x, x = l[q] := ⟨_, rfl⟩
        have hxk : l[q]? = some x := by rw [hxe]; exact List.getElem?_eq_getElem hql
        have hx : okH x := by rw [hxe]; exact (okS_mem HV.out _ (List.getElem_mem hql)).1
        rw [← hxe] at hcell
        have HC := Lib.hid hcell
        have HI : Hid ((Try.prog.info? 61).map (·.size) = some (ndV x).length) := by rw [ndV_length hx.2.2.2.2.2]; exact info_held
        have HX := Lib.hid hx
        have HXK := Lib.hid hxk
        have HW := Lib.hid hbw
        have k0 : (0 : Int) ≤ (q : Int) := by omega
        have k1 : (q : Int) < (n : Int) := by omega
        clear hcell hx hxk hxe hbw
        go_wp2_with (refine wpList_load_at_if rfl 61 (.tmp 43) rfl (ad.add (q * 34)) rfl HC.out Try.underlying61 rfl HI.out ?_
                     change wpList _ _ _ _ (Act.put _ _ (.agg (ndC x))) _)
        refine (cmp_any x HX.out m _).mono ?_
        rintro e w2 ⟨rfl, bw⟩
        have HB2 := Lib.hid (HW.out.trans (bw.mono HW.out.size))
        clear bw HW HC
        have hM := HX.out.many
        have hlow : m < x.a + manyI x.d := HQ.out q x (Nat.le_refl _) HXK.out
        have hz : (cmpI x m = 0 ∧ decide (x.a ≤ m) = true) ∨ (cmpI x m = 1 ∧ decide (x.a ≤ m) = false) := by
          unfold cmpI
          by_cases h : m < x.a
          · exact .inr ⟨if_pos h, by simp; omega⟩
          · exact .inl ⟨by rw [if_neg h, if_neg (by omega)], by simp; omega⟩
        have hb : ∀ b, decide (x.a ≤ m) = b → Found l m q b := fun b hb => ⟨by rw [HL.out]; omega, HP.out, HQ.out, by rw [HXK.out]; exact hb.symm⟩
        have HBB := Lib.hid hb
        clear hM hlow hb
        rcases hz with ⟨hz, hd⟩ | ⟨hz, hd⟩
        · rw [hz]
          have HD := Lib.hid hd
          clear hz hd
          go_wp2_with fail
          go_ret2
          exact ⟨q, true, rfl, HBB.out _ HD.out, HB2.out⟩
        · rw [hz]
          have HD := Lib.hid hd
          clear hz hd
          go_wp2_with fail
          go_ret2
          exact ⟨q, false, rfl, HBB.out _ HD.out, HB2.out⟩
      · go_wp2_with fail
        go_ret2
        exact ⟨q, false, rfl, ⟨by rw [HL.out]; omega, HP.out, HQ.out, by rw [List.getElem?_eq_none (by rw [HL.out]; omega)]⟩, hbw⟩
end Go.Proofs.Ytippbjpodnnhiaa.Kg
