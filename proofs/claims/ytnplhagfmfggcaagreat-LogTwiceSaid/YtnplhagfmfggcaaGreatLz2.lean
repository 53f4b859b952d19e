/-
  Texts of this seat, one behind the other: Here, Mild, KdWrite, KdFlush, KdReadC, KdTell, KdRot, KdDump, KdNew, KdPower, KdLive, KdAwake, KdFine, KdMore, KdGuard, MiThere, MiReads, MiEach, MiHas, MiMend, MiReach, MiWrite, MiRead, MiFlush, WiElt, WiPut, WiGet, SxPure, SxSum, SxPack, SxClone, SxSlice, SxUnpack.
-/
import Derived.OrdersHeld
import Derived.Stop.Looks
import Derived.ProofKit
import Derived.Laws.BitsAllLaws
import Derived.Lib.Overlaps
import Derived.Deep.DeepCutAuto
import Derived.Deep.RegionHeld
import Derived.Test.YtnplhagfmfggcaaGreatRows
import Derived.Deep.QuietTactic
import Derived.BigQuiet
import Derived.Laws.CopyOwn
import Derived.Laws.Tables
import Derived.Laws.Slices
import Derived.Test.YtnplhagfmfggcaaGreatLz1
/-
  A load of a region that draws its order may be taken first where all that does not wait for it only looks at memory: whatever the region does behind.
-/
namespace Go.Proofs.YtnplhagfmfggcaaGreat

theorem loadAt_looks (t : TypeId) (x : Value) : (Instr.loadAt t x).Looks := by
  unfold Instr.loadAt
  refine Sem.Looks.bind ?_ fun a => ?_
  · unfold Instr.sureAddr
    split
    · exact pure_looks _
    · exact stuck_looks _
  · unfold loadVar isAgg
    refine Sem.Looks.bind (Sem.Looks.bind (underlying_looks t) fun d => ?_) fun b => ?_
    · split <;> exact pure_looks _
    · split
      · exact Sem.Looks.bind (sizeOf_looks t) fun n => Sem.Looks.bind (loadCells_looks a n) fun c => pure_looks _
      · exact load_looks _ _

/-- It yields a value, or ends, and leaves the world as it is. -/
def peeks (o : Oper) : Bool := match o.op with
  | .load .. | .move _ | .assign _ | .extract .. => true
  | _ => false

theorem peeks_run {P : Program} {o : Oper} (h : peeks o = true) (r : Operand → Value) (w : World) :
    (∃ v, (execOp r o).run P w = .ok (.value v) w) ∨ ∃ x w', (execOp r o).run P w = .halt x w' := by
  have val : ∀ s : Sem Value, s.Looks → (∃ v, (do pure (Next.value (← s)) : Sem Next).run P w = .ok (.value v) w) ∨ ∃ x w', (do pure (Next.value (← s)) : Sem Next).run P w = .halt x w' := by
    intro s hs
    rw [Sem.run_bind]
    cases hr : s.run P w with
    | ok v w1 =>
      have := hs.ok hr
      subst this
      exact .inl ⟨v, rfl⟩
    | halt x w1 => exact .inr ⟨x, w1, rfl⟩
  unfold peeks at h
  split at h
  · rename_i t x ho
    unfold execOp
    simp only [ho]
    exact val _ (loadAt_looks _ _)
  · rename_i x ho
    unfold execOp
    simp only [ho]
    exact .inl ⟨_, rfl⟩
  · rename_i x ho
    unfold execOp
    simp only [ho]
    exact .inl ⟨_, rfl⟩
  · rename_i x k ho
    unfold execOp
    simp only [ho]
    refine val _ ?_
    unfold Instr.extract
    repeat (first | exact pure_looks _ | exact stuck_looks _ | split)
  · cases h

section
variable {P : Program} {ops : Array Oper} {Q : Exit → Act → World → Prop} {md : Region.Mode}

theorem wpOp_peeks {j : Nat} {o : Oper} (hj : ops[j]? = some o) (h : peeks o = true) {K : Act → World → Prop} {a : Act} {w : World} (hh : wpOp P ops Q j K a w) :
    wpOp P ops Q j (fun a' w' => w' = w ∧ K a' w') a w := by
  unfold wpOp at *
  simp only [hj] at *
  split
  · rename_i hw
    simp only [hw, if_true] at hh
    rcases hh with hh | hh
    · refine .inl ?_
      unfold Oper.wp at *
      rcases peeks_run (P := P) h a.eval w with ⟨v, hr⟩ | ⟨x, w', hr⟩
      · rw [hr] at hh ⊢
        exact ⟨rfl, hh⟩
      · rw [hr] at hh ⊢
        cases x <;> exact hh
    · exact .inr hh
  · rename_i hw
    simp only [hw] at hh
    exact ⟨trivial, hh⟩

theorem wpAny_here {i : Nat} {oi : Oper} {v : Value} (hi : ops[i]? = some oi) (hsel : ∀ (j : Nat) (o : Oper) cs b, ops[j]? = some o → o.op ≠ .select cs b)
    (hQ : ∀ c a w, Q (.panic c) (a.put oi.dst v) w → Q (.panic c) a w) :
    ∀ (fuel : Nat) (listed : Array Bool) (a : Act) (w : World),
      (∀ j oj, ops[j]? = some oj → j ≠ i → listed.getD j true = false → (∀ e ∈ oj.after, Region.binds md e = true → e.on ≠ i) → oi.apart ops oj = true ∧ peeks oj = true) →
      i ∈ Region.ready md ops listed → YieldsIf P ops (· = w) oi v a →
      wpAny P md ops Q fuel (listed.setIfInBounds i true) (a.put oi.dst v) w → wpAny P md ops Q (fuel + 1) listed a w := by
  intro fuel
  induction fuel with
  | zero =>
    intro listed a w _ hr hy H
    refine ⟨fun h => (by rw [h] at hr; cases hr), fun j hj => ?_⟩
    by_cases hji : j = i
    · subst hji; exact hy.wpOp hi rfl H
    · have := ready_mono hj hji
      rw [H.1] at this
      cases this
  | succ fuel ih =>
    intro listed a w hfree hr hy H
    refine ⟨fun h => (by rw [h] at hr; cases hr), fun j hj => ?_⟩
    by_cases hji : j = i
    · subst hji; exact hy.wpOp hi rfl H
    · obtain ⟨hun, oj, hoj, hall⟩ := mem_ready.1 hj
      have hno : ∀ e ∈ oj.after, Region.binds md e = true → e.on ≠ i := fun e he hb heq => by
        have h1 := hall e he hb
        have h0 := (mem_ready.1 hr).1
        rw [heq] at h1
        by_cases h' : i < listed.size
        · simp [h'] at h0 h1; rw [h0] at h1; cases h1
        · simp [Array.getElem?_eq_none (Nat.le_of_not_lt h')] at h1
      obtain ⟨hap, hpk⟩ := hfree j oj hoj hji hun hno
      have h2 := wpOp_peeks hoj hpk (wpOp_putIf hoj hap (fun cs b => hsel i oi cs b hi) (fun cs b => hsel j oj cs b hoj) hQ hy (H.2 j (ready_mono hj hji)))
      refine wpOp_mono (fun a' w' h3 => ?_) h2
      obtain ⟨rfl, hy', h4⟩ := h3
      refine ih (listed.setIfInBounds j true) a' w' (fun k ok hk hki hunk hnk => hfree k ok hk hki ?_ hnk) (ready_mono hr (Ne.symm hji)) hy' ?_
      · by_cases hjk : j = k
        · subst hjk; exact hun
        · rw [getD_set_ne true hjk] at hunk; exact hunk
      · rw [Array.setIfInBounds_comm _ _ hji]
        exact h4

/-- What does not wait for number i, and has not come up, is apart from it and only looks. -/
def hereB (md : Region.Mode) (ops : Array Oper) (listed : Array Bool) (i : Nat) : Bool :=
  match ops[i]? with
  | none => false
  | some oi => (List.range ops.size).all fun j => j == i || listed.getD j true || match ops[j]? with
      | some oj => oj.after.any (fun e => Region.binds md e && e.on == i) || (oi.apart ops oj && peeks oj)
      | none => true

/-- Number i, which looks at memory, is taken first. -/
theorem wpAny_look {i : Nat} {oi : Oper} {v : Value} {fuel : Nat} {listed : Array Bool} {a : Act} {w : World} (hi : ops[i]? = some oi)
    (hs : Region.noSelect ops = true) (hf : hereB md ops listed i = true) (hr : (Region.ready md ops listed).contains i = true)
    (hQ : ∀ c a w, Q (.panic c) (a.put oi.dst v) w → Q (.panic c) a w) (hw : Region.wanted oi (yielded ops a.tmps) = true) (hy : (execOp a.eval oi).run P w = .ok (.value v) w)
    (h : wpAny P md ops Q fuel (listed.setIfInBounds i true) (a.put oi.dst v) w) : wpAny P md ops Q (fuel + 1) listed a w := by
  refine wpAny_here hi (Region.noSelect_spec hs) hQ fuel listed a w (fun j oj hj hji hun hno => ?_) (by simpa using hr) (.inl ⟨hw, fun w' hw' => by subst hw'; exact hy⟩) h
  simp only [hereB, hi, List.all_eq_true, List.mem_range] at hf
  have h1 := hf j (Array.getElem?_eq_some_iff.1 hj).1
  simp only [hj, Bool.or_eq_true, beq_iff_eq, hji, false_or, hun, Bool.false_eq_true, Bool.and_eq_true] at h1
  rcases h1 with h1 | h1
  · obtain ⟨e, he, hb⟩ := Array.any_eq_true'.1 h1
    simp only [Bool.and_eq_true, beq_iff_eq] at hb
    exact absurd hb.2 (hno e he hb.1)
  · exact h1
end
end Go.Proofs.YtnplhagfmfggcaaGreat
/-
  A load of a region that draws its order may be taken first where all that does not wait for it only looks, or makes new memory.
-/
namespace Go.Proofs.YtnplhagfmfggcaaGreat
open Go.RowKit
/-- It ends in a world in which all that there was is as it was, or it halts. -/
def Grows {α : Type} (P : Program) (s : Sem α) : Prop := ∀ w, match s.run P w with | .ok _ w' => Below w.heap.size w w' | .halt .. => True
section
variable {P : Program} {α β : Type}
theorem grows_of_looks {s : Sem α} (h : s.Looks) : Grows P s := fun w => by
  cases hr : s.run P w with
  | ok v w1 =>
    have := h.ok hr
    subst this
    exact Below.refl _ _
  | halt x w1 => trivial
theorem grows_bind {s : Sem α} {f : α → Sem β} (h : Grows P s) (hf : ∀ a, Grows P (f a)) : Grows P (s >>= f) := fun w => by
  rw [Sem.run_bind]
  have h1 := h w
  cases hr : s.run P w with
  | ok v w1 =>
    rw [hr] at h1
    have h1' : Below w.heap.size w w1 := h1
    have h2 := hf v w1
    simp only [Result.andThen]
    cases hr2 : (f v).run P w1 with
    | ok u w2 =>
      rw [hr2] at h2
      have h2' : Below w1.heap.size w1 w2 := h2
      exact h1'.trans (h2'.mono h1'.size)
    | halt x w2 => trivial
  | halt x w1 => trivial
theorem grows_newRow (e : TypeId) (cs : Array Value) : Grows P (newRow e cs) := fun w => by
  have h : (newRow e cs).run P w = .ok ⟨w.heap.size, 0, none⟩ (w.alloc (.cells cs e)) := rfl
  rw [h]
  exact (Below.refl _ _).alloc (Nat.le_refl _) _
theorem zeroValue_looks (t : TypeId) : (zeroValue t).Looks := by
  unfold zeroValue
  refine Sem.Looks.bind (typeInfo_looks t) fun i => ?_
  split
  · exact pure_looks _
  · exact unsupported_looks _
theorem mapM_arr_looks {f : α → Sem β} (hf : ∀ a, (f a).Looks) (l : Array α) : (l.mapM f).Looks := by
  rw [Array.mapM_eq_mapM_toList]
  exact Sem.Looks.bind (mapM_looks f hf _) fun _ => pure_looks _
theorem build_looks (t : TypeId) (ps : Array (Nat × Value)) : (Instr.build t ps).Looks := by
  unfold Instr.build
  refine Sem.Looks.bind (zeroValue_looks t) fun z => ?_
  refine Sem.Looks.bind (underlying_looks t) fun d => ?_
  split
  · refine Sem.Looks.bind (mapM_arr_looks (fun f => Sem.Looks.bind (sizeOf_looks _) fun _ => pure_looks _) _) fun pl => ?_
    split
    · exact pure_looks _
    · exact stuck_looks _
  · refine Sem.Looks.bind (sizeOf_looks _) fun n => ?_
    split
    · exact pure_looks _
    · exact stuck_looks _
  · exact stuck_looks _
theorem buildSlice_grows (t : TypeId) (n : Nat) (ps : Array (Nat × Value)) : Grows P (Instr.buildSlice t n ps) := by
  unfold Instr.buildSlice
  refine grows_bind (grows_of_looks (underlying_looks t)) fun d => ?_
  split
  · refine grows_bind (grows_of_looks (sizeOf_looks _)) fun sz => ?_
    dsimp only
    repeat' first
      | exact grows_of_looks (pure_looks _)
      | exact grows_of_looks (stuck_looks _)
      | exact grows_of_looks (unsupported_looks _)
      | exact grows_of_looks (zeroValue_looks _)
      | exact grows_newRow _ _
      | split
      | refine grows_bind ?_ (fun _ => ?_)
  · exact grows_of_looks (stuck_looks _)
/-- It yields a value and leaves what there was as it was, or ends. -/
def mild (o : Oper) : Bool := match o.op with
  | .load .. | .move _ | .assign _ | .extract .. | .build .. | .buildSlice .. => true
  | _ => false
theorem mild_run {o : Oper} (h : mild o = true) (r : Operand → Value) (w : World) :
    (∃ v w', (execOp r o).run P w = .ok (.value v) w' ∧ Below w.heap.size w w') ∨ ∃ x w', (execOp r o).run P w = .halt x w' := by
  have val : ∀ s : Sem Value, Grows P s → (∃ v w', (do pure (Next.value (← s)) : Sem Next).run P w = .ok (.value v) w' ∧ Below w.heap.size w w') ∨ ∃ x w', (do pure (Next.value (← s)) : Sem Next).run P w = .halt x w' := by
    intro s hs
    rw [Sem.run_bind]
    have h1 := hs w
    cases hr : s.run P w with
    | ok v w1 => rw [hr] at h1; exact .inl ⟨v, w1, rfl, h1⟩
    | halt x w1 => exact .inr ⟨x, w1, rfl⟩
  unfold mild at h
  split at h
  · rename_i t x ho
    unfold execOp
    simp only [ho]
    exact val _ (grows_of_looks (loadAt_looks _ _))
  · rename_i x ho
    unfold execOp
    simp only [ho]
    exact .inl ⟨_, _, rfl, Below.refl _ _⟩
  · rename_i x ho
    unfold execOp
    simp only [ho]
    exact .inl ⟨_, _, rfl, Below.refl _ _⟩
  · rename_i x k ho
    unfold execOp
    simp only [ho]
    refine val _ (grows_of_looks ?_)
    unfold Instr.extract
    repeat (first | exact pure_looks _ | exact stuck_looks _ | split)
  · rename_i t ps ho
    unfold execOp
    simp only [ho]
    exact val _ (grows_of_looks (build_looks _ _))
  · rename_i t n ps ho
    unfold execOp
    simp only [ho]
    exact val _ (buildSlice_grows _ _ _)
  · cases h
variable {ops : Array Oper} {Q : Exit → Act → World → Prop} {md : Region.Mode}
theorem wpOp_mild {j : Nat} {o : Oper} (hj : ops[j]? = some o) (h : mild o = true) {K : Act → World → Prop} {a : Act} {w : World} (hh : wpOp P ops Q j K a w) :
    wpOp P ops Q j (fun a' w' => Below w.heap.size w w' ∧ K a' w') a w := by
  unfold wpOp at *
  simp only [hj] at *
  split
  · rename_i hw
    simp only [hw, if_true] at hh
    rcases hh with hh | hh
    · refine .inl ?_
      unfold Oper.wp at *
      rcases mild_run (P := P) h a.eval w with ⟨v, w', hr, hb⟩ | ⟨x, w', hr⟩
      · rw [hr] at hh ⊢
        exact ⟨hb, hh⟩
      · rw [hr] at hh ⊢
        cases x <;> exact hh
    · exact .inr hh
  · rename_i hw
    simp only [hw] at hh
    exact ⟨Below.refl _ _, hh⟩
/-- .. where it yields its value in whatever world grows from this one. -/
def YieldsOn (P : Program) (ops : Array Oper) (w : World) (o : Oper) (v : Value) (a : Act) : Prop := YieldsIf P ops (fun w' => Below w.heap.size w w') o v a
theorem wpAny_herem {i : Nat} {oi : Oper} {v : Value} (hi : ops[i]? = some oi) (hsel : ∀ (j : Nat) (o : Oper) cs b, ops[j]? = some o → o.op ≠ .select cs b)
    (hQ : ∀ c a w, Q (.panic c) (a.put oi.dst v) w → Q (.panic c) a w) (w0 : World) (ds : List Nat) (hds : ∀ k ok, k ∈ ds → ops[k]? = some ok → ∃ e ∈ ok.after, Region.binds md e = true ∧ (e.on = i ∨ e.on ∈ ds)) :
    ∀ (fuel : Nat) (listed : Array Bool) (a : Act) (w : World), Below w0.heap.size w0 w →
      (∀ k ∈ ds, listed.getD k true = false) → (∀ j oj, ops[j]? = some oj → j ≠ i → listed.getD j true = false → (∀ e ∈ oj.after, Region.binds md e = true → e.on ≠ i ∧ e.on ∉ ds) → oi.apart ops oj = true ∧ mild oj = true) →
      i ∈ Region.ready md ops listed → YieldsIf P ops (fun w' => Below w0.heap.size w0 w') oi v a →
      wpAny P md ops Q fuel (listed.setIfInBounds i true) (a.put oi.dst v) w → wpAny P md ops Q (fuel + 1) listed a w := by
  intro fuel
  induction fuel with
  | zero =>
    intro listed a w hb0 _ _ hr hy H
    refine ⟨fun h => (by rw [h] at hr; cases hr), fun j hj => ?_⟩
    by_cases hji : j = i
    · subst hji; exact hy.wpOp hi hb0 H
    · have := ready_mono hj hji
      rw [H.1] at this
      cases this
  | succ fuel ih =>
    intro listed a w hb0 hld hfree hr hy H
    refine ⟨fun h => (by rw [h] at hr; cases hr), fun j hj => ?_⟩
    by_cases hji : j = i
    · subst hji; exact hy.wpOp hi hb0 H
    · obtain ⟨hun, oj, hoj, hall⟩ := mem_ready.1 hj
      have no1 : ∀ k, listed.getD k true = false → listed.getD k false = true → False := fun k h0 h1 => by
        by_cases h' : k < listed.size
        · simp [h'] at h0 h1; rw [h0] at h1; cases h1
        · simp [Array.getElem?_eq_none (Nat.le_of_not_lt h')] at h1
      have hno : ∀ e ∈ oj.after, Region.binds md e = true → e.on ≠ i ∧ e.on ∉ ds := fun e he hb =>
        ⟨fun heq => no1 i (mem_ready.1 hr).1 (heq ▸ hall e he hb), fun hmem => no1 _ (hld _ hmem) (hall e he hb)⟩
      have hjd : j ∉ ds := fun hmem => by
        obtain ⟨e, he, hb, h1 | h1⟩ := hds j oj hmem hoj
        · exact (hno e he hb).1 h1
        · exact (hno e he hb).2 h1
      obtain ⟨hap, hpk⟩ := hfree j oj hoj hji hun hno
      have h2 := wpOp_mild hoj hpk (wpOp_putIf hoj hap (fun cs b => hsel i oi cs b hi) (fun cs b => hsel j oj cs b hoj) hQ hy (H.2 j (ready_mono hj hji)))
      refine wpOp_mono (fun a' w' h3 => ?_) h2
      obtain ⟨hbl, hy', h4⟩ := h3
      refine ih (listed.setIfInBounds j true) a' w' (hb0.trans (hbl.mono hb0.size)) (fun k hk => by
        have hne : j ≠ k := fun e => hjd (by rw [e]; exact hk)
        rw [getD_set_ne true hne]; exact hld k hk) (fun k ok hk hki hunk hnk => hfree k ok hk hki ?_ hnk) (ready_mono hr (Ne.symm hji)) hy' ?_
      · by_cases hjk : j = k
        · subst hjk; exact hun
        · rw [getD_set_ne true hjk] at hunk; exact hunk
      · rw [Array.setIfInBounds_comm _ _ hji]
        exact h4
/-- What does not wait for number i (nor for one of ds, which do), and has not come up, is apart from it and mild. -/
def mildB (md : Region.Mode) (ops : Array Oper) (listed : Array Bool) (i : Nat) (ds : List Nat) : Bool :=
  match ops[i]? with
  | none => false
  | some oi => ((List.range ops.size).all fun j => j == i || listed.getD j true || match ops[j]? with
      | some oj => oj.after.any (fun e => Region.binds md e && (e.on == i || ds.contains e.on)) || (oi.apart ops oj && mild oj)
      | none => true) && ds.all (fun k => !listed.getD k true && match ops[k]? with
      | some ok => ok.after.any (fun e => Region.binds md e && (e.on == i || ds.contains e.on))
      | none => true)
/-- Number i, which looks at what there was, is taken first. -/
theorem wpAny_mild {i : Nat} {oi : Oper} {v : Value} {fuel : Nat} {listed : Array Bool} {a : Act} {w : World} (ds : List Nat) (hi : ops[i]? = some oi)
    (hs : Region.noSelect ops = true) (hf : mildB md ops listed i ds = true) (hr : (Region.ready md ops listed).contains i = true)
    (hQ : ∀ c a w, Q (.panic c) (a.put oi.dst v) w → Q (.panic c) a w) (hw : Region.wanted oi (yielded ops a.tmps) = true) (hy : ∀ w', Below w.heap.size w w' → (execOp a.eval oi).run P w' = .ok (.value v) w')
    (h : wpAny P md ops Q fuel (listed.setIfInBounds i true) (a.put oi.dst v) w) : wpAny P md ops Q (fuel + 1) listed a w := by
  simp only [mildB, hi, Bool.and_eq_true, List.all_eq_true, List.mem_range] at hf
  obtain ⟨hf, hd⟩ := hf
  refine wpAny_herem hi (Region.noSelect_spec hs) hQ w ds (fun k ok hk hok => ?_) fuel listed a w (Below.refl _ _) (fun k hk => by simpa using (hd k hk).1) (fun j oj hj hji hun hno => ?_) (by simpa using hr) (.inl ⟨hw, hy⟩) h
  · have h1 := (hd k hk).2
    simp only [hok] at h1
    obtain ⟨e, he, hb⟩ := Array.any_eq_true'.1 h1
    simp only [Bool.and_eq_true, Bool.or_eq_true, beq_iff_eq, List.contains_iff_mem] at hb
    exact ⟨e, he, hb.1, hb.2⟩
  · have h1 := hf j (Array.getElem?_eq_some_iff.1 hj).1
    simp only [hj, Bool.or_eq_true, beq_iff_eq, hji, false_or, hun, Bool.false_eq_true, Bool.and_eq_true] at h1
    rcases h1 with h1 | h1
    · obtain ⟨e, he, hb⟩ := Array.any_eq_true'.1 h1
      simp only [Bool.and_eq_true, Bool.or_eq_true, beq_iff_eq, List.contains_iff_mem] at hb
      rcases hb.2 with h2 | h2
      · exact absurd h2 (hno e he hb.1).1
      · exact absurd h2 (hno e he hb.1).2
    · exact h1
end
end Go.Proofs.YtnplhagfmfggcaaGreat
/-
  The contract of a device's Write.
-/
namespace Go.Proofs.YtnplhagfmfggcaaGreat.Kd
open Go.RowKit Go.Maps
attribute [local go_sem ↓] Go.wp_at_zero Go.wp_at_succ
theorem wfI {z : Int} (h : -9223372036854775808 ≤ z ∧ z ≤ 9223372036854775807) : (Lit.int .i64 z).wf = true := by
  have h1 : IntKind.i64.min = -9223372036854775808 := by decide
  have h2 : IntKind.i64.max = 9223372036854775807 := by decide
  simp [Lit.wf, h1, h2]; omega
theorem intR_mk {z : Int} (h : -9223372036854775808 ≤ z ∧ z ≤ 9223372036854775807) : (intP Tryz.prog) (.int .i64 z) = some (.lit (.int .i64 z), []) := plainElem_int Tryz.underlying3 (wfI h)
theorem count_length (S : Sy) : S.count.ds.length = S.ds.length := by unfold Sy.count; split <;> simp
/-- A device to which a write has come. -/
def Dv.add (d : Dv) (n : Nat) (s : List UInt8) : Dv := { d with wt := d.wt ++ [(n, s)] }
theorem add_ok {d : Dv} (h : d.ok) {n : Nat} {s : List UInt8} (hn : n < d.st.length) (hs : s.length = 128) : (d.add n s).ok := by
  refine ⟨h.st, fun x hx => ?_, h.kept, h.bytes, h.len⟩
  rcases List.mem_append.1 hx with hx | hx
  · exact h.wt x hx
  · rw [List.mem_singleton] at hx; subst hx; exact ⟨hn, hs⟩
theorem write_no {S : Sy} {k : Nat} {n : Int} {s : List UInt8} (h : refuseN S.p (S.at k) n ≠ 0) : S.write k n s = (refuseN S.p (S.at k) n, S) := by unfold Sy.write; rw [if_pos h]
theorem write_yes {S : Sy} {k : Nat} {n : Nat} {s : List UInt8} (h : refuseN S.p (S.at k) (n : Int) = 0) : S.write k (n : Int) s = (if S.p.fails then 13 else 0, (S.put k ((S.at k).add n s)).count) := by unfold Sy.write; rw [if_neg (by rw [h]; simp)]; rfl
theorem refuse_zero {P : Pw} {d : Dv} {i : Int} (h : refuseN P d i = 0) : P.off = false ∧ d.gone = false ∧ 0 ≤ i ∧ i < (d.st.length : Int) := by
  unfold refuseN at h
  split at h
  · omega
  · rename_i h1
    split at h
    · omega
    · rename_i h2
      have h3 : P.off = false ∧ d.gone = false := by
        cases h4 : P.off <;> cases h5 : d.gone <;> simp_all
      exact ⟨h3.1, h3.2, by omega, by omega⟩
set_option maxRecDepth 100000 in
set_option maxHeartbeats 6400000 in
theorem write_any {w : World} {p : Nat} {gs : List Nat} {S : Sy} {F : Nat → Prop} (h : Sys w p gs S F) (k : Nat) (hk : k < S.ds.length) (i : Int) (s : List UInt8) (hs : s.length = 128) (hm : (S.at k).wt.length < 1000000) :
    Calls Tryz.prog 73 #[.pointer (some ⟨gs.getD k 0, 0, none⟩), .int .i64 i, .agg (bva s)] w (RetS (.int .i64 (S.write k i s).1) p gs (S.write k i s).2 F w) := by
  obtain ⟨bs, Fs, FA, fc, lf, h, hF, hlt⟩ := h
  have BW := Lib.hid (show Below w.heap.size w (w.alloc (.cells (bva s) 101)) from (Below.refl _ w).alloc (Nat.le_refl _) _)
  have HX := Lib.hid (show Blk (w.alloc (.cells (bva s) 101)) w.heap.size (bva s) 101 from heap_alloc_new _ _)
  have H0 := Lib.hid h
  have H := Lib.hid (h.below BW.out)
  obtain ⟨A, n, c, W, m, e, M, D, hd, hDF⟩ := h.dev k hk
  have HD := Lib.hid (hd.below BW.out)
  have HDF := Lib.hid hDF
  obtain ⟨d, hdd⟩ : ∃ d, d = S.at k := ⟨_, rfl⟩
  obtain ⟨g, hgg⟩ : ∃ g, g = gs.getD k 0 := ⟨_, rfl⟩
  rw [← hdd] at HD hm
  rw [← hgg] at HD HDF
  rw [← hgg]
  have HDD := Lib.hid hdd
  have HGG := Lib.hid hgg
  have HFF := Lib.hid hF
  have HLT := Lib.hid hlt
  have HS3 := Lib.hid hs
  have HM := Lib.hid hm
  have HKD := Lib.hid hk
  have HIS : Hid ((Tryz.prog.info? 101).map (·.size) = some (bva s).size) := by show _ = _; rw [bva_size, hs]; exact info_sec
  have hpw := H.out.pow.blk
  have hdb := HD.out.blk
  have HPW := Lib.hid hpw
  have HDB := Lib.hid hdb
  have hrf : refuseN S.p d i = reachN S.p.off d.gone n i := reach_refuse HD.out.stn i
  clear h hd hDF hdd hgg hF hlt hpw hdb hs hm hk
  by_cases hr : reachN S.p.off d.gone n i = 0
  · have h0 := refuse_zero (hrf.trans hr)
    obtain ⟨j, rfl⟩ := Int.eq_ofNat_of_zero_le h0.2.2.1
    have HW := Lib.hid (write_yes (S := S) (k := k) (n := j) (s := s) (by rw [← HDD.out, hrf, hr]))
    have hjn : j < n := by have := HD.out.stn; omega
    have HR := Lib.hid hr
    have HON := Lib.hid h0.1
    have HGN := Lib.hid h0.2.1
    have HJN := Lib.hid hjn
    have hmb : m < 1000000 := by rw [← HD.out.wtn]; exact HM.out
    have m0 : (0 : Int) ≤ (m : Int) := by omega
    have m1 : (m : Int) ≤ 1000000 := by omega
    have j0 : (0 : Int) ≤ (j : Int) := by omega
    have j1 : (j : Int) ≤ 4096 := by have := HD.out.ok.len; omega
    have HMB := Lib.hid hmb
    have HBW := Lib.hid (show ∀ W, (Instr.build 120 #[(0, .int .i64 (j : Int)), (1, .agg (bva s))]).run Tryz.prog W = .ok (.agg (wva (j, s))) W from fun W => build_dwait (j, s) HS3.out W)
    have HBS := Lib.hid (show ∀ W : World, (Instr.buildSlice 73 1 #[(0, .agg (wva (j, s)))]).run Tryz.prog W = .ok (.slice (some ⟨W.heap.size, 0, none⟩) 1 1) (W.alloc (.cells (wva (j, s)) 120)) from fun W => run_oneN dwaitsElt W (.agg (wva (j, s))) (wva_size HS3.out) (by omega))
    have HKI := Lib.hid (keyOf_int_mk (P := Tryz.prog) (k := 3) Tryz.underlying3 (wfI (z := (j : Int)) (by omega)))
    have HMI := Lib.hid (intR_mk (z := (m : Int)) (by omega))
    clear hrf hr h0 hjn hmb
    go_enter Tryz.func73, Tryz.ntmps73
    go_wp2_with (refine (reaches_any S.p.off d.gone _ _ A n c (j : Int) HPW.out HDB.out).mono ?_; rintro e' w' ⟨rfl, rfl⟩; rw [HR.out])
    obtain ⟨W1, hW1⟩ : ∃ W1, W1 = w.alloc (.cells (bva s) 101) := ⟨_, rfl⟩
    rw [← hW1] at BW HX H HD HPW HDB ⊢
    have c3 := HDB.out.cell 3
    have c2 := HDB.out.cell 2
    clear hW1
    refine wp_region_still_tail 10 (by kernel_rfl) (by kernel_rfl) ?_
    simp only [List.take_succ_cons, List.take_zero, List.drop_succ_cons, List.drop_zero]
    iterate 10 still_step
    refine wpStill_nil ?_
    change wpList _ _ _ _ _ W1.drew
    have HM1 := Lib.hid (show W1.drew.ownsMap Tryz.prog 3 (intP Tryz.prog) M m D from HD.out.map)
    have hws : W1.drew.heap.size = W1.heap.size := rfl
    clear c2 c3
    go_wp2_with (at_mapUpdate; refine wpList_mapUpdate_own _ rfl _ _ _ 74 rfl 3 3 lawI Tryz.underlying74 (intP Tryz.prog) M m D rfl HM1.out (by have := HMB.out; unfold maxLen; omega) (.int .i64 (j : Int)) (.int .i64 (m : Int)) (.int .i64 (j : Int)) rfl rfl HKI.out (.lit (.int .i64 (m : Int))) [] HMI.out ?_; intro w6 hown6 hgrow6)
    have HO6 := Lib.hid hown6
    have HB6 := Lib.hid (show But (fun q => q = M) W1 w6 from (But.refl W1).drew.grown hgrow6 (fun q hq => by injection hq with hq; exact .inl hq.symm))
    have HG6 := Lib.hid (HDB.out.but HB6.out (fun e => HD.out.apart.1 e))
    have HT6 := Lib.hid (Own.but HD.out.wt HB6.out (fun q hq e => (HD.out.apart.2.2.1 q hq).2 e))
    have HX6 := Lib.hid (HX.out.but HB6.out (fun e => by have h1 := HLT.out M (HFF.out M (.inr (.inr (.inr ⟨k, HKD.out, HDF.out M (.inr (.inl rfl))⟩)))); omega))
    clear hown6 hgrow6 HM1 hws
    refine wp_region_any (by kernel_rfl) ?_
    change wpAny _ _ _ _ _ _ _ (World.drew w6)
    have HGd := Lib.hid (show Blk w6.drew g _ 76 from HG6.out)
    have HTd := Lib.hid (show w6.drew.ownsRow 0 120 129 (.slice W m e) m (wvs d.wt) from HT6.out)
    have HXd := Lib.hid (show Blk w6.drew w.heap.size (bva s) 101 from HX6.out)
    obtain ⟨w7, hw7⟩ : ∃ w7, w7 = w6.drew := ⟨_, rfl⟩
    rw [← hw7] at HGd HTd HXd ⊢
    have HB7 := Lib.hid (show But (fun q => q = M) W1 w7 by rw [hw7]; exact HB6.out.drew)
    have HO7 := Lib.hid (show w7.ownsMap Tryz.prog 3 (intP Tryz.prog) M (m + 1) _ by rw [hw7]; exact HO6.out)
    clear hw7 HB6 HG6 HT6 HX6 HO6
    refine wpAny_take (i := 0) (v := ?b0) rfl (by kernel_rfl) (by kernel_rfl) (by kernel_rfl) (fun _ _ _ h => h) (Or.inl ⟨by rfl, ?y0⟩) ?_
    case y0 => (intro w'; go_simp; try with_reducible rfl)
    try simp only [List.getElem_toArray, List.getElem_cons_zero, Act.put, List.setIfInBounds_toArray, List.set_cons_zero, List.set_cons_succ]
    refine wpAny_take (i := 1) (v := ?b1) rfl (by kernel_rfl) (by kernel_rfl) (by kernel_rfl) (fun _ _ _ h => h) (Or.inl ⟨by rfl, ?y1⟩) ?_
    case y1 => (intro w'; go_simp; try with_reducible rfl)
    try simp only [List.getElem_toArray, List.getElem_cons_succ, List.getElem_cons_zero, Act.put, List.setIfInBounds_toArray, List.set_cons_zero, List.set_cons_succ]
    refine wpAny_take (i := 2) (v := ?b2) rfl (by kernel_rfl) (by kernel_rfl) (by kernel_rfl) (fun _ _ _ h => h) (Or.inl ⟨by rfl, ?y2⟩) ?_
    case y2 => (intro w'; go_simp; try with_reducible rfl)
    try simp only [List.getElem_toArray, List.getElem_cons_succ, List.getElem_cons_zero, Act.put, List.setIfInBounds_toArray, List.set_cons_zero, List.set_cons_succ]
    refine wpAny_take (i := 3) (v := ?b3) rfl (by kernel_rfl) (by kernel_rfl) (by kernel_rfl) (fun _ _ _ h => h) (Or.inl ⟨by rfl, ?y3⟩) ?_
    case y3 => (intro w'; go_simp; try with_reducible rfl)
    try simp only [List.getElem_toArray, List.getElem_cons_succ, List.getElem_cons_zero, Act.put, List.setIfInBounds_toArray, List.set_cons_zero, List.set_cons_succ]
    refine wpAny_take (i := 5) (v := ?b5) rfl (by kernel_rfl) (by kernel_rfl) (by kernel_rfl) (fun _ _ _ h => h) (Or.inl ⟨by rfl, ?y5⟩) ?_
    case y5 => (intro w'; go_simp; try with_reducible rfl)
    try simp only [List.getElem_toArray, List.getElem_cons_succ, List.getElem_cons_zero, Act.put, List.setIfInBounds_toArray, List.set_cons_zero, List.set_cons_succ]
    refine wpAny_mild [9,12] (i := 4) (v := .slice W m e) rfl (by kernel_rfl) (by kernel_rfl) (by kernel_rfl) (fun _ _ _ h => h) (by rfl) ?z4 ?_
    case z4 => (intro w' hw'; have cc := (HGd.out.below hw').cell 2; go_simp; try with_reducible rfl)
    try simp only [List.getElem_toArray, List.getElem_cons_succ, List.getElem_cons_zero, Act.put, List.setIfInBounds_toArray, List.set_cons_zero, List.set_cons_succ]
    refine wpAny_mild [7,8,9,12] (i := 6) (v := .agg (bva s)) rfl (by kernel_rfl) (by kernel_rfl) (by kernel_rfl) (fun _ _ _ h => h) (by rfl) ?z6 ?_
    case z6 => (intro w' hw'; exact exec_load 101 (.tmp 5) rfl rfl (HXd.out.below hw') Tryz.underlying101 rfl HIS.out)
    try simp only [List.getElem_toArray, List.getElem_cons_succ, List.getElem_cons_zero, Act.put, List.setIfInBounds_toArray, List.set_cons_zero, List.set_cons_succ]
    refine wpAny_take (i := 7) (v := .agg (wva (j, s))) rfl (by kernel_rfl) (by kernel_rfl) (by kernel_rfl) (fun _ _ _ h => h) (Or.inl ⟨by rfl, fun W => exec_build 120 #[(0, .tmp 29), (1, .tmp 30)] rfl (by simp only [List.map_toArray, List.map_cons, List.map_nil]; exact HBW.out W)⟩) ?_
    try simp only [List.getElem_toArray, List.getElem_cons_succ, List.getElem_cons_zero, Act.put, List.setIfInBounds_toArray, List.set_cons_zero, List.set_cons_succ]
    refine wpAny_ready (rs := [8]) (by kernel_rfl) (by simp) (AllReady.cons rfl (fun K hK => ?_) AllReady.nil)
    rw [if_pos (by rfl)]
    refine wp_buildSliceN 73 1 #[(0, .tmp 31)] rfl (by simp only [List.map_toArray, List.map_cons, List.map_nil]; exact HBS.out w7) ?_
    refine hK _ _ ?_
    clear hK K
    try simp only [List.getElem_toArray, List.getElem_cons_succ, List.getElem_cons_zero, Act.put, List.setIfInBounds_toArray, List.set_cons_zero, List.set_cons_succ]
    refine wpAny_ready (rs := [9]) (by kernel_rfl) (by simp) (AllReady.cons rfl (fun K hK => ?_) AllReady.nil)
    rw [if_pos (by rfl)]
    have HT8 := Lib.hid (own_belowN HTd.out (show Below w7.heap.size w7 (w7.alloc (.cells (wva (j, s)) 120)) from (Below.refl _ _).alloc (Nat.le_refl _) _))
    have HN8 := Lib.hid (show Blk (w7.alloc (.cells (wva (j, s)) 120)) w7.heap.size (wva (j, s)) 120 from heap_alloc_new _ _)
    have HR8 := Lib.hid (show Rd (w7.alloc (.cells (wva (j, s)) 120)).heap.size (w7.alloc (.cells (wva (j, s)) 120)) (some ⟨w7.heap.size, 0, none⟩) (wv (j, s)) from fun q v hv => ⟨_, rfl, HN8.out.lt, by rw [Addr.add_mid, HN8.out.cell, Nat.zero_add, wva, List.getElem?_toArray]; exact hv⟩)
    refine wp_appN _ (.tmp 28) (.tmp 32) 73 rfl dwaitsElt rfl HT8.out rfl HR8.out (by rw [wv_length HS3.out]) (fun v hv => by
      rw [wv, List.mem_cons] at hv
      rcases hv with rfl | hv
      · rfl
      · exact bv_one _ v hv) (by have := HMB.out; omega) (Nat.zero_le _) ?_
    intro A9 c9 w9 ho9 hg9 hl9
    refine hK _ _ ?_
    clear hK K
    try simp only [List.getElem_toArray, List.getElem_cons_succ, List.getElem_cons_zero, Act.put, List.setIfInBounds_toArray, List.set_cons_zero, List.set_cons_succ]
    have HO9 := Lib.hid (show w9.ownsRow 0 120 129 (.slice A9 (m + 1) c9) (m + 1) (wvs (d.add j s).wt) by
      have e1 : wvs (d.add j s).wt = wvs d.wt ++ wv (j, s) := by show wvs (d.wt ++ [(j, s)]) = _; rw [wvs_append]; show _ ++ (wv (j, s) ++ []) = _; rw [List.append_nil]
      rw [e1]; exact ho9)
    have HB8 := Lib.hid (show But (fun q => (Value.slice W m e).ownBlock = some q) w7 w9 from ((But.refl w7).alloc _).grown hg9 (fun q hq => .inl hq))
    have HG9 := Lib.hid (HGd.out.but HB8.out (fun hq => (HD.out.apart.2.2.1 g hq).1 rfl))
    have HL9 := Lib.hid (show ∀ q, (Value.slice A9 (m + 1) c9).ownBlock = some q → (Value.slice W m e).ownBlock = some q ∨ w7.heap.size ≤ q from fun q hq => by
      rcases hl9 with h1 | h1
      · exact .inl (h1.symm.trans hq)
      · rw [hq] at h1; injection h1 with h1; subst h1; exact .inr (by simp))
    have HM9 := Lib.hid (imap_but HO7.out HB8.out (fun hq => (HD.out.apart.2.2.1 M hq).2 rfl))
    have HF9 := HG9.out.free 2
    have HC9 := HG9.out.cell 2
    clear ho9 hg9 hl9 HT8 HN8 HR8
    refine wpAny_take (i := 10) (v := ?b10) rfl (by kernel_rfl) (by kernel_rfl) (by kernel_rfl) (fun _ _ _ h => h) (Or.inl ⟨by rfl, ?y10⟩) ?_
    case y10 => (intro w'; go_simp; try with_reducible rfl)
    try simp only [List.getElem_toArray, List.getElem_cons_succ, List.getElem_cons_zero, Act.put, List.setIfInBounds_toArray, List.set_cons_zero, List.set_cons_succ]
    refine wpAny_take (i := 11) (v := ?b11) rfl (by kernel_rfl) (by kernel_rfl) (by kernel_rfl) (fun _ _ _ h => h) (Or.inl ⟨by rfl, ?y11⟩) ?_
    case y11 => (intro w'; go_simp; try with_reducible rfl)
    try simp only [List.getElem_toArray, List.getElem_cons_succ, List.getElem_cons_zero, Act.put, List.setIfInBounds_toArray, List.set_cons_zero, List.set_cons_succ]
    refine wpAny_ready (rs := [12]) (by kernel_rfl) (by simp) (AllReady.cons rfl (fun K hK => ?_) AllReady.nil)
    rw [if_pos (by rfl)]
    go_simp
    refine hK _ _ ?_
    clear hK K
    try simp only [List.getElem_toArray, List.getElem_cons_succ, List.getElem_cons_zero, Act.put, List.setIfInBounds_toArray, List.set_cons_zero, List.set_cons_succ]
    refine wpAny_done (by kernel_rfl) ?_ _
    generalize hwx : World.setCell _ _ _ = wx
    have hB9 : But (fun q => q = g) w9 wx := by rw [← hwx]; exact but_one _
    have hM7 := HB7.out
    have hBx : But (fun q => q = g ∨ q = M ∨ (Value.slice W m e).ownBlock = some q) W1 wx := ((HB7.out.mono (fun q hq => (.inr (.inl hq) : q = g ∨ q = M ∨ (Value.slice W m e).ownBlock = some q))).trans (HB8.out.mono (fun q hq => .inr (.inr hq)))).trans (hB9.mono (fun q hq => .inl hq))
    have hdx : DevR wx p g (d.add j s) A n c A9 (m + 1) c9 M (D.put (.int .i64 (j : Int)) (.lit (.int .i64 (m : Int)))) := by
      refine ⟨?_, ?_, ?_, ?_, ?_, HD.out.stn, ?_, add_ok HD.out.ok (by rw [HD.out.stn]; exact HJN.out) HS3.out, ?_⟩
      · rw [← hwx]; exact blk_setN8 HG9.out 2 _
      · exact Own.but HD.out.st hBx (fun q hq hq' => by
          rcases hq' with h1 | h1 | h1
          · exact (HD.out.apart.2.1 q hq).1 h1
          · exact (HD.out.apart.2.1 q hq).2 h1
          · exact HD.out.apart.2.2.2 q hq h1)
      · exact Own.but HO9.out hB9 (fun q hq hq' => by
          rcases HL9.out q hq with h1 | h1
          · exact (HD.out.apart.2.2.1 q h1).1 hq'
          · have h2 := HDB.out.lt; have h3 := hM7.size; omega)
      · exact imap_but HM9.out hB9 (fun e => HD.out.apart.1 e.symm)
      · have h1 := HD.out.last.put j s; rw [HD.out.wtn] at h1; exact h1
      · show (d.wt ++ [(j, s)]).length = m + 1; rw [List.length_append, HD.out.wtn]; rfl
      · intro hg; rw [show (d.add j s).gone = d.gone from rfl, HGN.out] at hg; cases hg
    have hbw : But (Fs k) w wx := but_step (But.of_below BW.out (fun q h1 h2 => absurd h1 (by omega))) hBx (fun q hq => .inl (HDF.out q (by
      rcases hq with h1 | h1 | h1
      · exact .inl h1
      · exact .inr (.inl h1)
      · exact .inr (.inr (.inr h1)))))
    have hda : DevAt wx p g (d.add j s) (grow (Fs k) w wx) := ⟨A, n, c, A9, m + 1, c9, M, _, hdx, by
      rintro q (h1 | h1 | h1 | h1)
      · exact .inl (HDF.out q (.inl h1))
      · exact .inl (HDF.out q (.inr (.inl h1)))
      · exact .inl (HDF.out q (.inr (.inr (.inl h1))))
      · rcases HL9.out q h1 with h2 | h2
        · exact .inl (HDF.out q (.inr (.inr (.inr h2))))
        · exact .inr ⟨by have h3 := hM7.size; have h4 := BW.out.size; omega, (hdx.wt.lt q h1).2⟩⟩
    have hup := H0.out.upd HKD.out hbw (d := d.add j s) (by rw [← HGG.out]; exact hda)
    have cp := hdx.blk.cell 0
    have HUP := Lib.hid hup
    have HBW2 := Lib.hid hbw
    clear hwx hB9 hM7 hBx hdx hbw hda hup HB7 HB8 HO9 HL9 HM9 HF9 HC9 HG9 HGd HTd HXd HO7
    go_wp2_with fail
    have hon : (S.put k (d.add j s)).p.off = false := HON.out
    refine (oper_any HUP.out hon).mono ?_
    rintro e2 w2 ⟨rfl, Gs, lf', hs2, hg2, hb2⟩
    have HS2 := Lib.hid hs2
    have HG2 := Lib.hid hg2
    have HB2 := Lib.hid hb2
    have HWV := Lib.hid (show S.write k (j : Int) s = (if S.p.fails then 13 else 0, (S.put k (d.add j s)).count) by rw [HW.out, HDD.out])
    obtain ⟨fb, hfb⟩ : ∃ fb, fb = S.p.fails := ⟨_, rfl⟩
    rw [show (S.put k (d.add j s)).p.fails = fb from hfb.symm]
    have HFB := Lib.hid hfb
    have HEND := Lib.hid (show ∃ F', Sys w2 p gs (S.write k (j : Int) s).2 F' ∧ (∀ q, F' q → F q ∨ w.heap.size ≤ q) ∧ But F w w2 by
      rw [HWV.out]
      refine ⟨grow F w w2, ⟨bs, Gs, FA, fc, lf', HS2.out, ?_, ?_⟩, ?_, ?_⟩
      · have hlen : (S.put k (d.add j s)).count.ds.length = S.ds.length := by rw [count_length, len_put]
        rintro q (h1 | h1 | ⟨i, hi, h1⟩ | ⟨i, hi, h1⟩)
        · exact .inl (HFF.out q (.inl h1))
        · exact .inl (HFF.out q (.inr (.inl h1)))
        · rw [hlen] at hi; exact .inl (HFF.out q (.inr (.inr (.inl ⟨i, hi, h1⟩))))
        · have hq := HS2.out.lt i q hi h1
          rw [hlen] at hi
          rcases HG2.out i q (by rw [len_put]; exact hi) h1 with h2 | h2
          · by_cases e : i = k
            · rw [if_pos e] at h2
              rcases h2 with h2 | h2
              · exact .inl (HFF.out q (.inr (.inr (.inr ⟨k, HKD.out, h2⟩))))
              · exact .inr ⟨h2.1, hq⟩
            · rw [if_neg e] at h2
              exact .inl (HFF.out q (.inr (.inr (.inr ⟨i, hi, h2⟩))))
          · exact .inr ⟨Nat.le_trans HBW2.out.size h2, hq⟩
      · rintro q (h1 | h1)
        · have := HLT.out q h1; have := HBW2.out.size; have := HB2.out.size; omega
        · exact h1.2
      · rintro q (h1 | h1)
        · exact .inl h1
        · exact .inr h1.1
      · refine but_step (HBW2.out.mono (fun q hq => HFF.out q (.inr (.inr (.inr ⟨k, HKD.out, hq⟩))))) HB2.out ?_
        rintro q (h1 | ⟨i, hi, h1⟩)
        · exact .inl (HFF.out q (.inl h1))
        · rw [len_put] at hi
          by_cases e : i = k
          · rw [if_pos e] at h1
            rcases h1 with h1 | h1
            · exact .inl (HFF.out q (.inr (.inr (.inr ⟨k, HKD.out, h1⟩))))
            · exact .inr h1.1
          · rw [if_neg e] at h1
            exact .inl (HFF.out q (.inr (.inr (.inr ⟨i, hi, h1⟩)))))
    have HV := Lib.hid (show (S.write k (j : Int) s).1 = if fb then 13 else 0 by rw [HWV.out, HFB.out])
    clear hs2 hg2 hb2 hfb hon cp
    cases fb
    · go_wp2_with fail
      go_ret
      exact ⟨by rw [HV.out]; rfl, HEND.out⟩
    · go_wp2_with fail
      go_ret
      exact ⟨by rw [HV.out]; rfl, HEND.out⟩
  · have HW := Lib.hid (write_no (S := S) (k := k) (n := i) (s := s) (by rw [← HDD.out, hrf]; exact hr))
    obtain ⟨x, hx⟩ : ∃ x, x = reachN S.p.off d.gone n i := ⟨_, rfl⟩
    have hx0 : (x == 0) = false := by rw [hx]; simpa using hr
    have HX0 := Lib.hid (show refuseN S.p (S.at k) i = x by rw [hx, ← HDD.out, hrf])
    have HXV := Lib.hid hx.symm
    clear hr hx hrf
    go_enter Tryz.func73, Tryz.ntmps73
    go_wp2_with (refine (reaches_any S.p.off d.gone _ _ A n c i HPW.out HDB.out).mono ?_; rintro e' w' ⟨rfl, rfl⟩; rw [HXV.out])
    go_ret
    refine ⟨by rw [HW.out, HX0.out]; rfl, F, ?_, fun q hq => .inl hq, But.of_below BW.out (fun q h1 h2 => absurd h1 (by omega))⟩
    rw [HW.out]
    exact ⟨bs, Fs, FA, fc, lf, H.out, HFF.out, fun q hq => Nat.lt_of_lt_of_le (HLT.out q hq) BW.out.size⟩
end Go.Proofs.YtnplhagfmfggcaaGreat.Kd
/-
  The contract of a device's Flush.
-/
namespace Go.Proofs.YtnplhagfmfggcaaGreat.Kd
open Go.RowKit Go.Maps
attribute [local go_sem ↓] Go.wp_at_zero Go.wp_at_succ
section
variable {w w2 : World} {p : Nat} {gs bs : List Nat} {S S2 : Sy} {Fs Gs : Nat → Nat → Prop} {F : Nat → Prop} {FA : Option Addr} {fc : Nat} {lf' : Int} {N : Nat}
theorem SysR.fin (h2 : SysR w2 p gs bs S2 Gs FA fc lf') (hF : ∀ q, SysF p bs Fs FA fc N q → F q) (hl : ∀ q, F q → q < w.heap.size) (hlen : S2.ds.length = N) (hg : ∀ i q, i < N → Gs i q → Fs i q ∨ w.heap.size ≤ q) (hb : But F w w2) :
    ∃ F', Sys w2 p gs S2 F' ∧ (∀ q, F' q → F q ∨ w.heap.size ≤ q) ∧ But F w w2 := by
  refine ⟨grow F w w2, ⟨bs, Gs, FA, fc, lf', h2, ?_, ?_⟩, ?_, hb⟩
  · rintro q (h1 | h1 | ⟨i, hi, h1⟩ | ⟨i, hi, h1⟩)
    · exact .inl (hF q (.inl h1))
    · exact .inl (hF q (.inr (.inl h1)))
    · rw [hlen] at hi; exact .inl (hF q (.inr (.inr (.inl ⟨i, hi, h1⟩))))
    · have hq := h2.lt i q hi h1
      rw [hlen] at hi
      rcases hg i q hi h1 with h3 | h3
      · exact .inl (hF q (.inr (.inr (.inr ⟨i, hi, h3⟩))))
      · exact .inr ⟨h3, hq⟩
  · rintro q (h1 | h1)
    · exact Nat.lt_of_lt_of_le (hl q h1) hb.size
    · exact h1.2
  · rintro q (h1 | h1)
    · exact .inl h1
    · exact .inr h1.1
end
theorem settle_at {w : World} {p g : Nat} {d : Dv} {F : Nat → Prop} (h : DevAt w p g d F) (x b : Int) (hx : 0 ≤ x) (hb0 : 0 ≤ b) (hb1 : b ≤ 128) :
    Calls Tryz.prog 29 #[.pointer (some ⟨g, 0, none⟩), .int .i64 x, .int .i64 b] w (fun e' w' => e' = .returned (.tuple #[]) ∧ DevAt w' p g (d.settle x.toNat b) (grow F w w') ∧ But F w w') := by
  obtain ⟨A, n, c, W, m, e, M, D, h, hF⟩ := h
  refine (settle_any h x b hx hb0 hb1).mono ?_
  rintro e2 w2 ⟨rfl, M', h1, h2, h3⟩
  refine ⟨rfl, ⟨A, n, c, none, 0, 0, M', _, h1, ?_⟩, h3.mono ?_⟩
  · rintro q (rfl | rfl | hq | hq)
    · exact .inl (hF _ (.inl rfl))
    · exact .inr ⟨h2, h1.map.lt⟩
    · exact .inl (hF _ (.inr (.inr (.inl hq))))
    · cases hq
  · rintro q (rfl | hq)
    · exact hF _ (.inl rfl)
    · exact hF _ (.inr (.inr (.inl hq)))
theorem flush_down {S : Sy} {k : Nat} (h : (S.p.off || (S.at k).gone) = true) : S.flush k = (13, S) := by unfold Sy.flush; rw [if_pos h]
theorem flush_fails {S : Sy} {k : Nat} (h : ¬ (S.p.off || (S.at k).gone) = true) (hf : S.p.fails = true) : S.flush k = (13, S.count) := by unfold Sy.flush; rw [if_neg h, if_pos hf]
theorem flush_lies {S : Sy} {k : Nat} (h : ¬ (S.p.off || (S.at k).gone) = true) (hf : S.p.fails = false) (hl : (S.at k).lies = true) : S.flush k = (0, S.count) := by unfold Sy.flush; rw [if_neg h, if_neg (by rw [hf]; simp), if_pos hl]
theorem flush_yes {S : Sy} {k : Nat} (h : ¬ (S.p.off || (S.at k).gone) = true) (hf : S.p.fails = false) (hl : (S.at k).lies = false) : S.flush k = (0, S.count.put k ((S.at k).settle (S.at k).wt.length 0)) := by
  unfold Sy.flush; rw [if_neg h, if_neg (by rw [hf]; simp), if_neg (by rw [hl]; simp)]
  unfold Dv.settle; rw [settle_all (Nat.le_refl _)]
theorem count_at {S : Sy} {k : Nat} (hf : S.p.fails = false) : S.count.at k = S.at k := by unfold Sy.count; rw [hf, if_neg (by simp)]; rfl
set_option maxRecDepth 100000 in
set_option maxHeartbeats 6400000 in
theorem flush_any {w : World} {p : Nat} {gs : List Nat} {S : Sy} {F : Nat → Prop} (h : Sys w p gs S F) (k : Nat) (hk : k < S.ds.length) :
    Calls Tryz.prog 10 #[.pointer (some ⟨gs.getD k 0, 0, none⟩)] w (RetS (.int .i64 (S.flush k).1) p gs (S.flush k).2 F w) := by
  obtain ⟨bs, Fs, FA, fc, lf, h, hF, hlt⟩ := h
  have H0 := Lib.hid h
  obtain ⟨A, n, c, W, m, e, M, D, hd, hDF⟩ := h.dev k hk
  have HD := Lib.hid hd
  obtain ⟨d, hdd⟩ : ∃ d, d = S.at k := ⟨_, rfl⟩
  obtain ⟨g, hgg⟩ : ∃ g, g = gs.getD k 0 := ⟨_, rfl⟩
  rw [← hdd] at HD
  rw [← hgg] at HD
  rw [← hgg]
  have HDD := Lib.hid hdd
  have HGG := Lib.hid hgg
  have HFF := Lib.hid hF
  have HLT := Lib.hid hlt
  have HKD := Lib.hid hk
  have HPW := Lib.hid H0.out.pow.blk
  have HDB := Lib.hid HD.out.blk
  clear h hd hDF hdd hgg hF hlt hk
  by_cases hr : (S.p.off || d.gone) = true
  · have HW := Lib.hid (flush_down (S := S) (k := k) (by rw [← HDD.out]; exact hr))
    have HR := Lib.hid (show downN S.p.off d.gone = 13 by unfold downN; rw [if_pos hr])
    clear hr
    go_enter Tryz.func10, Tryz.ntmps10
    go_wp2_with (refine (runs_any S.p.off d.gone _ _ HPW.out HDB.out).mono ?_; rintro e' w' ⟨rfl, rfl⟩; rw [HR.out])
    go_ret
    refine ⟨by rw [HW.out]; rfl, F, ?_, fun q hq => .inl hq, But.refl _⟩
    rw [HW.out]
    exact ⟨bs, Fs, FA, fc, lf, H0.out, HFF.out, HLT.out⟩
  · have hon : S.p.off = false := by cases h1 : S.p.off <;> simp_all
    have HR := Lib.hid (show downN S.p.off d.gone = 0 by unfold downN; rw [if_neg hr])
    have HRR := Lib.hid (show ¬ (S.p.off || (S.at k).gone) = true by rw [← HDD.out]; exact hr)
    have HON := Lib.hid hon
    have cp := HDB.out.cell 0
    clear hr hon
    go_enter Tryz.func10, Tryz.ntmps10
    go_wp2_with (refine (runs_any S.p.off d.gone _ _ HPW.out HDB.out).mono ?_; rintro e' w' ⟨rfl, rfl⟩; rw [HR.out])
    refine (oper_any H0.out HON.out).mono ?_
    rintro e2 w2 ⟨rfl, Gs, lf', hs2, hg2, hb2⟩
    have HS2 := Lib.hid hs2
    have HG2 := Lib.hid hg2
    have HB2 := Lib.hid (show But F w w2 from hb2.mono (fun q hq => by
      rcases hq with h1 | ⟨i, hi, h1⟩
      · exact HFF.out q (.inl h1)
      · exact HFF.out q (.inr (.inr (.inr ⟨i, hi, h1⟩)))))
    obtain ⟨fb, hfb⟩ : ∃ fb, fb = S.p.fails := ⟨_, rfl⟩
    rw [← hfb]
    have HFB := Lib.hid hfb
    clear hs2 hg2 hb2 hfb cp
    cases fb
    · have hdv := HS2.out.dev k (by rw [count_length]; exact HKD.out)
      rw [← HGG.out, count_at HFB.out.symm, ← HDD.out] at hdv
      have HDV := Lib.hid hdv
      obtain ⟨A2, n2, c2, W2, m2, e2, M2, D2, hd2, _⟩ := hdv
      obtain ⟨lb, hlb⟩ : ∃ lb, lb = d.lies := ⟨_, rfl⟩
      have cl : w2.cell? ⟨g, 6, none⟩ = some (.bool lb) := by rw [hlb]; exact hd2.blk.cell 6
      have HLB := Lib.hid hlb
      cases lb
      · have cw : w2.cell? ⟨g, 2, none⟩ = some (.slice W2 m2 e2) := hd2.blk.cell 2
        have HWN := Lib.hid hd2.wtn
        have HW := Lib.hid (flush_yes HRR.out HFB.out.symm (by rw [← HDD.out]; exact HLB.out.symm))
        clear hd2 hlb
        go_wp2_with fail
        refine (settle_at HDV.out (m2 : Int) 0 (by omega) (by omega) (by omega)).mono ?_
        rintro e3 w3 ⟨rfl, hd3, hb3⟩
        have hup := HS2.out.upd (k := k) (by rw [count_length]; exact HKD.out) hb3 (d := d.settle (m2 : Int).toNat 0) (by rw [← HGG.out]; exact hd3)
        have HUP := Lib.hid hup
        have HB3 := Lib.hid hb3
        clear hd3 hb3 hup cl cw
        go_wp2_with fail
        go_ret
        refine ⟨by rw [HW.out]; rfl, ?_⟩
        rw [HW.out, ← HDD.out, HWN.out]
        have hgk : ∀ q, Gs k q → F q ∨ w.heap.size ≤ q := fun q hq => by
          rcases HG2.out k q HKD.out hq with h1 | h1
          · exact .inl (HFF.out q (.inr (.inr (.inr ⟨k, HKD.out, h1⟩))))
          · exact .inr h1
        refine HUP.out.fin HFF.out HLT.out (by rw [len_put, count_length]) (fun i q hi hq => ?_) (but_step HB2.out HB3.out hgk)
        by_cases e : i = k
        · rw [if_pos e] at hq
          subst e
          rcases hq with hq | hq
          · exact HG2.out i q hi hq
          · exact .inr (Nat.le_trans HB2.out.size hq.1)
        · rw [if_neg e] at hq; exact HG2.out i q hi hq
      · have HW := Lib.hid (flush_lies HRR.out HFB.out.symm (by rw [← HDD.out]; exact HLB.out.symm))
        clear hd2 hlb
        go_wp2_with fail
        go_ret
        refine ⟨by rw [HW.out]; rfl, ?_⟩
        rw [HW.out]
        exact HS2.out.fin HFF.out HLT.out (count_length S) HG2.out HB2.out
    · have HW := Lib.hid (flush_fails HRR.out HFB.out.symm)
      go_wp2_with fail
      go_ret
      refine ⟨by rw [HW.out]; rfl, ?_⟩
      rw [HW.out]
      exact HS2.out.fin HFF.out HLT.out (count_length S) HG2.out HB2.out
end Go.Proofs.YtnplhagfmfggcaaGreat.Kd
/-
  The contract of a device's Read.
-/
namespace Go.Proofs.YtnplhagfmfggcaaGreat.Kd
open Go.RowKit Go.Maps
attribute [local go_sem ↓] Go.wp_at_zero Go.wp_at_succ
/-- What Read tells of a sector. -/
def readS (P : Pw) (d : Dv) (i : Int) : List UInt8 := if refuseN P d i = 0 then d.now i.toNat else zeroS
theorem readV_eq (P : Pw) (d : Dv) (i : Int) : readV P d i = .tuple #[.agg (bva (readS P d i)), .int .i64 (refuseN P d i)] := rfl
theorem readS_length {P : Pw} {d : Dv} (h : d.ok) (i : Int) : (readS P d i).length = 128 := by
  unfold readS; split
  · exact now_ok _ _ _ h.st (fun v hv => (h.wt v hv).2)
  · exact zeroS_length
set_option maxRecDepth 100000 in
set_option maxHeartbeats 6400000 in
theorem dread_any {w : World} {p : Nat} {gs : List Nat} {S : Sy} {F : Nat → Prop} (h : Sys w p gs S F) (k : Nat) (hk : k < S.ds.length) (i : Int) :
    Calls Tryz.prog 64 #[.pointer (some ⟨gs.getD k 0, 0, none⟩), .int .i64 i] w (RetB (readV S.p (S.at k) i) w) := by
  obtain ⟨bs, Fs, FA, fc, lf, h, _, _⟩ := h
  obtain ⟨A, n, c, W, m, e, M, D, hd, _⟩ := h.dev k hk
  obtain ⟨d, hdd⟩ : ∃ d, d = S.at k := ⟨_, rfl⟩
  obtain ⟨g, hgg⟩ : ∃ g, g = gs.getD k 0 := ⟨_, rfl⟩
  obtain ⟨P, hP⟩ : ∃ P, P = S.p := ⟨_, rfl⟩
  rw [← hdd, ← hgg] at hd
  rw [← hgg, ← hdd, ← hP]
  have hpb := h.pow.blk
  rw [← hP] at hpb
  obtain ⟨z, hz0⟩ : ∃ z : List UInt8, z = zeroS := ⟨_, rfl⟩
  have hz : ∀ W, (zeroValue 101).run Tryz.prog W = .ok (.agg (bva z)) W := fun _ => by rw [hz0]; kernel_rfl
  have HBZ := Lib.hid (show ∀ W, (Instr.build 101 #[]).run Tryz.prog W = .ok (.agg (bva z)) W from fun _ => by rw [hz0]; kernel_rfl)
  have hze : ∀ W, (zeroValue 3).run Tryz.prog W = .ok (.int .i64 0) W := fun _ => by kernel_rfl
  have HZE := Lib.hid hze
  have Z3 : Hid (z.length = 128) := by show _ = _; rw [hz0]; exact zeroS_length
  have HIZ : Hid ((Tryz.prog.info? 101).map (·.size) = some (bva z).size) := by show _ = _; rw [bva_size, Z3.out]; exact info_sec
  have Z0 := Lib.hid hz0
  have B0 := Lib.hid (show Below w.heap.size w (w.alloc (.cells (bva z) 101)) from (Below.refl _ w).alloc (Nat.le_refl _) _)
  have R0 := Lib.hid (show Blk (w.alloc (.cells (bva z) 101)) w.heap.size (bva z) 101 from heap_alloc_new _ _)
  have HD := Lib.hid (hd.below B0.out)
  have HDB := Lib.hid HD.out.blk
  have HPW := Lib.hid (hpb.below B0.out)
  have hrf : refuseN P d i = reachN P.off d.gone n i := reach_refuse hd.stn i
  clear h hd hdd hgg hP hpb hz0 hze
  by_cases hr : reachN P.off d.gone n i = 0
  · have h0 := refuse_zero (hrf.trans hr)
    obtain ⟨j, rfl⟩ := Int.eq_ofNat_of_zero_le h0.2.2.1
    have hjn : j < n := by have := HD.out.stn; omega
    have hjl : j < d.st.length := by have := HD.out.stn; omega
    have HR := Lib.hid hr
    have HRF := Lib.hid (show refuseN P d (j : Int) = 0 from hrf.trans hr)
    obtain ⟨y, hy⟩ : ∃ y, y = d.now j := ⟨_, rfl⟩
    have HYV := Lib.hid (show readV P d (j : Int) = .tuple #[.agg (bva y), .int .i64 0] by rw [readV_yes HRF.out, hy]; rfl)
    have Y3 : Hid (y.length = 128) := by show _ = _; rw [hy]; exact now_ok _ _ _ HD.out.ok.st (fun v hv => (HD.out.ok.wt v hv).2)
    have HIY : Hid ((Tryz.prog.info? 101).map (·.size) = some (bva y).size) := by show _ = _; rw [bva_size, Y3.out]; exact info_sec
    have HIYL : Hid ((Tryz.prog.info? 101).map (·.size) = some (bv y).length) := by show _ = _; rw [bv_length, Y3.out]; exact info_sec
    have j0 : (0 : Int) ≤ (j : Int) := by omega
    have j1 : (j : Int) < (n : Int) := by omega
    have jb : (j : Int) ≤ 4096 := by have := HD.out.ok.len; omega
    have HKI := Lib.hid (keyOf_int_mk (P := Tryz.prog) (k := 3) Tryz.underlying3 (wfI (z := (j : Int)) (by omega)))
    cases hl : lastL d.wt j with
    | none =>
      have HHS := Lib.hid (show Maps.has D (.int .i64 (j : Int)) = false by rw [HD.out.last.has j, hl]; rfl)
      obtain ⟨ad, hA, _, hce⟩ := rd_sec (Rd.ownN HD.out.st) HD.out.ok.st hjl
      have hys : y = d.st[j] := by rw [hy, Dv.now, last_none hl, List.getD_eq_getElem?_getD, List.getElem?_eq_getElem hjl]; rfl
      rw [← hys] at hce
      subst hA
      have CE := Lib.hid hce
      have c3 := HDB.out.cell 3
      have c1 := HDB.out.cell 1
      clear hl h0 hjn hjl hr hrf hy hys hce
      go_enter Tryz.func64, Tryz.ntmps64
      go_wp2_with (first
        | (refine (reaches_any P.off d.gone _ _ _ n c (j : Int) HPW.out HDB.out).mono ?_; rintro e' w' ⟨rfl, rfl⟩; rw [HR.out])
        | (at_lookup; refine wpList_lookup_own_ok_int _ rfl _ _ 74 rfl 3 3 .i64 lawI Tryz.underlying74 Tryz.underlying3 (HZE.out _) M m D rfl HD.out.map (.int .i64 (j : Int)) (.int .i64 (j : Int)) rfl HKI.out ?_; intro cv hat hwc; rw [HHS.out])
        | (refine wpList_load_at rfl 101 (.tmp 39) rfl (ad.add (j * 128)) rfl CE.out Tryz.underlying101 rfl HIYL.out ?_
           change wpList _ _ _ _ (Act.put _ _ (.agg (bva y))) _)
        | (refine wpList_store_row rfl 101 (.tmp 4) (.tmp 40) rfl w.heap.size (bva y) rfl rfl 101 (bva z) R0.out HIY.out (by rw [bva_size, bva_size, Y3.out, Z3.out]) (bva_one _) ?_))
      exact bodyPost_ret (v := .tuple #[.agg (bva y), .int .i64 0]) (results_ct8 Tryz.results64 _ _ w.heap.size 101 (bva y) _ rfl (setRow_heap _ _ _ _ _ _ R0.out) Tryz.underlying101 rfl HIY.out) rfl ⟨by rw [HYV.out], below_setRow B0.out (Nat.le_refl _) _⟩
    | some q =>
      have HHS := Lib.hid (show Maps.has D (.int .i64 (j : Int)) = true by rw [HD.out.last.has j, hl]; rfl)
      have HAT := Lib.hid (HD.out.last.at_ j q hl)
      obtain ⟨hq, hnq⟩ := last_some (st := d.st) hl
      obtain ⟨ad, hA, _, hx1, hce⟩ := rd_wait (Rd.ownN HD.out.wt) (fun v hv => (HD.out.ok.wt v hv).2) hq
      have hys : y = d.wt[q].2 := by rw [hy, Dv.now, hnq]
      rw [← hys] at hce
      subst hA
      have hcs : ∀ jj v, (bv y)[jj]? = some v → (w.alloc (.cells (bva z) 101)).cell? ((⟨(ad.add (q * 129)).block, (ad.add (q * 129)).off + 1, none⟩ : Addr).add jj) = some v := hce
      have CE := Lib.hid hcs
      have c3 := HDB.out.cell 3
      have c2 := HDB.out.cell 2
      have q0 : (0 : Int) ≤ (q : Int) := by omega
      have q1 : (q : Int) < (m : Int) := by have := HD.out.wtn; omega
      clear hl h0 hjn hjl hr hrf hy hys hce hcs hx1 hq hnq
      go_enter Tryz.func64, Tryz.ntmps64
      go_wp2_with (first
        | (refine (reaches_any P.off d.gone _ _ A n c (j : Int) HPW.out HDB.out).mono ?_; rintro e' w' ⟨rfl, rfl⟩; rw [HR.out])
        | (at_lookup; refine wpList_lookup_own_ok_int _ rfl _ _ 74 rfl 3 3 .i64 lawI Tryz.underlying74 Tryz.underlying3 (HZE.out _) M m D rfl HD.out.map (.int .i64 (j : Int)) (.int .i64 (j : Int)) rfl HKI.out ?_; intro cv hat hwc; rw [HHS.out]; have hcv : cv = (q : Int) := (by rw [HAT.out] at hat; injection hat with hat; injection hat with _ hat; exact hat.symm); subst hcv; clear hat hwc)
        | (refine wpList_load_at rfl 101 (.tmp 32) rfl (⟨(ad.add (q * 129)).block, (ad.add (q * 129)).off + 1, none⟩ : Addr) rfl CE.out Tryz.underlying101 rfl HIYL.out ?_
           change wpList _ _ _ _ (Act.put _ _ (.agg (bva y))) _)
        | (refine wpList_store_row rfl 101 (.tmp 4) (.tmp 33) rfl w.heap.size (bva y) rfl rfl 101 (bva z) R0.out HIY.out (by rw [bva_size, bva_size, Y3.out, Z3.out]) (bva_one _) ?_))
      exact bodyPost_ret (v := .tuple #[.agg (bva y), .int .i64 0]) (results_ct8 Tryz.results64 _ _ w.heap.size 101 (bva y) _ rfl (setRow_heap _ _ _ _ _ _ R0.out) Tryz.underlying101 rfl HIY.out) rfl ⟨by rw [HYV.out], below_setRow B0.out (Nat.le_refl _) _⟩
  · obtain ⟨x, hx⟩ : ∃ x, x = reachN P.off d.gone n i := ⟨_, rfl⟩
    have hx0 : (x == 0) = false := by rw [hx]; simpa using hr
    have HYV := Lib.hid (show readV P d i = .tuple #[.agg (bva z), .int .i64 x] by rw [readV_no (x := x) (hrf.trans hx.symm) (by rw [hx]; exact hr), Z0.out])
    have HXV := Lib.hid hx.symm
    clear hr hx hrf
    go_enter Tryz.func64, Tryz.ntmps64
    go_wp2_with (first
      | (refine (reaches_any P.off d.gone _ _ A n c i HPW.out HDB.out).mono ?_; rintro e' w' ⟨rfl, rfl⟩; rw [HXV.out])
      | (refine wpList_build rfl 101 #[] rfl (v := .agg (bva z)) ?hbld ?_; case hbld => exact HBZ.out _)
      | (refine wpList_store_row rfl 101 (.tmp 4) (.tmp 14) rfl w.heap.size (bva z) rfl rfl 101 (bva z) R0.out HIZ.out (by rfl) (bva_one _) ?_))
    exact bodyPost_ret (v := .tuple #[.agg (bva z), .int .i64 x]) (results_ct8 Tryz.results64 _ _ w.heap.size 101 (bva z) _ rfl (setRow_heap _ _ _ _ _ _ R0.out) Tryz.underlying101 rfl HIZ.out) rfl ⟨by rw [HYV.out], below_setRow B0.out (Nat.le_refl _) _⟩
end Go.Proofs.YtnplhagfmfggcaaGreat.Kd
/-
  What is told to devices and to power, over all of a power's devices: Tear, Lie, Out, Fail, Restart; what they tell: On, Len, Waiting.
-/
namespace Go.Proofs.YtnplhagfmfggcaaGreat.Kd
open Go.RowKit Go.Maps
attribute [local go_sem ↓] Go.wp_at_zero Go.wp_at_succ
def Dv.tear (d : Dv) (x y : Int) : Dv := { d with kept := keptN x, bytes := bytesN y }
def Dv.lie (d : Dv) (on : Bool) : Dv := { d with lies := on }
def Dv.out (d : Dv) (on : Bool) : Dv := { d with gone := on, wt := if on then [] else d.wt }
def Sy.fail (S : Sy) (x : Int) : Sy := ⟨⟨S.p.off, failN x⟩, S.ds⟩
def Sy.restart (S : Sy) : Sy := ⟨⟨false, -1⟩, S.ds⟩
section
variable {w w' : World} {p g : Nat} {gs : List Nat} {S : Sy} {F : Nat → Prop} {d d' : Dv} {A W : Option Addr} {n c m e M : Nat} {D : DataW Unit}
theorem DevR.tell (h : DevR w p g d A n c W m e M D) (hb : But (fun q => q = g) w w') (hst : d'.st = d.st) (hwt : d'.wt = d.wt) (hk : 0 ≤ d'.kept) (hby : 0 ≤ d'.bytes ∧ d'.bytes ≤ 128) (hid : d'.gone = true → d'.wt = [])
    (hblk : Blk w' g #[.pointer (some ⟨p, 0, none⟩), .slice A n c, .slice W m e, .map (some M), .int .i64 d'.kept, .int .i64 d'.bytes, .bool d'.lies, .bool d'.gone] 76) : DevR w' p g d' A n c W m e M D :=
  ⟨hblk, by rw [hst]; exact Own.but h.st hb (fun q hq => (h.apart.2.1 q hq).1), by rw [hwt]; exact Own.but h.wt hb (fun q hq => (h.apart.2.2.1 q hq).1), imap_but h.map hb (fun e => h.apart.1 e.symm), by rw [hwt]; exact h.last, by rw [hst]; exact h.stn, by rw [hwt]; exact h.wtn,
    ⟨by rw [hst]; exact h.ok.st, by rw [hst, hwt]; exact h.ok.wt, hk, hby, by rw [hst]; exact h.ok.len⟩, hid⟩
/-- One device's blocks stay its own. -/
theorem DevR.grown (h : DevR w' p g d A n c W m e M D) {W0 : Option Addr} {m0 e0 : Nat} (hF : ∀ q, DevF g A n c W0 m0 e0 M q → F q) (hW : ∀ q, (Value.slice W m e).ownBlock = some q → F q) : DevAt w' p g d (grow F w w') :=
  ⟨A, n, c, W, m, e, M, D, h, by
    rintro q (h1 | h1 | h1 | h1)
    · exact .inl (hF q (.inl h1))
    · exact .inl (hF q (.inr (.inl h1)))
    · exact .inl (hF q (.inr (.inr (.inl h1))))
    · exact .inl (hW q h1)⟩
theorem keptN_ok (x : Int) : 0 ≤ keptN x := by unfold keptN; omega
theorem bytesN_ok (x : Int) : 0 ≤ bytesN x ∧ bytesN x ≤ 128 := by unfold bytesN; omega
theorem tear_sys (h : Sys w p gs S F) (k : Nat) (hk : k < S.ds.length) (x y : Int) :
    Calls Tryz.prog 7 #[.pointer (some ⟨gs.getD k 0, 0, none⟩), .int .i64 x, .int .i64 y] w (RetS (.tuple #[]) p gs (S.put k ((S.at k).tear x y)) F w) := by
  obtain ⟨bs, Fs, FA, fc, lf, h, hF, hl⟩ := h
  obtain ⟨A, n, c, W, m, e, M, D, hd, hDF⟩ := h.dev k hk
  refine (tear_any (S.at k).kept (S.at k).bytes x y hd.blk).mono ?_
  rintro e2 w2 ⟨rfl, hb, hbt⟩
  have hd2 : DevR w2 p (gs.getD k 0) ((S.at k).tear x y) A n c W m e M D := hd.tell hbt rfl rfl (keptN_ok x) (bytesN_ok y) hd.idle hb
  exact ⟨rfl, h.ret hF hl hk (hbt.mono (fun q e => hDF q (.inl e))) (hd2.grown hDF (fun q hq => hDF q (.inr (.inr (.inr hq)))))⟩
theorem out_in {PV SV WV MV KV BV LV GV : Value} (hp : Blk w g #[PV, SV, WV, MV, KV, BV, LV, GV] 76) :
    Calls Tryz.prog 26 #[.pointer (some ⟨g, 0, none⟩), .bool false] w (fun e' w' => e' = .returned (.tuple #[]) ∧ But (fun k => k = g) w w' ∧ Blk w' g #[PV, SV, WV, MV, KV, BV, LV, .bool false] 76) := by
  have HP := Lib.hid hp
  have c7 : w.cell? ⟨g, 7, none⟩ = some GV := hp.cell 7
  have f7 := hp.free 7
  clear hp
  go_enter Tryz.func26, Tryz.ntmps26
  go_wp2_with fail
  exact bodyPost_end (results_none Tryz.results26 _ _ _) rfl ⟨rfl, but_one _, blk_setN8 HP.out 7 _⟩
theorem out_out {PV SV WV MV KV BV LV GV : Value} (hp : Blk w g #[PV, SV, WV, MV, KV, BV, LV, GV] 76) :
    Calls Tryz.prog 26 #[.pointer (some ⟨g, 0, none⟩), .bool true] w (fun e' w' => e' = .returned (.tuple #[]) ∧ But (fun k => k = g) w w' ∧
      Blk w' g #[PV, SV, .slice none 0 0, .map (some w.heap.size), KV, BV, LV, .bool true] 76 ∧ w'.ownsMap Tryz.prog 3 (intP Tryz.prog) w.heap.size 0 (.map [])) := by
  have HP := Lib.hid hp
  have c7 : w.cell? ⟨g, 7, none⟩ = some GV := hp.cell 7
  have f7 := hp.free 7
  have H2 := Lib.hid (show Blk (w.setCell ⟨g, 7, none⟩ (.bool true)) g #[PV, SV, WV, MV, KV, BV, LV, .bool true] 76 from blk_setN8 HP.out 7 _)
  have HZ := Lib.hid (show (w.setCell ⟨g, 7, none⟩ (.bool true)).heap.size = w.heap.size by simp)
  clear hp
  go_enter Tryz.func26, Tryz.ntmps26
  go_wp2_with fail
  refine (empty_any _ _ _ _ _ _ _ _ H2.out).mono ?_
  rintro e2 w2 ⟨rfl, hb2, hm2, ht2⟩
  rw [HZ.out] at hb2 hm2
  have E1 := Lib.hid hb2
  have E2 := Lib.hid hm2
  have E3 := Lib.hid ht2
  clear hb2 hm2 ht2 c7 f7
  go_wp2_with fail
  exact bodyPost_end (results_none Tryz.results26 _ _ _) rfl ⟨rfl, (but_one _).trans E3.out, E1.out, E2.out⟩
theorem out_nil (on : Bool) : Calls Tryz.prog 26 #[.pointer none, .bool on] w (Ret0 (.tuple #[]) w) := by
  go_enter Tryz.func26, Tryz.ntmps26
  go_wp2_with fail
  exact bodyPost_end (results_none Tryz.results26 _ _ _) rfl ⟨rfl, rfl⟩
theorem out_sys (h : Sys w p gs S F) (k : Nat) (hk : k < S.ds.length) (on : Bool) :
    Calls Tryz.prog 26 #[.pointer (some ⟨gs.getD k 0, 0, none⟩), .bool on] w (RetS (.tuple #[]) p gs (S.put k ((S.at k).out on)) F w) := by
  obtain ⟨bs, Fs, FA, fc, lf, h, hF, hl⟩ := h
  obtain ⟨A, n, c, W, m, e, M, D, hd, hDF⟩ := h.dev k hk
  cases on
  · refine (out_in hd.blk).mono ?_
    rintro e2 w2 ⟨rfl, hbt, hb⟩
    have hd2 : DevR w2 p (gs.getD k 0) ((S.at k).out false) A n c W m e M D := hd.tell hbt rfl rfl hd.ok.kept hd.ok.bytes (fun e => by cases e) hb
    exact ⟨rfl, h.ret hF hl hk (hbt.mono (fun q e => hDF q (.inl e))) (hd2.grown hDF (fun q hq => hDF q (.inr (.inr (.inr hq)))))⟩
  · refine (out_out hd.blk).mono ?_
    rintro e2 w2 ⟨rfl, hbt, hb, hm⟩
    have hd2 : DevR w2 p (gs.getD k 0) ((S.at k).out true) A n c none 0 0 w.heap.size (.map []) :=
      ⟨hb, Own.but hd.st hbt (fun q hq => (hd.apart.2.1 q hq).1), ⟨rfl, .inl ⟨rfl, rfl⟩⟩, hm, last_empty, hd.stn, rfl, ⟨hd.ok.st, fun x hx => absurd hx List.not_mem_nil, hd.ok.kept, hd.ok.bytes, hd.ok.len⟩, fun _ => rfl⟩
    refine ⟨rfl, h.ret hF hl hk (hbt.mono (fun q e => hDF q (.inl e))) ⟨A, n, c, none, 0, 0, w.heap.size, _, hd2, ?_⟩⟩
    rintro q (h1 | h1 | h1 | h1)
    · exact .inl (hDF q (.inl h1))
    · subst h1; exact .inr ⟨Nat.le_refl _, hm.lt⟩
    · exact .inl (hDF q (.inr (.inr (.inl h1))))
    · cases h1
theorem power_sys {bs : List Nat} {Fs : Nat → Nat → Prop} {FA : Option Addr} {fc : Nat} {lf lf' : Int} {P : Pw} (h : SysR w p gs bs S Fs FA fc lf) (hF : ∀ q, SysF p bs Fs FA fc S.ds.length q → F q) (hl : ∀ q, F q → q < w.heap.size) (hb : But (fun k => k = p) w w') (hp : Blk w' p #[.bool (!P.off), .int .i64 lf', .slice FA bs.length fc] 79) (h1 : P.off = false → lf' = P.left) (h2 : -1 ≤ lf' ∧ lf' ≤ 9223372036854775807) (h3 : -1 ≤ P.left) :
    ∃ F', Sys w' p gs ⟨P, S.ds⟩ F' ∧ (∀ q, F' q → F q ∨ w.heap.size ≤ q) ∧ But F w w' :=
  (h.power hb hp h1 h2 h3 h.row_ne).fin (N := S.ds.length) (Fs := Fs) hF hl rfl (fun _ _ _ hq => .inl hq) (hb.mono (fun q e => hF q (.inl e)))
theorem fail_sys (h : Sys w p gs S F) (x : Int) (hx : x ≤ 9223372036854775807) :
    Calls Tryz.prog 8 #[.pointer (some ⟨p, 0, none⟩), .int .i64 x] w (RetS (.tuple #[]) p gs (S.fail x) F w) := by
  obtain ⟨bs, Fs, FA, fc, lf, h, hF, hl⟩ := h
  refine (fail_any x _ _ _ h.pow.blk).mono ?_
  rintro e2 w2 ⟨rfl, hb, hbt⟩
  exact ⟨rfl, power_sys (P := ⟨S.p.off, failN x⟩) h hF hl hbt hb (fun _ => rfl) (by unfold failN; omega) (by show -1 ≤ failN x; unfold failN; omega)⟩
theorem restart_sys (h : Sys w p gs S F) : Calls Tryz.prog 11 #[.pointer (some ⟨p, 0, none⟩)] w (RetS (.tuple #[]) p gs S.restart F w) := by
  obtain ⟨bs, Fs, FA, fc, lf, h, hF, hl⟩ := h
  refine (restart_any _ _ _ h.pow.blk).mono ?_
  rintro e2 w2 ⟨rfl, hb, hbt⟩
  exact ⟨rfl, power_sys (P := ⟨false, -1⟩) h hF hl hbt hb (fun _ => rfl) (by omega) (by show -1 ≤ (-1 : Int); omega)⟩
theorem on_sys (h : Sys w p gs S F) : Calls Tryz.prog 56 #[.pointer (some ⟨p, 0, none⟩)] w (Ret0 (.bool (!S.p.off)) w) := by
  obtain ⟨bs, Fs, FA, fc, lf, h, hF, hl⟩ := h
  exact on_any _ _ _ h.pow.blk
theorem len_sys (h : Sys w p gs S F) (k : Nat) (hk : k < S.ds.length) : Calls Tryz.prog 41 #[.pointer (some ⟨gs.getD k 0, 0, none⟩)] w (Ret0 (.int .i64 ((S.at k).st.length : Int)) w) := by
  obtain ⟨bs, Fs, FA, fc, lf, h, hF, hl⟩ := h
  obtain ⟨A, n, c, W, m, e, M, D, hd, hDF⟩ := h.dev k hk
  rw [hd.stn]
  exact len_any A n c hd.blk
theorem Sys.ok (h : Sys w p gs S F) {k : Nat} (hk : k < S.ds.length) : (S.at k).ok := by
  obtain ⟨bs, Fs, FA, fc, lf, h, hF, hl⟩ := h
  obtain ⟨A, n, c, W, m, e, M, D, hd, hDF⟩ := h.dev k hk
  exact hd.ok
theorem Sys.idle (h : Sys w p gs S F) {k : Nat} (hk : k < S.ds.length) : (S.at k).gone = true → (S.at k).wt = [] := by
  obtain ⟨bs, Fs, FA, fc, lf, h, hF, hl⟩ := h
  obtain ⟨A, n, c, W, m, e, M, D, hd, hDF⟩ := h.dev k hk
  exact hd.idle
end
end Go.Proofs.YtnplhagfmfggcaaGreat.Kd
/-
  The contract of a device's Rot.
-/
namespace Go.Proofs.YtnplhagfmfggcaaGreat.Kd
open Go.RowKit Go.Maps
attribute [local go_sem ↓] Go.wp_at_zero Go.wp_at_succ
theorem bits_xor8 (x y : UInt8) : bits .xor .u8 (x.toNat : Int) (y.toNat : Int) = ((x ^^^ y).toNat : Int) := by
  rw [u8_xor_nat _ _ (UInt8.toNat_lt _) (UInt8.toNat_lt _), UInt8.toNat_xor]
/-- A byte of a sector is put together with a mask. -/
def rotS (s : List UInt8) (a : Nat) (x : UInt8) : List UInt8 := s.set a (s.getD a 0 ^^^ x)
def rotL (st : List (List UInt8)) (n a : Nat) (x : UInt8) : List (List UInt8) := st.set n (rotS (st.getD n zeroS) a x)
def Dv.rot (d : Dv) (n a : Nat) (x : UInt8) : Dv := { d with st := rotL d.st n a x }
theorem rotS_length {s : List UInt8} {a : Nat} {x : UInt8} : (rotS s a x).length = s.length := by rw [rotS, List.length_set]
theorem rotL_length {st : List (List UInt8)} {n a : Nat} {x : UInt8} : (rotL st n a x).length = st.length := by rw [rotL, List.length_set]
theorem rot_ok {d : Dv} (h : d.ok) (n a : Nat) (x : UInt8) : (d.rot n a x).ok := by
  refine ⟨set_ok h.st (by rw [rotS_length]; exact getD_ok h.st n) n, fun w hw => ?_, h.kept, h.bytes, ?_⟩
  · have := h.wt w hw
    refine ⟨?_, this.2⟩
    show w.1 < (rotL d.st n a x).length
    rw [rotL_length]; exact this.1
  · show (rotL d.st n a x).length ≤ 4096
    rw [rotL_length]; exact h.len
theorem svs_rot : ∀ {st : List (List UInt8)} {k a : Nat} {x : UInt8}, (∀ x ∈ st, x.length = 128) → k < st.length → a < 128 → svs (rotL st k a x) = splice (svs st) (k * 128 + a) [.int .u8 (((st.getD k zeroS).getD a 0 ^^^ x).toNat : Int)]
  | [], k, _, _, _, hk, _ => by simp at hk
  | s :: l, 0, a, x, h, _, ha => by
    have hs := h s (by simp)
    have e : bv (rotS s a x) = splice (bv s) a [.int .u8 ((s.getD a 0 ^^^ x).toNat : Int)] := by
      rw [rotS]
      unfold bv splice
      rw [List.map_set, List.set_eq_take_append_cons_drop, if_pos (by rw [List.length_map]; omega)]
      rfl
    show svs ((s :: l).set 0 (rotS s a x)) = _
    rw [List.set_cons_zero, svs, svs, e, Nat.zero_mul, Nat.zero_add, splice_left _ _ _ _ (by rw [bv_length]; simp; omega)]
    rfl
  | s :: l, k + 1, a, x, h, hk, ha => by
    have hs := h s (by simp)
    show svs ((s :: l).set (k + 1) (rotS ((s :: l).getD (k + 1) zeroS) a x)) = _
    rw [List.set_cons_succ, svs, svs, List.getD_cons_succ, show (k + 1) * 128 + a = (bv s).length + (k * 128 + a) by rw [bv_length]; omega, splice_right]
    have h1 := svs_rot (st := l) (k := k) (a := a) (x := x) (fun y hy => h y (by simp [hy])) (by simpa using hk) ha
    rw [show l.set k (rotS (l.getD k zeroS) a x) = rotL l k a x from rfl, h1]
/-- There is such a byte. -/
def hasByte (n : Nat) (i a : Int) : Bool := decide (0 ≤ i) && decide (i < (n : Int)) && decide (0 ≤ a) && decide (a < 128)
/-- Behind Rot. -/
def Sy.rot (S : Sy) (k : Nat) (i a : Int) (x : UInt8) : Sy := if hasByte (S.at k).st.length i a then S.put k ((S.at k).rot i.toNat a.toNat x) else S
end Go.Proofs.YtnplhagfmfggcaaGreat.Kd
/-
  The contracts of slices.Clone over sectors, and of a device's Dump.
-/
namespace Go.Proofs.YtnplhagfmfggcaaGreat.Kd
open Go.RowKit Go.Maps
attribute [local go_sem ↓] Go.wp_at_zero Go.wp_at_succ
theorem info_secW : (Tryz.prog.info? 101).map (fun i => (i.zero, i.size, i.bytes)) = some (some (.agg (bva zeroS)), 128, 128) := by kernel_rfl
theorem secsElt : EltN Tryz.prog 72 101 (.agg (bva zeroS)) 128 128 := ⟨Tryz.underlying72, info_secW, by show (bva zeroS).size = 128; rw [bva_size, zeroS_length], by omega, by omega⟩
theorem svs_one : ∀ (l : List (List UInt8)), ∀ u ∈ svs l, u.oneCell' = true
  | [], u, h => by cases h
  | x :: l, u, h => by
    rw [svs, List.mem_append] at h
    rcases h with h | h
    · exact bv_one x u h
    · exact svs_one l u h
end Go.Proofs.YtnplhagfmfggcaaGreat.Kd
/-
  The contract of the device's New.
-/
namespace Go.Proofs.YtnplhagfmfggcaaGreat.Kd
open Go.RowKit Go.Maps
attribute [local go_sem ↓] Go.wp_at_zero Go.wp_at_succ
/-- So many sectors. -/
def clampN (x : Int) : Nat := (min (max x 0) 4096).toNat
def newDv (n : Nat) : Dv := ⟨List.replicate n zeroS, [], 0, 0, false, false⟩
def Sy.new (S : Sy) (x : Int) : Sy := ⟨S.p, S.ds ++ [newDv (clampN x)]⟩
def newCells (A : Option Addr) (n c p : Nat) (WV MV : Value) : Array Value := #[.pointer (some ⟨p, 0, none⟩), .slice A n c, WV, MV, .int .i64 0, .int .i64 0, .bool false, .bool false]
theorem bv_zero8 (k : Nat) : bv (List.replicate k 0) = List.replicate k (.int .u8 0) := by
  simp [bv]
theorem svs_zero : ∀ (n : Nat), svs (List.replicate n zeroS) = List.replicate (n * 128) (.int .u8 0)
  | 0 => rfl
  | n + 1 => by
    rw [List.replicate_succ, svs, svs_zero n, zeroS, bv_zero8, List.replicate_append_replicate]
    congr 1; omega
theorem made_svs (n : Nat) : (madeCells (bva zeroS) (n * 128)).toList = svs (List.replicate n zeroS) := by
  rw [svs_zero]
  refine List.eq_replicate_iff.2 ⟨by rw [Array.length_toList, size_madeCells], fun v hv => ?_⟩
  rw [Array.mem_toList_iff] at hv
  unfold madeCells at hv
  rw [Array.mem_map] at hv
  obtain ⟨i, _, rfl⟩ := hv
  have hz : bva zeroS = Array.replicate 128 (.int .u8 0) := by rw [bva, zeroS, bv_zero8]; exact List.toArray_replicate ..
  have hs : (bva zeroS).size = 128 := by rw [hz]; simp
  rw [getElem!_pos (bva zeroS) _ (by rw [hs]; exact Nat.mod_lt _ (by omega))]
  simp only [hz, Array.getElem_replicate]
theorem below_of_grown8 {w w' : World} (hg : w.grownBy w' none) : Below w.heap.size w w' := ⟨hg.os, hg.tape, hg.output, hg.size, fun k hk => hg.block k hk (by simp)⟩
/-- It returns a new device, of which, and of the others, the power's devices are S. -/
def RetNew (p : Nat) (gs : List Nat) (S : Sy) (F : Nat → Prop) (w : World) (e : Ending) (w' : World) : Prop :=
  ∃ g, e = .returned (.pointer (some ⟨g, 0, none⟩)) ∧ ∃ F', Sys w' p (gs ++ [g]) S F' ∧ (∀ q, F' q → F q ∨ w.heap.size ≤ q) ∧ But F w w'
theorem info_func : (Tryz.prog.info? 1).map (fun i => (i.zero, i.size, i.bytes)) = some (some .nilFunc, 1, 8) := by kernel_rfl
theorem funcsElt : EltN Tryz.prog 77 1 .nilFunc 1 8 := ⟨Tryz.underlying77, info_func, rfl, by omega, by omega⟩
theorem getD_left8 {α : Type} {l : List α} {x z : α} {i : Nat} (h : i < l.length) : (l ++ [x]).getD i z = l.getD i z := by
  rw [List.getD_eq_getElem?_getD, List.getD_eq_getElem?_getD, List.getElem?_append_left h]
theorem getD_last8 {α : Type} {l : List α} {x z : α} : (l ++ [x]).getD l.length z = x := by
  rw [List.getD_eq_getElem?_getD, List.getElem?_append_right (Nat.le_refl _)]; simp
/-- A device more. -/
theorem sys_grow {w w' : World} {p : Nat} {gs bs : List Nat} {S : Sy} {Fs : Nat → Nat → Prop} {F G : Nat → Prop} {FA FA' : Option Addr} {fc fc' g b : Nat} {lf : Int} {d : Dv} (h : SysR w p gs bs S Fs FA fc lf) (hF : ∀ q, SysF p bs Fs FA fc S.ds.length q → F q) (hl : ∀ q, F q → q < w.heap.size)
    (hT : But (fun q => q = p ∨ (Value.slice FA bs.length fc).ownBlock = some q) w w') (hP : PowR w' p S.p (bs ++ [b]) FA' fc' lf) (hd : DevAt w' p g d G)
    (hG : ∀ q, G q → w.heap.size ≤ q ∧ q < w'.heap.size ∧ q ≠ b ∧ ∀ k, (Value.slice FA' (bs ++ [b]).length fc').ownBlock = some k → q ≠ k) (hb : Blk w' b #[.pointer (some ⟨g, 0, none⟩)] 28) (hbn : w.heap.size ≤ b)
    (hr : ∀ q, (Value.slice FA' (bs ++ [b]).length fc').ownBlock = some q → (Value.slice FA bs.length fc).ownBlock = some q ∨ w.heap.size ≤ q) :
    ∃ F', Sys w' p (gs ++ [g]) ⟨S.p, S.ds ++ [d]⟩ F' ∧ (∀ q, F' q → F q ∨ w.heap.size ≤ q) ∧ But F w w' := by
  have hN : (S.ds ++ [d]).length = S.ds.length + 1 := by simp
  have hpl := h.pow.blk.lt
  have hbl : ∀ j, j < S.ds.length → bs.getD j 0 < w.heap.size := fun j hj => (h.box j hj).lt
  have hgl : ∀ j, j < S.ds.length → (gs ++ [g]).getD j 0 = gs.getD j 0 := fun j hj => getD_left8 (by rw [h.gl]; exact hj)
  have hbl2 : ∀ j, j < S.ds.length → (bs ++ [b]).getD j 0 = bs.getD j 0 := fun j hj => getD_left8 (by rw [h.bl]; exact hj)
  have hgN : (gs ++ [g]).getD S.ds.length 0 = g := by rw [← h.gl]; exact getD_last8
  have hbN : (bs ++ [b]).getD S.ds.length 0 = b := by rw [← h.bl]; exact getD_last8
  have hat : ∀ j, j < S.ds.length → (Sy.mk S.p (S.ds ++ [d])).at j = S.at j := fun j hj => getD_left8 hj
  have hatN : (Sy.mk S.p (S.ds ++ [d])).at S.ds.length = d := getD_last8
  have hS : ∀ i, i < S.ds.length → ∀ q, Fs i q → ¬ (q = p ∨ (Value.slice FA bs.length fc).ownBlock = some q) := fun i hi q hq => by
    have := h.other i q hi hq
    rintro (e | e)
    · exact this.1 e
    · exact this.2.1 q e rfl
  have hbS : ∀ j, j < S.ds.length → ¬ (bs.getD j 0 = p ∨ (Value.slice FA bs.length fc).ownBlock = some (bs.getD j 0)) := fun j hj => by
    have hbj : w.heap[bs.getD j 0]? = some (.cells _ 28 (0, 0)) := h.box j hj
    rintro (e | e)
    · have hp : w.heap[p]? = some (.cells _ 79 (0, 0)) := h.pow.blk
      rw [e, hp] at hbj; injection hbj with hbj; injection hbj with _ hbj; exact absurd hbj (by decide)
    · rcases h.pow.row.2 with ⟨e1, _⟩ | ⟨g', cap, cur, e1, _, h2, _⟩
      · rw [e1] at e; cases e
      · rw [e1] at e; injection e with e; rw [← e, h2] at hbj; injection hbj with hbj; injection hbj with _ hbj; exact absurd hbj (by decide)
  refine ⟨grow F w w', ⟨bs ++ [b], fun i => if i < S.ds.length then Fs i else G, FA', fc', lf, ⟨hP, by simp [h.gl], by simp [h.bl], ?_, ?_, ?_, ?_, ?_⟩, ?_, ?_⟩, ?_, ?_⟩
  · intro i hi
    by_cases e : i < S.ds.length
    · show DevAt w' p ((gs ++ [g]).getD i 0) _ (if i < S.ds.length then Fs i else G)
      rw [if_pos e, hgl i e, hat i e]
      exact (h.dev i e).but hT (fun q h1 h2 => hS i e q h1 h2)
    · have : i = S.ds.length := by have : i < S.ds.length + 1 := by rw [← hN]; exact hi
                                   omega
      subst this
      show DevAt w' p ((gs ++ [g]).getD S.ds.length 0) _ (if S.ds.length < S.ds.length then _ else G)
      rw [if_neg e, hgN, hatN]
      exact hd
  · intro i hi
    by_cases e : i < S.ds.length
    · rw [hgl i e, hbl2 i e]
      exact (h.box i e).but hT (hbS i e)
    · have : i = S.ds.length := by have : i < S.ds.length + 1 := by rw [← hN]; exact hi
                                   omega
      subst this
      rw [hgN, hbN]
      exact hb
  · intro i j q hi hj hne h1 h2
    have hi' : i < S.ds.length + 1 := by rw [← hN]; exact hi
    have hj' : j < S.ds.length + 1 := by rw [← hN]; exact hj
    by_cases ei : i < S.ds.length
    · replace h1 : Fs i q := by have h := h1; simp only [if_pos ei] at h; exact h
      by_cases ej : j < S.ds.length
      · replace h2 : Fs j q := by have h := h2; simp only [if_pos ej] at h; exact h
        exact h.apart i j q ei ej hne h1 h2
      · replace h2 : G q := by have h := h2; simp only [if_neg ej] at h; exact h
        have := h.lt i q ei h1; have := (hG q h2).1; omega
    · replace h1 : G q := by have h := h1; simp only [if_neg ei] at h; exact h
      by_cases ej : j < S.ds.length
      · replace h2 : Fs j q := by have h := h2; simp only [if_pos ej] at h; exact h
        have := h.lt j q ej h2; have := (hG q h1).1; omega
      · omega
  · intro i q hi hq
    by_cases ei : i < S.ds.length
    · replace hq : Fs i q := by have h := hq; simp only [if_pos ei] at h; exact h
      exact Nat.lt_of_lt_of_le (h.lt i q ei hq) hT.size
    · replace hq : G q := by have h := hq; simp only [if_neg ei] at h; exact h
      exact (hG q hq).2.1
  · intro i q hi hq
    by_cases ei : i < S.ds.length
    · replace hq : Fs i q := by have h := hq; simp only [if_pos ei] at h; exact h
      have ho := h.other i q ei hq
      have hlt := h.lt i q ei hq
      refine ⟨ho.1, fun k hk => ?_, fun j hj => ?_⟩
      · rcases hr k hk with h1 | h1
        · exact ho.2.1 k h1
        · omega
      · have hj' : j < S.ds.length + 1 := by rw [← hN]; exact hj
        by_cases ej : j < S.ds.length
        · rw [hbl2 j ej]; exact ho.2.2 j ej
        · have : j = S.ds.length := by omega
          subst this
          rw [hbN]; omega
    · replace hq : G q := by have h := hq; simp only [if_neg ei] at h; exact h
      have hg := hG q hq
      refine ⟨by omega, hg.2.2.2, fun j hj => ?_⟩
      have hj' : j < S.ds.length + 1 := by rw [← hN]; exact hj
      by_cases ej : j < S.ds.length
      · rw [hbl2 j ej]; have := hbl j ej; omega
      · have : j = S.ds.length := by omega
        subst this
        rw [hbN]; exact hg.2.2.1
  · rintro q (hq | hq | ⟨j, hj, hq⟩ | ⟨i, hi, hq⟩)
    · exact .inl (hF q (.inl hq))
    · rcases hr q hq with h1 | h1
      · exact .inl (hF q (.inr (.inl h1)))
      · exact .inr ⟨h1, (hP.row.lt q hq).2⟩
    · have hj' : j < S.ds.length + 1 := by rw [← hN]; exact hj
      by_cases ej : j < S.ds.length
      · rw [hbl2 j ej] at hq; exact .inl (hF q (.inr (.inr (.inl ⟨j, ej, hq⟩))))
      · have : j = S.ds.length := by omega
        subst this
        rw [hbN] at hq; subst hq; exact .inr ⟨hbn, hb.lt⟩
    · by_cases ei : i < S.ds.length
      · replace hq : Fs i q := by have h := hq; simp only [if_pos ei] at h; exact h
        exact .inl (hF q (.inr (.inr (.inr ⟨i, ei, hq⟩))))
      · replace hq : G q := by have h := hq; simp only [if_neg ei] at h; exact h
        exact .inr ⟨(hG q hq).1, (hG q hq).2.1⟩
  · rintro q (hq | hq)
    · exact Nat.lt_of_lt_of_le (hl q hq) hT.size
    · exact hq.2
  · rintro q (hq | hq)
    · exact .inl hq
    · exact .inr hq.1
  · refine hT.mono (fun q hq => ?_)
    rcases hq with hq | hq
    · exact hF q (.inl hq)
    · exact hF q (.inr (.inl hq))
set_option maxRecDepth 100000 in
set_option maxHeartbeats 3200000 in
theorem new_some {w : World} {p : Nat} {gs : List Nat} {S : Sy} {F : Nat → Prop} (h : Sys w p gs S F) (hds : S.ds.length < 1000) (x : Int) :
    Calls Tryz.prog 21 #[.int .i64 x, .pointer (some ⟨p, 0, none⟩)] w (RetNew p gs (S.new x) F w) := by
  obtain ⟨bs, Fs, FA, fc, lf, h, hF, hl⟩ := h
  have H := Lib.hid h
  obtain ⟨n, hn⟩ : ∃ n, n = clampN x := ⟨_, rfl⟩
  have HMM := Lib.hid (show n = (min (max x 0) 4096).toNat from hn)
  have hnb : n ≤ 4096 := by rw [hn]; unfold clampN; omega
  obtain ⟨i0, hi, hz0, hz1, hz2⟩ := info_parts info_secW
  have HN := Lib.hid hn
  have HBD := Lib.hid (show ∀ (A : Option Addr) (W : World), (Instr.build 76 #[(0, .pointer (some ⟨p, 0, none⟩)), (1, .slice A n n)]).run Tryz.prog W = .ok (.agg (newCells A n n p (.slice none 0 0) (.map none))) W from fun A W => by kernel_rfl)
  have HBN := Lib.hid (show bs.length < 1000 by rw [h.bl]; exact hds)
  clear h hn hds
  go_enter Tryz.func21, Tryz.ntmps21
  go_upto_region 3 with fail
  go_cut [0] (fun s0 wx => s0 = .int .i64 (n : Int) ∧ wx = w)
  case first =>
    go_wp2_with fail
    all_goals (go_meet; exact ⟨congrArg (Value.int .i64) (by have := HMM.out; omega), rfl⟩)
  case rest =>
    obtain ⟨rfl, rfl⟩ := hcut
    go_wp2_with (first
      | (at_make; refine wpList_make_full _ rfl _ _ _ rfl 0 101 i0 _ 128 Tryz.underlying72 hi hz0 hz1 .i64 .i64 _ _ n rfl rfl rfl rfl ?_ ?_ ?_ ?_; (rw [hz2]; omega); (unfold maxLen; omega); (exact Nat.zero_le _); intro w1 hown hg
         have HO1 := Lib.hid hown
         have HG1 := Lib.hid (below_of_grown8 hg)
         clear hown hg)
      | (refine wpList_build rfl 76 #[(0, .tmp 12), (1, .tmp 14)] rfl (v := .agg (newCells (some ⟨wc.heap.size, 0, none⟩) n n p (.slice none 0 0) (.map none))) ?hbld ?_; case hbld => (simp only [List.map_toArray, List.map_cons, List.map_nil]; exact HBD.out _ _)))
    obtain ⟨w3, hw3⟩ : ∃ w3, w3 = (w1.alloc (.cells (newCells (some ⟨wc.heap.size, 0, none⟩) n n p (.slice none 0 0) (.map none)) 76)).alloc (.cells #[.pointer (some ⟨w1.heap.size, 0, none⟩)] 28) := ⟨_, rfl⟩
    have e3 : Blk w3 w1.heap.size (newCells (some ⟨wc.heap.size, 0, none⟩) n n p (.slice none 0 0) (.map none)) 76 := by rw [hw3]; exact (heap_alloc_old _ _ (by simp)).trans (heap_alloc_new _ _)
    have e4 : Blk w3 (w1.heap.size + 1) #[.pointer (some ⟨w1.heap.size, 0, none⟩)] 28 := by
      rw [hw3]
      have h := heap_alloc_new (w1.alloc (.cells (newCells (some ⟨wc.heap.size, 0, none⟩) n n p (.slice none 0 0) (.map none)) 76)) (.cells #[.pointer (some ⟨w1.heap.size, 0, none⟩)] 28)
      rwa [World.size_alloc] at h
    have e5 : Below w1.heap.size w1 w3 := by rw [hw3]; exact ((Below.refl _ _).alloc (Nat.le_refl _) _).alloc (by simp) _
    have e6 : w3.heap.size = w1.heap.size + 2 := by rw [hw3]; simp
    have E3 := Lib.hid e3
    have E4 := Lib.hid e4
    have E5 := Lib.hid e5
    have E6 := Lib.hid e6
    rw [← hw3]
    clear hw3 e3 e4 e5 e6
    unfold newCells at E3
    refine (empty_any _ _ _ _ _ _ _ _ E3.out).mono ?_
    rintro e2 w4 ⟨rfl, hb2, hm2, ht2⟩
    have G4 := Lib.hid hb2
    have M4 := Lib.hid hm2
    have T4 := Lib.hid ht2
    have P4 := Lib.hid ((H.out.pow.below HG1.out |>.below E5.out).but T4.out (fun e => by have h1 := H.out.pow.blk.lt; have h2 := HG1.out.size; omega) (fun k hk e => by have h1 := (H.out.pow.row.lt k hk).2; have h2 := HG1.out.size; omega))
    have B4 := Lib.hid (E4.out.but T4.out (by omega))
    have cf := P4.out.blk.cell 2
    have cb := B4.out.cell 0
    have P5 := Lib.hid (P4.out.below (show Below w4.heap.size w4 (w4.alloc (.cells #[cloV (w1.heap.size + 1)] 1)) from (Below.refl _ _).alloc (Nat.le_refl _) _))
    have R5 := Lib.hid (show Rd (w4.alloc (.cells #[cloV (w1.heap.size + 1)] 1)).heap.size (w4.alloc (.cells #[cloV (w1.heap.size + 1)] 1)) (some ⟨w4.heap.size, 0, none⟩) [cloV (w1.heap.size + 1)] from by
      have hb5 : Blk (w4.alloc (.cells #[cloV (w1.heap.size + 1)] 1)) w4.heap.size #[cloV (w1.heap.size + 1)] 1 := heap_alloc_new _ _
      intro q v hv
      exact ⟨_, rfl, hb5.lt, by rw [Addr.add_mid, hb5.cell, Nat.zero_add]; simpa using hv⟩)
    clear hb2 hm2 ht2
    go_wp2_with (at_builtin; apply Classical.byContradiction; intro hneg)
    refine hneg ?_; clear hneg
    refine wpList_appN _ rfl (.tmp 23) (.tmp 25) 77 rfl funcsElt (base := 0) (v := .slice FA bs.length fc) rfl P5.out.row (m := 1) rfl R5.out rfl (by intro v hv; rw [List.mem_singleton] at hv; subst hv; rfl) (by have := HBN.out; omega) (Nat.zero_le _) ?_
    intro A6 c6 w6 ho6 hg6 hl6
    have HO6 := Lib.hid ho6
    have T6 := Lib.hid (show But (fun q => (Value.slice FA bs.length fc).ownBlock = some q) w4 w6 from ((But.refl w4).alloc _).grown hg6 (fun q hq => .inl hq))
    have HL6 := Lib.hid (show ∀ q, (Value.slice A6 (bs.length + 1) c6).ownBlock = some q → (Value.slice FA bs.length fc).ownBlock = some q ∨ w4.heap.size ≤ q from fun q hq => by
      rcases hl6 with h1 | h1
      · exact .inl (h1.symm.trans hq)
      · rw [hq] at h1; injection h1 with h1; subst h1; exact .inr (by simp))
    have B6 := Lib.hid (P4.out.blk.but T6.out (fun hq => H.out.row_ne p hq rfl))
    have cf6 := B6.out.cell 2
    have ff6 := B6.out.free 2
    have cb6 := (B4.out.but T6.out (fun hq => by have h1 := (H.out.pow.row.lt _ hq).2; have h2 := HG1.out.size; omega)).cell 0
    clear ho6 hg6 hl6 cf cb
    go_wp2_with fail
    go_ret
    have hwc1 := HG1.out.size
    have hwc0 : wc.heap.size < w1.heap.size := (HO1.out.lt _ rfl).2
    have hw3 := E6.out
    have hw4 := T4.out.size
    have hw6 := T6.out.size
    have hp0 := H.out.pow.blk.lt
    have hrow : ∀ q, (Value.slice FA bs.length fc).ownBlock = some q → q < wc.heap.size := fun q hq => (H.out.pow.row.lt q hq).2
    have hlen : (bs ++ [w1.heap.size + 1]).length = bs.length + 1 := by simp
    have hm3 : w3.heap.size < w4.heap.size := M4.out.lt
    have T7 : But (fun q => q = p) w6 (w6.setCell ⟨p, 2, none⟩ (.slice A6 (bs.length + 1) c6)) := but_one _
    have t3 : But (fun q => q = p ∨ (Value.slice FA bs.length fc).ownBlock = some q) wc w3 := But.of_below (B := wc.heap.size) (HG1.out.trans ((E5.out).mono (by omega))) (fun k h1 h2 => by omega)
    have t4 : But (fun q => q = p ∨ (Value.slice FA bs.length fc).ownBlock = some q) wc w4 := but_step t3 T4.out (fun q hq => .inr (by omega))
    have t6 : But (fun q => q = p ∨ (Value.slice FA bs.length fc).ownBlock = some q) wc w6 := t4.trans (T6.out.mono (fun q hq => .inr hq))
    have t7 := t6.trans (T7.mono (T := fun q => q = p ∨ (Value.slice FA bs.length fc).ownBlock = some q) (fun q hq => .inl hq))
    have hnew : ∀ q, (Value.slice A6 (bs.length + 1) c6).ownBlock = some q → q ≠ p := fun q hq e => by
      subst e
      have hb6 : w6.heap[q]? = some (.cells _ 79 (0, 0)) := B6.out
      rcases HO6.out.2 with ⟨e1, _⟩ | ⟨g', cap, cur, e1, _, h2, _⟩
      · rw [e1] at hq; cases hq
      · rw [e1] at hq; injection hq with hq; replace hq : g' = q := hq; rw [hq] at h2; rw [h2] at hb6; injection hb6 with hb6; injection hb6 with _ hb6; exact absurd hb6 (by decide)
    have hg4 : ∀ {cs ty} {k : Nat}, Blk w4 k cs ty → (∀ q, (Value.slice FA bs.length fc).ownBlock = some q → k ≠ q) → k ≠ p → Blk (w6.setCell ⟨p, 2, none⟩ (.slice A6 (bs.length + 1) c6)) k cs ty := fun hb h1 h2 => (hb.but T6.out (fun hq => h1 _ hq rfl)).but T7 h2
    have G7 := hg4 G4.out (fun q hq => by have := hrow q hq; omega) (by omega)
    have B7 := hg4 B4.out (fun q hq => by have := hrow q hq; omega) (by omega)
    have M7 := imap_but (imap_but M4.out T6.out (fun hq => by have := hrow _ hq; omega)) T7 (by omega)
    have O7 : (w6.setCell ⟨p, 2, none⟩ (.slice A6 (bs.length + 1) c6)).ownsRow 0 101 128 (.slice (some ⟨wc.heap.size, 0, none⟩) n n) n (svs (List.replicate n zeroS)) := by
      have h1 := HO1.out
      rw [show (madeCells (Value.agg (bva zeroS)).cells (n * 128)).toList = svs (List.replicate n zeroS) from made_svs n] at h1
      exact Own.but (Own.but (Own.but (own_belowN h1 E5.out) T4.out (fun q hq => by injection hq with hq; replace hq : wc.heap.size = q := hq; omega)) T6.out (fun q hq hq' => by injection hq with hq; replace hq : wc.heap.size = q := hq; have := hrow q hq'; omega)) T7 (fun q hq => by injection hq with hq; replace hq : wc.heap.size = q := hq; omega)
    have hdv : DevR (w6.setCell ⟨p, 2, none⟩ (.slice A6 (bs.length + 1) c6)) p w1.heap.size (newDv n) (some ⟨wc.heap.size, 0, none⟩) n n none 0 0 w3.heap.size (.map []) :=
      ⟨G7, O7, ⟨rfl, .inl ⟨rfl, rfl⟩⟩, M7, last_empty, by show (List.replicate n zeroS).length = n; simp, rfl, ⟨fun s hs => by rw [List.eq_of_mem_replicate hs]; exact zeroS_length, fun x hx => absurd hx List.not_mem_nil, by show (0 : Int) ≤ 0; omega, by show (0 : Int) ≤ 0 ∧ (0 : Int) ≤ 128; omega, by show (List.replicate n zeroS).length ≤ 4096; simpa using hnb⟩, fun e => by cases e⟩
    have hPn : PowR (w6.setCell ⟨p, 2, none⟩ (.slice A6 (bs.length + 1) c6)) p S.p (bs ++ [w1.heap.size + 1]) A6 c6 lf :=
      ⟨by rw [hlen]; exact blk_setN8 B6.out 2 _, by rw [hlen, List.map_append]; exact Own.but HO6.out T7 (fun q hq => hnew q hq), P4.out.same, P4.out.lo, P4.out.hi, P4.out.left⟩
    have hfin := sys_grow H.out hF hl t7 hPn ⟨_, _, _, _, _, _, _, _, hdv, fun q hq => hq⟩ (fun q hq => ?hG) B7 (by omega) (fun q hq => by rw [hlen] at hq; rcases HL6.out q hq with h1 | h1; exact .inl h1; exact .inr (by omega))
    case hG =>
      have hs7 := T7.size
      have hq2 : q = w1.heap.size ∨ q = w3.heap.size ∨ q = wc.heap.size := by
        rcases hq with h1 | h1 | h1 | h1
        · exact .inl h1
        · exact .inr (.inl h1)
        · injection h1 with h1; exact .inr (.inr h1.symm)
        · cases h1
      have hwc : wc.heap.size < w1.heap.size := (HO1.out.lt _ rfl).2
      refine ⟨by omega, by omega, by omega, fun k hk => ?_⟩
      rw [hlen] at hk
      rcases HL6.out k hk with h1 | h1
      · have := hrow k h1; omega
      · omega
    refine ⟨w1.heap.size, rfl, ?_⟩
    rw [Sy.new, ← HN.out]
    exact hfin
end Go.Proofs.YtnplhagfmfggcaaGreat.Kd
/-
  The contract of the device's NewPower; of New of a nil power.
-/
namespace Go.Proofs.YtnplhagfmfggcaaGreat.Kd
open Go.RowKit Go.Maps
attribute [local go_sem ↓] Go.wp_at_zero Go.wp_at_succ
def S0 : Sy := ⟨⟨false, -1⟩, []⟩
theorem newPower_sys {w : World} : Calls Tryz.prog 20 #[] w (fun e w' => ∃ p, e = .returned (.pointer (some ⟨p, 0, none⟩)) ∧ ∃ F, Sys w' p [] S0 F ∧ (∀ q, F q → w.heap.size ≤ q) ∧ Below w.heap.size w w') := by
  refine newPower_any.mono ?_
  rintro e w' ⟨rfl, hb, hbl⟩
  refine ⟨_, rfl, fun q => q = w.heap.size, ⟨[], fun _ _ => False, none, 0, -1, ⟨⟨hb, ⟨rfl, .inl ⟨rfl, rfl⟩⟩, fun _ => rfl, by omega, by omega, by show (-1 : Int) ≤ -1; omega⟩, rfl, rfl, fun i hi => (by cases hi), fun i hi => (by cases hi), fun i j q hi => (by cases hi), fun i q hi => (by cases hi), fun i q hi => (by cases hi)⟩, ?_, ?_⟩, fun q hq => by omega, hbl⟩
  · rintro q (h | h | ⟨j, hj, _⟩ | ⟨i, hi, _⟩)
    · exact h
    · cases h
    · cases hj
    · cases hi
  · rintro q rfl
    exact hb.lt
set_option maxRecDepth 100000 in
set_option maxHeartbeats 3200000 in
theorem new_nil0 {w0 : World} (x : Int) :
    Calls Tryz.prog 21 #[.int .i64 x, .pointer none] w0 (fun e w' => ∃ p w F, Sys w p [] S0 F ∧ (∀ q, F q → w0.heap.size ≤ q) ∧ Below w0.heap.size w0 w ∧ RetNew p [] (S0.new x) F w e w') := by
  obtain ⟨n, hn⟩ : ∃ n, n = clampN x := ⟨_, rfl⟩
  have HMM := Lib.hid (show n = (min (max x 0) 4096).toNat from hn)
  have hnb : n ≤ 4096 := by rw [hn]; unfold clampN; omega
  obtain ⟨i0, hi, hz0, hz1, hz2⟩ := info_parts info_secW
  have HN := Lib.hid hn
  clear hn
  go_enter Tryz.func21, Tryz.ntmps21
  go_upto_region 3 with (
    refine newPower_sys.mono ?_
    rintro e w ⟨p, rfl, F, hs, hF0, hb0⟩
    have HS := Lib.hid hs
    have HF0 := Lib.hid hF0
    have HB0 := Lib.hid hb0
    clear hs hF0 hb0)
  obtain ⟨S, hS⟩ : ∃ S, S = S0 := ⟨_, rfl⟩
  obtain ⟨gs, hgs⟩ : ∃ gs : List Nat, gs = [] := ⟨_, rfl⟩
  have hsys : Sys w p gs S F := by rw [hS, hgs]; exact HS.out
  have HS0 := Lib.hid hS
  have HGS := Lib.hid hgs
  obtain ⟨bs, Fs, FA, fc, lf, h, hF, hl⟩ := hsys
  have H := Lib.hid h
  have HBD := Lib.hid (show ∀ (A : Option Addr) (W : World), (Instr.build 76 #[(0, .pointer (some ⟨p, 0, none⟩)), (1, .slice A n n)]).run Tryz.prog W = .ok (.agg (newCells A n n p (.slice none 0 0) (.map none))) W from fun A W => by kernel_rfl)
  have HBN := Lib.hid (show bs.length < 1000 by rw [h.bl, hS]; show 0 < 1000; omega)
  clear h hS hgs
  go_cut [0] (fun s0 wx => s0 = .int .i64 (n : Int) ∧ wx = w)
  case first =>
    go_wp2_with fail
    all_goals (go_meet; exact ⟨congrArg (Value.int .i64) (by have := HMM.out; omega), rfl⟩)
  case rest =>
    obtain ⟨rfl, rfl⟩ := hcut
    go_wp2_with (first
      | (at_make; refine wpList_make_full _ rfl _ _ _ rfl 0 101 i0 _ 128 Tryz.underlying72 hi hz0 hz1 .i64 .i64 _ _ n rfl rfl rfl rfl ?_ ?_ ?_ ?_; (rw [hz2]; omega); (unfold maxLen; omega); (exact Nat.zero_le _); intro w1 hown hg
         have HO1 := Lib.hid hown
         have HG1 := Lib.hid (below_of_grown8 hg)
         clear hown hg)
      | (refine wpList_build rfl 76 #[(0, .tmp 12), (1, .tmp 14)] rfl (v := .agg (newCells (some ⟨wc.heap.size, 0, none⟩) n n p (.slice none 0 0) (.map none))) ?hbld ?_; case hbld => (simp only [List.map_toArray, List.map_cons, List.map_nil]; exact HBD.out _ _)))
    obtain ⟨w3, hw3⟩ : ∃ w3, w3 = (w1.alloc (.cells (newCells (some ⟨wc.heap.size, 0, none⟩) n n p (.slice none 0 0) (.map none)) 76)).alloc (.cells #[.pointer (some ⟨w1.heap.size, 0, none⟩)] 28) := ⟨_, rfl⟩
    have e3 : Blk w3 w1.heap.size (newCells (some ⟨wc.heap.size, 0, none⟩) n n p (.slice none 0 0) (.map none)) 76 := by rw [hw3]; exact (heap_alloc_old _ _ (by simp)).trans (heap_alloc_new _ _)
    have e4 : Blk w3 (w1.heap.size + 1) #[.pointer (some ⟨w1.heap.size, 0, none⟩)] 28 := by
      rw [hw3]
      have h := heap_alloc_new (w1.alloc (.cells (newCells (some ⟨wc.heap.size, 0, none⟩) n n p (.slice none 0 0) (.map none)) 76)) (.cells #[.pointer (some ⟨w1.heap.size, 0, none⟩)] 28)
      rwa [World.size_alloc] at h
    have e5 : Below w1.heap.size w1 w3 := by rw [hw3]; exact ((Below.refl _ _).alloc (Nat.le_refl _) _).alloc (by simp) _
    have e6 : w3.heap.size = w1.heap.size + 2 := by rw [hw3]; simp
    have E3 := Lib.hid e3
    have E4 := Lib.hid e4
    have E5 := Lib.hid e5
    have E6 := Lib.hid e6
    rw [← hw3]
    clear hw3 e3 e4 e5 e6
    unfold newCells at E3
    refine (empty_any _ _ _ _ _ _ _ _ E3.out).mono ?_
    rintro e2 w4 ⟨rfl, hb2, hm2, ht2⟩
    have G4 := Lib.hid hb2
    have M4 := Lib.hid hm2
    have T4 := Lib.hid ht2
    have P4 := Lib.hid ((H.out.pow.below HG1.out |>.below E5.out).but T4.out (fun e => by have h1 := H.out.pow.blk.lt; have h2 := HG1.out.size; omega) (fun k hk e => by have h1 := (H.out.pow.row.lt k hk).2; have h2 := HG1.out.size; omega))
    have B4 := Lib.hid (E4.out.but T4.out (by omega))
    have cf := P4.out.blk.cell 2
    have cb := B4.out.cell 0
    have P5 := Lib.hid (P4.out.below (show Below w4.heap.size w4 (w4.alloc (.cells #[cloV (w1.heap.size + 1)] 1)) from (Below.refl _ _).alloc (Nat.le_refl _) _))
    have R5 := Lib.hid (show Rd (w4.alloc (.cells #[cloV (w1.heap.size + 1)] 1)).heap.size (w4.alloc (.cells #[cloV (w1.heap.size + 1)] 1)) (some ⟨w4.heap.size, 0, none⟩) [cloV (w1.heap.size + 1)] from by
      have hb5 : Blk (w4.alloc (.cells #[cloV (w1.heap.size + 1)] 1)) w4.heap.size #[cloV (w1.heap.size + 1)] 1 := heap_alloc_new _ _
      intro q v hv
      exact ⟨_, rfl, hb5.lt, by rw [Addr.add_mid, hb5.cell, Nat.zero_add]; simpa using hv⟩)
    clear hb2 hm2 ht2
    go_wp2_with (at_builtin; apply Classical.byContradiction; intro hneg)
    refine hneg ?_; clear hneg
    refine wpList_appN _ rfl (.tmp 23) (.tmp 25) 77 rfl funcsElt (base := 0) (v := .slice FA bs.length fc) rfl P5.out.row (m := 1) rfl R5.out rfl (by intro v hv; rw [List.mem_singleton] at hv; subst hv; rfl) (by have := HBN.out; omega) (Nat.zero_le _) ?_
    intro A6 c6 w6 ho6 hg6 hl6
    have HO6 := Lib.hid ho6
    have T6 := Lib.hid (show But (fun q => (Value.slice FA bs.length fc).ownBlock = some q) w4 w6 from ((But.refl w4).alloc _).grown hg6 (fun q hq => .inl hq))
    have HL6 := Lib.hid (show ∀ q, (Value.slice A6 (bs.length + 1) c6).ownBlock = some q → (Value.slice FA bs.length fc).ownBlock = some q ∨ w4.heap.size ≤ q from fun q hq => by
      rcases hl6 with h1 | h1
      · exact .inl (h1.symm.trans hq)
      · rw [hq] at h1; injection h1 with h1; subst h1; exact .inr (by simp))
    have B6 := Lib.hid (P4.out.blk.but T6.out (fun hq => H.out.row_ne p hq rfl))
    have cf6 := B6.out.cell 2
    have ff6 := B6.out.free 2
    have cb6 := (B4.out.but T6.out (fun hq => by have h1 := (H.out.pow.row.lt _ hq).2; have h2 := HG1.out.size; omega)).cell 0
    clear ho6 hg6 hl6 cf cb
    go_wp2_with fail
    go_ret
    have hwc1 := HG1.out.size
    have hwc0 : wc.heap.size < w1.heap.size := (HO1.out.lt _ rfl).2
    have hw3 := E6.out
    have hw4 := T4.out.size
    have hw6 := T6.out.size
    have hp0 := H.out.pow.blk.lt
    have hrow : ∀ q, (Value.slice FA bs.length fc).ownBlock = some q → q < wc.heap.size := fun q hq => (H.out.pow.row.lt q hq).2
    have hlen : (bs ++ [w1.heap.size + 1]).length = bs.length + 1 := by simp
    have hm3 : w3.heap.size < w4.heap.size := M4.out.lt
    have T7 : But (fun q => q = p) w6 (w6.setCell ⟨p, 2, none⟩ (.slice A6 (bs.length + 1) c6)) := but_one _
    have t3 : But (fun q => q = p ∨ (Value.slice FA bs.length fc).ownBlock = some q) wc w3 := But.of_below (B := wc.heap.size) (HG1.out.trans ((E5.out).mono (by omega))) (fun k h1 h2 => by omega)
    have t4 : But (fun q => q = p ∨ (Value.slice FA bs.length fc).ownBlock = some q) wc w4 := but_step t3 T4.out (fun q hq => .inr (by omega))
    have t6 : But (fun q => q = p ∨ (Value.slice FA bs.length fc).ownBlock = some q) wc w6 := t4.trans (T6.out.mono (fun q hq => .inr hq))
    have t7 := t6.trans (T7.mono (T := fun q => q = p ∨ (Value.slice FA bs.length fc).ownBlock = some q) (fun q hq => .inl hq))
    have hnew : ∀ q, (Value.slice A6 (bs.length + 1) c6).ownBlock = some q → q ≠ p := fun q hq e => by
      subst e
      have hb6 : w6.heap[q]? = some (.cells _ 79 (0, 0)) := B6.out
      rcases HO6.out.2 with ⟨e1, _⟩ | ⟨g', cap, cur, e1, _, h2, _⟩
      · rw [e1] at hq; cases hq
      · rw [e1] at hq; injection hq with hq; replace hq : g' = q := hq; rw [hq] at h2; rw [h2] at hb6; injection hb6 with hb6; injection hb6 with _ hb6; exact absurd hb6 (by decide)
    have hg4 : ∀ {cs ty} {k : Nat}, Blk w4 k cs ty → (∀ q, (Value.slice FA bs.length fc).ownBlock = some q → k ≠ q) → k ≠ p → Blk (w6.setCell ⟨p, 2, none⟩ (.slice A6 (bs.length + 1) c6)) k cs ty := fun hb h1 h2 => (hb.but T6.out (fun hq => h1 _ hq rfl)).but T7 h2
    have G7 := hg4 G4.out (fun q hq => by have := hrow q hq; omega) (by omega)
    have B7 := hg4 B4.out (fun q hq => by have := hrow q hq; omega) (by omega)
    have M7 := imap_but (imap_but M4.out T6.out (fun hq => by have := hrow _ hq; omega)) T7 (by omega)
    have O7 : (w6.setCell ⟨p, 2, none⟩ (.slice A6 (bs.length + 1) c6)).ownsRow 0 101 128 (.slice (some ⟨wc.heap.size, 0, none⟩) n n) n (svs (List.replicate n zeroS)) := by
      have h1 := HO1.out
      rw [show (madeCells (Value.agg (bva zeroS)).cells (n * 128)).toList = svs (List.replicate n zeroS) from made_svs n] at h1
      exact Own.but (Own.but (Own.but (own_belowN h1 E5.out) T4.out (fun q hq => by injection hq with hq; replace hq : wc.heap.size = q := hq; omega)) T6.out (fun q hq hq' => by injection hq with hq; replace hq : wc.heap.size = q := hq; have := hrow q hq'; omega)) T7 (fun q hq => by injection hq with hq; replace hq : wc.heap.size = q := hq; omega)
    have hdv : DevR (w6.setCell ⟨p, 2, none⟩ (.slice A6 (bs.length + 1) c6)) p w1.heap.size (newDv n) (some ⟨wc.heap.size, 0, none⟩) n n none 0 0 w3.heap.size (.map []) :=
      ⟨G7, O7, ⟨rfl, .inl ⟨rfl, rfl⟩⟩, M7, last_empty, by show (List.replicate n zeroS).length = n; simp, rfl, ⟨fun s hs => by rw [List.eq_of_mem_replicate hs]; exact zeroS_length, fun x hx => absurd hx List.not_mem_nil, by show (0 : Int) ≤ 0; omega, by show (0 : Int) ≤ 0 ∧ (0 : Int) ≤ 128; omega, by show (List.replicate n zeroS).length ≤ 4096; simpa using hnb⟩, fun e => by cases e⟩
    have hPn : PowR (w6.setCell ⟨p, 2, none⟩ (.slice A6 (bs.length + 1) c6)) p S.p (bs ++ [w1.heap.size + 1]) A6 c6 lf :=
      ⟨by rw [hlen]; exact blk_setN8 B6.out 2 _, by rw [hlen, List.map_append]; exact Own.but HO6.out T7 (fun q hq => hnew q hq), P4.out.same, P4.out.lo, P4.out.hi, P4.out.left⟩
    have hfin := sys_grow H.out hF hl t7 hPn ⟨_, _, _, _, _, _, _, _, hdv, fun q hq => hq⟩ (fun q hq => ?hG) B7 (by omega) (fun q hq => by rw [hlen] at hq; rcases HL6.out q hq with h1 | h1; exact .inl h1; exact .inr (by omega))
    case hG =>
      have hs7 := T7.size
      have hq2 : q = w1.heap.size ∨ q = w3.heap.size ∨ q = wc.heap.size := by
        rcases hq with h1 | h1 | h1 | h1
        · exact .inl h1
        · exact .inr (.inl h1)
        · injection h1 with h1; exact .inr (.inr h1.symm)
        · cases h1
      have hwc : wc.heap.size < w1.heap.size := (HO1.out.lt _ rfl).2
      refine ⟨by omega, by omega, by omega, fun k hk => ?_⟩
      rw [hlen] at hk
      rcases HL6.out k hk with h1 | h1
      · have := hrow k h1; omega
      · omega
    refine ⟨p, wc, F, HS.out, HF0.out, HB0.out, w1.heap.size, rfl, ?_⟩
    rw [HS0.out, HGS.out] at hfin
    rw [Sy.new, ← HN.out]
    exact hfin
/-- New of a nil power: one of its own. -/
theorem new_nil {w : World} (x : Int) : Calls Tryz.prog 21 #[.int .i64 x, .pointer none] w (fun e w' => ∃ p g, e = .returned (.pointer (some ⟨g, 0, none⟩)) ∧ ∃ F, Sys w' p [g] (S0.new x) F ∧ (∀ q, F q → w.heap.size ≤ q) ∧ Below w.heap.size w w') := by
  refine (new_nil0 x).mono ?_
  rintro e w' ⟨p, w1, F, _, h2, h3, g, rfl, F', h4, h5, h6⟩
  refine ⟨p, g, rfl, F', h4, fun q hq => ?_, h3.trans (h6.below (fun k hk hq => ?_) h3.size)⟩
  · rcases h5 q hq with h | h
    · exact h2 q h
    · exact Nat.le_trans h3.size h
  · have := h2 k hq; omega
end Go.Proofs.YtnplhagfmfggcaaGreat.Kd
/-
  A power's devices, all new behind some world: what each operation makes of them.
-/
namespace Go.Proofs.YtnplhagfmfggcaaGreat.Kd
open Go.RowKit Go.Maps
attribute [local go_sem ↓] Go.wp_at_zero Go.wp_at_succ
/-- The devices S lie in blocks of F, none of which was there in the world w0, and all that was there is as it was. -/
structure Live (w0 w : World) (p : Nat) (gs : List Nat) (S : Sy) (F : Nat → Prop) : Prop where
  sys : Sys w p gs S F
  new : ∀ q, F q → w0.heap.size ≤ q
  bel : Below w0.heap.size w0 w
/-- It returns v; the devices are S now. -/
def RetL (v : Value) (w0 : World) (p : Nat) (gs : List Nat) (S : Sy) (F : Nat → Prop) (w : World) (e : Ending) (w' : World) : Prop :=
  e = .returned v ∧ ∃ F', Live w0 w' p gs S F' ∧ (∀ q, F' q → F q ∨ w.heap.size ≤ q) ∧ But F w w'
section
variable {w0 w w' : World} {p : Nat} {gs : List Nat} {S S' : Sy} {F F' : Nat → Prop} {v : Value} {e : Ending}
theorem Live.step (h : Live w0 w p gs S F) (hs : Sys w' p gs S' F') (h1 : ∀ q, F' q → F q ∨ w.heap.size ≤ q) (h2 : But F w w') : Live w0 w' p gs S' F' :=
  ⟨hs, fun q hq => by
    rcases h1 q hq with h3 | h3
    · exact h.new q h3
    · exact Nat.le_trans h.bel.size h3, h.bel.trans (h2.below (fun k hk hq => by have := h.new k hq; omega) h.bel.size)⟩
theorem Live.ret (h : Live w0 w p gs S F) (hr : RetS v p gs S' F w e w') : RetL v w0 p gs S' F w e w' := by
  obtain ⟨rfl, F', h0, h1, h2⟩ := hr
  exact ⟨rfl, F', h.step h0 h1 h2, h1, h2⟩
theorem Live.below (h : Live w0 w p gs S F) (hb : Below w.heap.size w w') : Live w0 w' p gs S F :=
  ⟨h.sys.below hb, h.new, h.bel.trans (hb.mono h.bel.size)⟩
theorem Live.lt (h : Live w0 w p gs S F) : ∀ q, F q → q < w.heap.size := h.sys.lt
theorem Live.drew (h : Live w0 w p gs S F) : Live w0 w.drew p gs S F := ⟨h.sys.but (T := fun _ => False) ((But.refl _).drew) (fun _ _ h => h), h.new, h.bel.drew⟩
theorem live_write (h : Live w0 w p gs S F) (k : Nat) (hk : k < S.ds.length) (i : Int) (s : List UInt8) (hs : s.length = 128) (hm : (S.at k).wt.length < 1000000) :
    Calls Tryz.prog 73 #[.pointer (some ⟨gs.getD k 0, 0, none⟩), .int .i64 i, .agg (bva s)] w (RetL (.int .i64 (S.write k i s).1) w0 p gs (S.write k i s).2 F w) :=
  (write_any h.sys k hk i s hs hm).mono fun _ _ hr => h.ret hr
theorem live_flush (h : Live w0 w p gs S F) (k : Nat) (hk : k < S.ds.length) :
    Calls Tryz.prog 10 #[.pointer (some ⟨gs.getD k 0, 0, none⟩)] w (RetL (.int .i64 (S.flush k).1) w0 p gs (S.flush k).2 F w) :=
  (flush_any h.sys k hk).mono fun _ _ hr => h.ret hr
theorem live_tear (h : Live w0 w p gs S F) (k : Nat) (hk : k < S.ds.length) (x y : Int) :
    Calls Tryz.prog 7 #[.pointer (some ⟨gs.getD k 0, 0, none⟩), .int .i64 x, .int .i64 y] w (RetL (.tuple #[]) w0 p gs (S.put k ((S.at k).tear x y)) F w) :=
  (tear_sys h.sys k hk x y).mono fun _ _ hr => h.ret hr
theorem live_out (h : Live w0 w p gs S F) (k : Nat) (hk : k < S.ds.length) (on : Bool) :
    Calls Tryz.prog 26 #[.pointer (some ⟨gs.getD k 0, 0, none⟩), .bool on] w (RetL (.tuple #[]) w0 p gs (S.put k ((S.at k).out on)) F w) :=
  (out_sys h.sys k hk on).mono fun _ _ hr => h.ret hr
theorem live_fail (h : Live w0 w p gs S F) (x : Int) (hx : x ≤ 9223372036854775807) :
    Calls Tryz.prog 8 #[.pointer (some ⟨p, 0, none⟩), .int .i64 x] w (RetL (.tuple #[]) w0 p gs (S.fail x) F w) :=
  (fail_sys h.sys x hx).mono fun _ _ hr => h.ret hr
theorem live_restart (h : Live w0 w p gs S F) : Calls Tryz.prog 11 #[.pointer (some ⟨p, 0, none⟩)] w (RetL (.tuple #[]) w0 p gs S.restart F w) :=
  (restart_sys h.sys).mono fun _ _ hr => h.ret hr
theorem live_power : Calls Tryz.prog 20 #[] w (fun e w' => ∃ p, e = .returned (.pointer (some ⟨p, 0, none⟩)) ∧ ∃ F, Live w w' p [] S0 F) :=
  newPower_sys.mono fun _ _ ⟨p, h0, F, h1, h2, h3⟩ => ⟨p, h0, F, h1, h2, h3⟩
theorem live_new (h : Live w0 w p gs S F) (hds : S.ds.length < 1000) (x : Int) :
    Calls Tryz.prog 21 #[.int .i64 x, .pointer (some ⟨p, 0, none⟩)] w (fun e w' => ∃ g, e = .returned (.pointer (some ⟨g, 0, none⟩)) ∧ ∃ F', Live w0 w' p (gs ++ [g]) (S.new x) F' ∧ (∀ q, F' q → F q ∨ w.heap.size ≤ q) ∧ But F w w') :=
  (new_some h.sys hds x).mono fun _ _ ⟨g, h0, F', h1, h2, h3⟩ => ⟨g, h0, F', ⟨h1, fun q hq => by
    rcases h2 q hq with h4 | h4
    · exact h.new q h4
    · exact Nat.le_trans h.bel.size h4, h.bel.trans (h3.below (fun k hk hq => by have := h.new k hq; omega) h.bel.size)⟩, h2, h3⟩
theorem live_new0 (x : Int) : Calls Tryz.prog 21 #[.int .i64 x, .pointer none] w (fun e w' => ∃ p g, e = .returned (.pointer (some ⟨g, 0, none⟩)) ∧ ∃ F, Live w w' p [g] (S0.new x) F) :=
  (new_nil x).mono fun _ _ ⟨p, g, h0, F, h1, h2, h3⟩ => ⟨p, g, h0, F, h1, h2, h3⟩
/-- A row of sectors that is none of the devices'. -/
def RowS (w : World) (F : Nat → Prop) (v : Value) (n : Nat) (l : List (List UInt8)) : Prop := w.ownsRow 0 101 128 v n (svs l) ∧ ∀ q, v.ownBlock = some q → ¬ F q
theorem RowS.step {n : Nat} {l : List (List UInt8)} (h : RowS w F v n l) (h1 : ∀ q, F' q → F q ∨ w.heap.size ≤ q) (h2 : But F w w') : RowS w' F' v n l :=
  ⟨Own.but h.1 h2 h.2, fun q hq hf => by
    rcases h1 q hf with h3 | h3
    · exact h.2 q hq h3
    · have := (h.1.lt q hq).2; omega⟩
theorem RowS.below {n : Nat} {l : List (List UInt8)} (h : RowS w F v n l) (hb : Below w.heap.size w w') : RowS w' F v n l := ⟨own_belowN h.1 hb, h.2⟩
theorem RowS.rd {n c : Nat} {A : Option Addr} {l : List (List UInt8)} (h : RowS w F (.slice A n c) n l) : Rd w.heap.size w A (svs l) := Rd.ownN h.1
end
end Go.Proofs.YtnplhagfmfggcaaGreat.Kd
/-
  The laws' example, awake.
-/
namespace Go.Proofs.YtnplhagfmfggcaaGreat.Kd
open Go.RowKit Go.Maps
attribute [local go_sem ↓] Go.wp_at_zero Go.wp_at_succ
def aw1 : Sy := S0.new 4
def aw2 : Sy := (aw1.write 0 0 (secC 1)).2
def aw3 : Sy := (aw2.write 0 1 (secC 2)).2
def aw4 : Sy := aw3.put 0 ((aw3.at 0).tear 1 2)
def aw5 : Sy := aw4.fail 0
def aw6 : Sy := (aw5.flush 0).2
theorem aw_facts : (aw1.write 0 0 (secC 1)).1 = 0 ∧ (aw2.write 0 1 (secC 2)).1 = 0 ∧ (aw5.flush 0).1 = 13 ∧ aw6.p.off = true ∧ (aw6.at 0).st.length = 4 ∧ (aw6.at 0).st[0]? = some (secC 1) ∧ ((aw6.at 0).st.getD 1 []).getD 1 0 = 2 ∧ ((aw6.at 0).st.getD 1 []).getD 2 0 = 0 := by decide +kernel
theorem aw_lens : aw1.ds.length = 1 ∧ aw2.ds.length = 1 ∧ aw3.ds.length = 1 ∧ aw4.ds.length = 1 ∧ aw5.ds.length = 1 ∧ aw6.ds.length = 1 ∧ (aw1.at 0).wt.length = 0 ∧ (aw2.at 0).wt.length = 1 := by decide +kernel
end Go.Proofs.YtnplhagfmfggcaaGreat.Kd
/-
  Devices that are in, and don't lie. No program.
-/
namespace Go.Proofs.YtnplhagfmfggcaaGreat.Kd
/-- N devices of L sectors, that are in and don't lie, of which no more than m writes wait. -/
structure Fine (N L m : Nat) (S : Sy) : Prop where
  len : S.ds.length = N
  each : ∀ k, k < N → (S.at k).gone = false ∧ (S.at k).lies = false ∧ (S.at k).st.length = L ∧ (S.at k).wt.length ≤ m
variable {N L m k : Nat} {S : Sy} {i : Int} {s : List UInt8}
theorem at_map {f : Dv → Dv} {S : Sy} {P : Pw} {k : Nat} (hk : k < S.ds.length) : (Sy.mk P (S.ds.map f)).at k = f (S.at k) := by
  show (S.ds.map f).getD k noDv = f (S.ds.getD k noDv)
  rw [List.getD_eq_getElem?_getD, List.getD_eq_getElem?_getD, List.getElem?_map, List.getElem?_eq_getElem hk]; rfl
theorem Fine.count (h : Fine N L m S) : Fine N L m S.count := by
  unfold Sy.count
  split
  · refine ⟨by show (S.ds.map Dv.fall).length = N; rw [List.length_map, h.len], fun k hk => ?_⟩
    rw [at_map (by rw [h.len]; exact hk)]
    obtain ⟨h1, h2, h3, h4⟩ := h.each k hk
    unfold Dv.fall
    rw [if_neg (by rw [h1]; simp)]
    exact ⟨h1, h2, by show (fallL _ _ _ _ _).length = L; rw [fall_length]; exact h3, by show 0 ≤ m; omega⟩
  · exact ⟨h.len, h.each⟩
theorem Fine.put (h : Fine N L m S) (hk : k < N) {d : Dv} {m' : Nat} (hm : m ≤ m') (h1 : d.gone = false) (h2 : d.lies = false) (h3 : d.st.length = L) (h4 : d.wt.length ≤ m') : Fine N L m' (S.put k d) := by
  refine ⟨by rw [len_put]; exact h.len, fun j hj => ?_⟩
  rw [at_put _ (by rw [h.len]; exact hk)]
  split
  · exact ⟨h1, h2, h3, h4⟩
  · obtain ⟨a, b, c, d⟩ := h.each j hj
    exact ⟨a, b, c, by omega⟩
theorem Fine.more (h : Fine N L m S) {m' : Nat} (hm : m ≤ m') : Fine N L m' S := ⟨h.len, fun k hk => by obtain ⟨a, b, c, d⟩ := h.each k hk; exact ⟨a, b, c, by omega⟩⟩
theorem count_p : S.count.p = S.p.step := by unfold Sy.count; split <;> rfl
theorem put_p {d : Dv} : (S.put k d).p = S.p := rfl
theorem write_fine (h : Fine N L m S) (hk : k < N) (ho : S.p.off = false) (hi : 0 ≤ i ∧ i < (L : Int)) (hf : S.p.fails = false) :
    (S.write k i s).1 = 0 ∧ Fine N L (m + 1) (S.write k i s).2 ∧ (S.write k i s).2.p = S.p.step := by
  obtain ⟨h1, h2, h3, h4⟩ := h.each k hk
  have hr : refuseN S.p (S.at k) i = 0 := by unfold refuseN; rw [ho, h1, h3, if_neg (by simp), if_neg (by omega)]
  have hw : S.write k i s = (if S.p.fails then 13 else 0, (S.put k { S.at k with wt := (S.at k).wt ++ [(i.toNat, s)] }).count) := by unfold Sy.write; rw [if_neg (by rw [hr]; simp)]
  rw [hw, hf]
  exact ⟨rfl, (h.put (d := (S.at k).add i.toNat s) (m' := m + 1) hk (by omega) h1 h2 h3 (by show ((S.at k).wt ++ [(i.toNat, s)]).length ≤ m + 1; rw [List.length_append, List.length_singleton]; omega)).count, by rw [count_p]; rfl⟩
theorem write_out8 (h : Fine N L m S) (hk : k < N) (ho : S.p.off = false) (hi : i < 0 ∨ (L : Int) ≤ i) : S.write k i s = (2, S) := by
  obtain ⟨h1, h2, h3, h4⟩ := h.each k hk
  have hr : refuseN S.p (S.at k) i = 2 := by unfold refuseN; rw [ho, h1, h3, if_neg (by simp), if_pos hi]
  rw [write_no (by rw [hr]; simp), hr]
theorem write_down8 (ho : S.p.off = true) : S.write k i s = (13, S) := by
  have hr : refuseN S.p (S.at k) i = 13 := by unfold refuseN; rw [ho, if_pos (by simp)]
  rw [write_no (by rw [hr]; simp), hr]
theorem flush_down8 (ho : S.p.off = true) : S.flush k = (13, S) := flush_down (by rw [ho]; rfl)
theorem flush_fine (h : Fine N L m S) (hk : k < N) (ho : S.p.off = false) (hf : S.p.fails = false) :
    (S.flush k).1 = 0 ∧ Fine N L m (S.flush k).2 ∧ (S.flush k).2.p = S.p.step := by
  obtain ⟨h1, h2, h3, h4⟩ := h.each k hk
  have hw : S.flush k = (0, S.count.put k { S.at k with st := flushL (S.at k).st (S.at k).wt, wt := [] }) := by
    unfold Sy.flush; rw [if_neg (by rw [ho, h1]; simp), if_neg (by rw [hf]; simp), if_neg (by rw [h2]; simp)]
  rw [hw]
  exact ⟨rfl, h.count.put hk (Nat.le_refl _) h1 h2 (by show (flushL _ _).length = L; rw [flush_length]; exact h3) (by show 0 ≤ m; omega), by show S.count.p = _; rw [count_p]⟩
theorem flush_fails8 (h : Fine N L m S) (hk : k < N) (ho : S.p.off = false) (hf : S.p.fails = true) : S.flush k = (13, S.count) :=
  flush_fails (by rw [ho, (h.each k hk).1]; simp) hf
/-- Power that fails behind so many operations. -/
theorem step_more {P : Pw} {n : Nat} (h : P.left = (n : Int) + 1) : P.fails = false ∧ P.step.off = false ∧ P.step.left = (n : Int) := by
  unfold Pw.fails Pw.step
  rw [h, if_neg (by omega)]
  exact ⟨by rw [decide_eq_false (show ¬ ((n : Int) + 1 - 1 < 0) by omega)]; simp, by show decide _ = false; exact decide_eq_false (by omega), by show (n : Int) + 1 - 1 = n; omega⟩
theorem step_none {P : Pw} (h : P.left = 0) : P.fails = true ∧ P.step.off = true := by
  unfold Pw.fails Pw.step
  rw [h]
  exact ⟨rfl, rfl⟩
theorem step_never {P : Pw} (h : P.left = -1) : P.fails = false ∧ P.step = P := by
  unfold Pw.fails Pw.step
  rw [h]
  exact ⟨rfl, rfl⟩
theorem Fine.new (h : Fine N L m S) (x : Int) (hx : clampN x = L) : Fine (N + 1) L m (S.new x) := by
  have hlen : (S.new x).ds.length = N + 1 := by show (S.ds ++ [_]).length = _; rw [List.length_append, h.len]; rfl
  refine ⟨hlen, fun k hk => ?_⟩
  by_cases hkn : k < N
  · rw [show (S.new x).at k = S.at k from getD_left8 (by rw [h.len]; exact hkn)]
    exact h.each k hkn
  · have : k = S.ds.length := by rw [h.len]; omega
    subst this
    rw [show (S.new x).at S.ds.length = newDv (clampN x) from getD_last8]
    exact ⟨rfl, rfl, by show (List.replicate _ _).length = L; rw [List.length_replicate]; exact hx, by show 0 ≤ m; omega⟩
theorem fine_zero {L : Nat} : Fine 0 L 0 S0 := ⟨rfl, fun k hk => by omega⟩
theorem Fine.restart (h : Fine N L m S) : Fine N L m S.restart := ⟨h.len, h.each⟩
theorem Fine.fail (h : Fine N L m S) (x : Int) : Fine N L m (S.fail x) := ⟨h.len, h.each⟩
theorem failN_nat (n : Nat) : failN (n : Int) = n := by unfold failN; omega
end Go.Proofs.YtnplhagfmfggcaaGreat.Kd
/-
  Rot of live devices; the reference's Same over rows; what a nil device tells of Read, Write, Flush.
-/
namespace Go.Proofs.YtnplhagfmfggcaaGreat.Kd
open Go.RowKit Go.Maps
attribute [local go_sem ↓] Go.wp_at_zero Go.wp_at_succ
section
variable {w0 w w' : World} {p : Nat} {gs : List Nat} {S S' : Sy} {F F' : Nat → Prop} {v : Value} {e : Ending}
/-- A box of a sector that is none of the devices'. -/
def BoxS (w : World) (F : Nat → Prop) (q : Nat) (l : List UInt8) : Prop := Blk w q (bva l) 101 ∧ ¬ F q
theorem BoxS.step {q : Nat} {l : List UInt8} (h : BoxS w F q l) (h1 : ∀ q, F' q → F q ∨ w.heap.size ≤ q) (h2 : But F w w') : BoxS w' F' q l :=
  ⟨h.1.but h2 h.2, fun hf => by
    rcases h1 q hf with h3 | h3
    · exact h.2 h3
    · have := h.1.lt; omega⟩
theorem BoxS.below {q : Nat} {l : List UInt8} (h : BoxS w F q l) (hb : Below w.heap.size w w') : BoxS w' F q l := ⟨h.1.below hb, h.2⟩
theorem same_refl (xs : List (List UInt8)) : sameN xs xs = 1 := by rw [sameN, if_pos rfl]
end
set_option maxRecDepth 100000 in
set_option maxHeartbeats 3200000 in
theorem dread_nil (w : World) (i : Int) : Calls Tryz.prog 64 #[.pointer none, .int .i64 i] w (RetB (.tuple #[.agg (bva zeroS), .int .i64 1]) w) := by
  obtain ⟨z, hz0⟩ : ∃ z : List UInt8, z = zeroS := ⟨_, rfl⟩
  rw [← hz0]
  have hz : ∀ W, (zeroValue 101).run Tryz.prog W = .ok (.agg (bva z)) W := fun _ => by rw [hz0]; kernel_rfl
  have HBZ := Lib.hid (show ∀ W, (Instr.build 101 #[]).run Tryz.prog W = .ok (.agg (bva z)) W from fun _ => by rw [hz0]; kernel_rfl)
  have HI : Hid ((Tryz.prog.info? 101).map (·.size) = some (bva z).size) := by rw [bva_size, hz0, zeroS_length]; exact info_sec
  have R0 := Lib.hid (show Blk (w.alloc (.cells (bva z) 101)) w.heap.size (bva z) 101 from heap_alloc_new _ _)
  clear hz0
  go_enter Tryz.func64, Tryz.ntmps64
  go_wp2_with (first
    | (refine (reaches_nil i).mono ?_; rintro e w' ⟨rfl, rfl⟩)
    | (refine wpList_build rfl 101 #[] rfl (v := .agg (bva z)) ?hbld ?_; case hbld => exact HBZ.out _)
    | (refine wpList_store_row rfl 101 (.tmp 4) (.tmp 14) rfl w.heap.size (bva z) rfl rfl 101 (bva z) R0.out HI.out (by rfl) (bva_one _) ?_))
  exact bodyPost_ret (v := .tuple #[.agg (bva z), .int .i64 1]) (results_ct8 Tryz.results64 _ _ w.heap.size 101 (bva z) _ rfl (setRow_heap _ _ _ _ _ _ R0.out) Tryz.underlying101 rfl HI.out) rfl ⟨rfl, below_setRow ((Below.refl _ _).alloc (Nat.le_refl _) _) (Nat.le_refl _) _⟩
theorem dwrite_nil (w : World) (i : Int) (s : List UInt8) : Calls Tryz.prog 73 #[.pointer none, .int .i64 i, .agg (bva s)] w (RetB (.int .i64 1) w) := by
  go_enter Tryz.func73, Tryz.ntmps73
  go_wp2_with (first | (refine (reaches_nil i).mono ?_; rintro e w' ⟨rfl, rfl⟩))
  go_ret
  exact ⟨rfl, (Below.refl _ _).alloc (Nat.le_refl _) _⟩
theorem dflush_nil (w : World) : Calls Tryz.prog 10 #[.pointer none] w (Ret0 (.int .i64 1) w) := by
  go_enter Tryz.func10, Tryz.ntmps10
  go_wp2_with (first | (refine runs_nil.mono ?_; rintro e w' ⟨rfl, rfl⟩))
  go_ret
  exact ⟨rfl, rfl⟩
end Go.Proofs.YtnplhagfmfggcaaGreat.Kd
/-
  An operation under a guard that holds: a whole array's load, a build.
-/
namespace Go.Proofs.YtnplhagfmfggcaaGreat.Kd
open Go.RowKit Go.Maps
theorem exec_build8 {P : Program} {w : World} {r : Operand → Value} {o : Oper} {v : Value} (t : TypeId) (parts : Array (Nat × Operand)) (ho : o.op = .build t parts) (h : (Instr.build t (parts.map fun (i, x) => (i, r x))).run P w = .ok v w) :
    (execOp r o).run P w = .ok (.value v) w := by
  unfold execOp
  simp only [ho, Sem.run_bind, h, Result.andThen_ok, Sem.run_pure]
/-- One device on power of its own, of n sectors: as it begins; a write of its first sector waits; that is flushed. -/
def ap0 (n : Nat) : Sy := ⟨⟨false, -1⟩, [newDv n]⟩
def ap1 (n : Nat) (s : List UInt8) : Sy := ⟨⟨false, -1⟩, [⟨List.replicate n zeroS, [(0, s)], 0, 0, false, false⟩]⟩
def ap2 (n : Nat) (s : List UInt8) : Sy := ⟨⟨false, -1⟩, [⟨(List.replicate n zeroS).set 0 s, [], 0, 0, false, false⟩]⟩
theorem ap_w {n : Nat} {s : List UInt8} (hn : 0 < n) : (ap0 n).write 0 0 s = (0, ap1 n s) := by
  have hr : refuseN (ap0 n).p ((ap0 n).at 0) ((0 : Nat) : Int) = 0 := by
    show (if (false || false) = true then (13 : Int) else if ((0 : Nat) : Int) < 0 ∨ ((List.replicate n zeroS).length : Int) ≤ ((0 : Nat) : Int) then 2 else 0) = 0
    rw [if_neg (by simp), if_neg (by rw [List.length_replicate]; omega)]
  exact write_yes (S := ap0 n) (k := 0) (n := 0) hr
theorem ap_f {n : Nat} {s : List UInt8} : (ap1 n s).flush 0 = (0, ap2 n s) := rfl
theorem ap_len0 (n : Nat) : ((ap0 n).at 0).st.length = n := by show (List.replicate n zeroS).length = n; rw [List.length_replicate]
theorem ap_len2 (n : Nat) (s : List UInt8) : ((ap2 n s).at 0).st.length = n := by show ((List.replicate n zeroS).set 0 s).length = n; rw [List.length_set, List.length_replicate]
theorem ap_r {n : Nat} {s : List UInt8} (hn : 0 < n) : readV (ap2 n s).p ((ap2 n s).at 0) 0 = .tuple #[.agg (bva s), .int .i64 0] := by
  have hr : refuseN (ap2 n s).p ((ap2 n s).at 0) 0 = 0 := by
    show (if (false || false) = true then (13 : Int) else if (0 : Int) < 0 ∨ (((List.replicate n zeroS).set 0 s).length : Int) ≤ 0 then 2 else 0) = 0
    rw [if_neg (by simp), if_neg (by rw [List.length_set, List.length_replicate]; omega)]
  rw [readV_yes hr]
  have : ((ap2 n s).at 0).now (0 : Int).toNat = s := by
    show ((List.replicate n zeroS).set 0 s).getD 0 zeroS = s
    rw [set_getD _ _ _ _ (by rw [List.length_replicate]; exact hn), if_pos rfl]
  rw [this]
/-- Memory that is none of the devices', and new, changes. -/
theorem Live.but8 {w0 w w' : World} {p : Nat} {gs : List Nat} {S : Sy} {F T : Nat → Prop} (h : Live w0 w p gs S F) (hb : But T w w') (h1 : ∀ q, F q → T q → False) (h2 : ∀ q, T q → w0.heap.size ≤ q) : Live w0 w' p gs S F :=
  ⟨h.sys.but hb h1, h.new, h.bel.trans (hb.below (fun k hk hq => by have := h2 k hq; omega) h.bel.size)⟩
end Go.Proofs.YtnplhagfmfggcaaGreat.Kd
/-
  The contracts of there, flush, reads, right: what a mirror asks of one of its devices.
-/
namespace Go.Proofs.YtnplhagfmfggcaaGreat.Mi
open Go.RowKit Kd
attribute [local go_sem ↓] Go.wp_at_zero Go.wp_at_succ
section
variable {C : Duo} {G : Gd} {g : Nat} {w : World} {s : Mr C} {A B : Option Addr} {n c m e : Nat} {F1 F : Nat → Prop}
/-- Is the device there? -/
def Duo.there (C : Duo) (d : C.L.St) (i : Nat) : Bool := (C.ptr i).isSome && ((C.rd d i 0).1 != 13)
theorem two {i : Nat} (h : i < 2) : i = 0 ∨ i = 1 := by omega
theorem MrR.ptr_cell (h : MrR C G g w s A n c B m e F1) {i : Nat} (hi : i < 2) : w.cell? ⟨g, i, none⟩ = some (.pointer (C.ptr i)) := by
  rcases two hi with rfl | rfl
  · exact h.blk.cell 0
  · exact h.blk.cell 1
set_option maxRecDepth 100000 in
set_option maxHeartbeats 3200000 in
theorem there_r (h : MrR C G g w s A n c B m e F1) {i : Nat} (hi : i < 2) :
    Calls Tryz.prog 39 #[.pointer (some ⟨g, 0, none⟩), .int .i64 i] w (RetB (.bool (C.there s.d i)) w) := by
  have H := Lib.hid h
  have c0 := h.ptr_cell hi
  have HI := Lib.hid hi
  have i0 : (0 : Int) ≤ (i : Int) := by omega
  have i1 : (i : Int) < 2 := by omega
  obtain ⟨z, hz0⟩ : ∃ z : List UInt8, z = zeroS := ⟨_, rfl⟩
  have hz : ∀ W, (zeroValue 101).run Tryz.prog W = .ok (.agg (bva z)) W := fun _ => by rw [hz0]; kernel_rfl
  have HZ3 := Lib.hid (show z.length = 128 by rw [hz0]; exact zeroS_length)
  clear hz0
  obtain ⟨y, hy⟩ : ∃ y, y = (C.rd s.d i 0).2 := ⟨_, rfl⟩
  have HY3 := Lib.hid (show y.length = 128 by rw [hy]; exact C.rd_len H.out.d HI.out)
  have HIY : Hid ((Tryz.prog.info? 101).map (·.size) = some (bva y).size) := by rw [bva_size, HY3.out]; exact info_sec
  obtain ⟨r, hr⟩ : ∃ r, r = (C.rd s.d i 0).1 := ⟨_, rfl⟩
  have hc := C.crd H.out.d HI.out 0
  rw [← hr, ← hy] at hc
  have HC := Lib.hid hc
  have HT := Lib.hid (show C.there s.d i = ((C.ptr i).isSome && (r != 13)) by rw [Duo.there, hr])
  clear hc hr hy
  obtain ⟨P, hP⟩ : ∃ P, P = C.ptr i := ⟨_, rfl⟩
  rw [← hP] at c0 HC HT
  rw [HT.out]
  have HB := Lib.hid h
  clear h hP hi HT H
  go_enter Tryz.func39, Tryz.ntmps39
  go_wp2_with fail
  refine HC.out.mono ?_
  rintro e w1 ⟨rfl, bw⟩
  have BW := Lib.hid bw
  clear bw
  go_wp2_with (show wpList _ _ _ ({ dst := none, op := .store 101 (.tmp 5) (.tmp 15), type := _, pos := _, after := _, guard := _ } :: _) _ _; apply Classical.byContradiction; intro hneg)
  refine hneg ?_
  clear hneg
  refine wpList_store_row rfl 101 (.tmp 5) (.tmp 15) rfl w1.heap.size (bva y) rfl rfl 101 (bva z) (heap_alloc_new _ _) HIY.out (by rw [bva_size, bva_size, HY3.out, HZ3.out]) (bva_one _) ?_
  obtain ⟨w2, hw2⟩ : ∃ w2, w2 = (w1.alloc (.cells (bva z) 101)).setRow w1.heap.size (bva y) := ⟨_, rfl⟩
  have hb2 : Below w1.heap.size w1 w2 := by rw [hw2]; exact below_setRow ((Below.refl _ _).alloc (Nat.le_refl _) _) (Nat.le_refl _) _
  have hbw : Below w.heap.size w w2 := BW.out.trans (hb2.mono BW.out.size)
  have BW2 := Lib.hid hbw
  have c1 : w2.cell? ⟨g, i, none⟩ = some (.pointer P) := by rw [hbw.cell HB.out.blk.lt]; exact c0
  rw [← hw2]
  clear hw2 hb2 hbw c0 BW
  rcases P with _ | P
  · go_wp2_with fail
    go_ret
    exact ⟨by rfl, BW2.out⟩
  · by_cases hr : r = 13
    · go_wp2_with fail
      go_ret
      exact ⟨by subst hr; rfl, BW2.out⟩
    · go_wp2_with fail
      go_ret
      exact ⟨by rfl, BW2.out⟩
theorem there_any (h : (ML C G g).At w s F) {i : Nat} (hi : i < 2) : Calls Tryz.prog 39 #[.pointer (some ⟨g, 0, none⟩), .int .i64 i] w (RetB (.bool (C.there s.d i)) w) := by
  obtain ⟨A, n, c, B, m, e, F1, h, _⟩ := h
  exact there_r h hi
theorem mflush_any (h : (ML C G g).At w s F) {i : Nat} (hi : i < 2) :
    Calls Tryz.prog 59 #[.pointer (some ⟨g, 0, none⟩), .int .i64 i] w (RetA (ML C G g) (.bool ((C.fl s.d i).1 == 0)) ⟨(C.fl s.d i).2, s.a, s.b⟩ F w) := by
  obtain ⟨A, n, c, B, m, e, F1, h, h1, h2⟩ := h
  have H := Lib.hid h
  have H1 := Lib.hid h1
  have H2 := Lib.hid h2
  have c0 := h.ptr_cell hi
  have HI := Lib.hid hi
  have i0 : (0 : Int) ≤ (i : Int) := by omega
  have i1 : (i : Int) < 2 := by omega
  obtain ⟨r, hr⟩ : ∃ r, r = C.fl s.d i := ⟨_, rfl⟩
  have hc := C.cfl H.out.d HI.out
  rw [← hr] at hc
  have HC := Lib.hid hc
  rw [← hr]
  clear hc hr h h1 h2
  obtain ⟨P, hP⟩ : ∃ P, P = C.ptr i := ⟨_, rfl⟩
  rw [← hP] at c0 HC
  clear hP hi
  go_enter Tryz.func59, Tryz.ntmps59
  go_wp2_with fail
  refine HC.out.mono ?_
  rintro e w1 ⟨rfl, F2, hm⟩
  have HM := Lib.hid hm
  clear hm c0
  go_wp2_with fail
  go_ret
  exact ⟨rfl, _, H.out.dev H1.out H2.out HM.out⟩
end
end Go.Proofs.YtnplhagfmfggcaaGreat.Mi
/-
  The contracts of reads and right: what a mirror reads of one device.
-/
namespace Go.Proofs.YtnplhagfmfggcaaGreat.Mi
open Go.RowKit Kd
attribute [local go_sem ↓] Go.wp_at_zero Go.wp_at_succ
section
variable {C : Duo} {G : Gd} {g : Nat} {w : World} {s : Mr C} {A B : Option Addr} {n c m e : Nat} {F1 F : Nat → Prop}
/-- Does the device read what may stand? -/
def rdOk (C : Duo) (G : Gd) (d : C.L.St) (i : Nat) (n : Int) : Bool := ((C.rd d i n).1 == 0) && G.f n (C.rd d i n).2
def rdVal (C : Duo) (G : Gd) (d : C.L.St) (i : Nat) (n : Int) : List UInt8 := if rdOk C G d i n then (C.rd d i n).2 else zeroS
theorem MrR.good_cell (h : MrR C G g w s A n c B m e F1) : w.cell? ⟨g, 4, none⟩ = some G.v := h.blk.cell 4
set_option maxRecDepth 100000 in
set_option maxHeartbeats 6400000 in
theorem reads_r {N : Nat} (h : MrR C G g w s A N c B m e F1) {i : Nat} (hi : i < 2) (n : Int) :
    Calls Tryz.prog 91 #[.pointer (some ⟨g, 0, none⟩), .int .i64 i, .int .i64 n] w (RetB (.tuple #[.agg (bva (rdVal C G s.d i n)), .bool (rdOk C G s.d i n)]) w) := by
  have c0 := h.ptr_cell hi
  have c4 := h.good_cell
  have HI := Lib.hid hi
  have i0 : (0 : Int) ≤ (i : Int) := by omega
  have i1 : (i : Int) < 2 := by omega
  obtain ⟨z, hz0⟩ : ∃ z : List UInt8, z = zeroS := ⟨_, rfl⟩
  have hz : ∀ W, (zeroValue 101).run Tryz.prog W = .ok (.agg (bva z)) W := fun _ => by rw [hz0]; kernel_rfl
  have HBZ := Lib.hid (show ∀ W, (Instr.build 101 #[]).run Tryz.prog W = .ok (.agg (bva z)) W from fun _ => by rw [hz0]; kernel_rfl)
  have HZ3 := Lib.hid (show z.length = 128 by rw [hz0]; exact zeroS_length)
  have HIZ : Hid ((Tryz.prog.info? 101).map (·.size) = some (bva z).size) := by rw [bva_size, HZ3.out]; exact info_sec
  obtain ⟨y, hy⟩ : ∃ y, y = (C.rd s.d i n).2 := ⟨_, rfl⟩
  have HY3 := Lib.hid (show y.length = 128 by rw [hy]; exact C.rd_len h.d HI.out)
  have HIY : Hid ((Tryz.prog.info? 101).map (·.size) = some (bva y).size) := by rw [bva_size, HY3.out]; exact info_sec
  obtain ⟨r, hr⟩ : ∃ r, r = (C.rd s.d i n).1 := ⟨_, rfl⟩
  have hw1 : Below w.heap.size w (w.alloc (.cells (bva z) 101)) := (Below.refl _ _).alloc (Nat.le_refl _) _
  have hc := C.crd (C.L.below h.d hw1) HI.out n
  rw [← hr, ← hy] at hc
  have HC := Lib.hid hc
  have HO := Lib.hid (show rdOk C G s.d i n = ((r == 0) && G.f n y) by rw [rdOk, hr, hy])
  have HV := Lib.hid (show rdVal C G s.d i n = if (r == 0) && G.f n y then y else z by rw [rdVal, HO.out, ← hy, hz0])
  have cp : (w.alloc (.cells (bva z) 101)).cell? ⟨g, i, none⟩ = some (.pointer (C.ptr i)) := by rw [hw1.cell h.blk.lt]; exact c0
  clear hc hr hy hz0 c0
  obtain ⟨P, hP⟩ : ∃ P, P = C.ptr i := ⟨_, rfl⟩
  rw [← hP] at cp HC
  obtain ⟨RV, hRV⟩ : ∃ RV, RV = Value.tuple #[.agg (bva (if (r == 0) && G.f n y then y else z)), .bool ((r == 0) && G.f n y)] := ⟨_, rfl⟩
  have HRV := Lib.hid hRV
  rw [HO.out, HV.out, ← hRV]
  clear hRV
  have HB := Lib.hid h
  have C4 := Lib.hid c4
  clear h hP hi HO HV hw1 c4
  go_enter Tryz.func91, Tryz.ntmps91
  go_wp2_with fail
  refine HC.out.mono ?_
  rintro e w1 ⟨rfl, bw⟩
  rw [World.size_alloc] at bw
  have hb6 : Blk w1 w.heap.size (bva z) 101 := Blk.below (heap_alloc_new _ _) (by rw [World.size_alloc]; exact bw)
  have BW := Lib.hid (show Below w.heap.size w w1 from ((Below.refl _ _).alloc (Nat.le_refl _) _).trans (bw.mono (Nat.le_succ _)))
  have HB6 := Lib.hid hb6
  clear bw hb6 cp
  go_wp2_with (show wpList _ _ _ ({ dst := none, op := .store 101 (.tmp 8) (.tmp 19), type := _, pos := _, after := _, guard := _ } :: _) _ _; apply Classical.byContradiction; intro hneg)
  refine hneg ?_
  clear hneg
  refine wpList_store_row rfl 101 (.tmp 8) (.tmp 19) rfl w1.heap.size (bva y) rfl rfl 101 (bva z) (heap_alloc_new _ _) HIY.out (by rw [bva_size, bva_size, HY3.out, HZ3.out]) (bva_one _) ?_
  obtain ⟨w2, hw2⟩ : ∃ w2, w2 = (w1.alloc (.cells (bva z) 101)).setRow w1.heap.size (bva y) := ⟨_, rfl⟩
  have hb2 : Below w1.heap.size w1 w2 := by rw [hw2]; exact below_setRow ((Below.refl _ _).alloc (Nat.le_refl _) _) (Nat.le_refl _) _
  have HBX := Lib.hid (show Blk w2 w1.heap.size (bva y) 101 from by rw [hw2]; exact setRow_heap _ _ _ _ _ _ (heap_alloc_new _ _))
  have BW2 := Lib.hid (BW.out.trans (hb2.mono BW.out.size))
  have HB62 := Lib.hid (HB6.out.below hb2)
  have HG4 := Lib.hid (show ∀ w', Below w2.heap.size w2 w' → w'.cell? ⟨g, 4, none⟩ = some G.v from fun w' hb => by
    rw [hb.cell (Nat.lt_of_lt_of_le HB.out.blk.lt BW2.out.size), BW2.out.cell HB.out.blk.lt]; exact C4.out)
  rw [← hw2]
  clear hw2 hb2 BW HB6
  by_cases hr0 : r = 0
  · subst hr0
    rcases hk : G.k with _ | kk
    · have hgv : G.v = .nilFunc := by rw [Gd.v, hk]
      have HEND := Lib.hid (show (Ending.returned (Value.tuple #[.agg (bva z), .bool false])) = Ending.returned RV from by rw [HRV.out, G.none_ hk n y]; rfl)
      rw [hgv] at HG4
      have HQ := Lib.hid (show ∀ W, (binOp .eql 46 .nilFunc .nilFunc).run Tryz.prog W = .ok (.bool true) W from fun _ => by kernel_rfl)
      clear hk hgv
      go_wp2_with fail
      refine wp_region_held_drew (S := fun w' => Below w2.heap.size w2 w') (by kernel_rfl) (Below.refl _ _).drew (fun hh => ?_)
      have HH := Lib.hid hh
      clear hh
      refine wpAnyH_take (i := 0) (v := ?vB0) rfl (by kernel_rfl) (by kernel_rfl) (by kernel_rfl) (fun _ _ _ h => h) (Or.inl ⟨by rfl, fun w' _ => ?yB0⟩) HH.out ?_
      case yB0 => (go_simp; try with_reducible rfl)
      refine wpAnyH_take (i := 1) (v := ?vB1) rfl (by kernel_rfl) (by kernel_rfl) (by kernel_rfl) (fun _ _ _ h => h) (Or.inl ⟨by rfl, fun w' _ => ?yB1⟩) HH.out ?_
      case yB1 => (go_simp; try with_reducible rfl)
      try simp only [List.getElem_toArray, List.getElem_cons_succ, List.getElem_cons_zero, Act.put, List.setIfInBounds_toArray, List.set_cons_zero, List.set_cons_succ]
      refine wpAnyH_take (i := 2) (v := ?vB2) rfl (by kernel_rfl) (by kernel_rfl) (by kernel_rfl) (fun _ _ _ h => h) (Or.inl ⟨by rfl, fun w' _ => ?yB2⟩) HH.out ?_
      case yB2 => (go_simp; try with_reducible rfl)
      try simp only [List.getElem_toArray, List.getElem_cons_succ, List.getElem_cons_zero, Act.put, List.setIfInBounds_toArray, List.set_cons_zero, List.set_cons_succ]
      refine wpAnyH_take (i := 3) (v := ?vB3) rfl (by kernel_rfl) (by kernel_rfl) (by kernel_rfl) (fun _ _ _ h => h) (Or.inl ⟨by rfl, fun w' _ => ?yB3⟩) HH.out ?_
      case yB3 => (go_simp; try with_reducible rfl)
      try simp only [List.getElem_toArray, List.getElem_cons_succ, List.getElem_cons_zero, Act.put, List.setIfInBounds_toArray, List.set_cons_zero, List.set_cons_succ]
      refine wpAnyH_take (i := 4) (v := ?vB4) rfl (by kernel_rfl) (by kernel_rfl) (by kernel_rfl) (fun _ _ _ h => h) (Or.inl ⟨by rfl, fun w' _ => ?yB4⟩) HH.out ?_
      case yB4 => (go_simp; try with_reducible rfl)
      try simp only [List.getElem_toArray, List.getElem_cons_succ, List.getElem_cons_zero, Act.put, List.setIfInBounds_toArray, List.set_cons_zero, List.set_cons_succ]
      refine wpAnyH_take (i := 5) (v := ?vB5) rfl (by kernel_rfl) (by kernel_rfl) (by kernel_rfl) (fun _ _ _ h => h) (Or.inl ⟨by rfl, fun w' _ => ?yB5⟩) HH.out ?_
      case yB5 => (go_simp; try with_reducible rfl)
      refine wpAnyH_take (i := 6) (v := .nilFunc) rfl (by kernel_rfl) (by kernel_rfl) (by kernel_rfl) (fun _ _ _ h => h) (Or.inl ⟨by rfl, fun w' hw' => ?yB6⟩) HH.out ?_
      case yB6 => (have hc := HG4.out w' hw'; go_simp; try with_reducible rfl)
      refine wpAnyH_take (i := 7) (v := .bool true) rfl (by kernel_rfl) (by kernel_rfl) (by kernel_rfl) (fun _ _ _ h => h) (Or.inl ⟨by rfl, fun w' hw' => ?yB7⟩) HH.out ?_
      case yB7 => (go_simp; rw [HQ.out]; rfl)
      try simp only [List.getElem_toArray, List.getElem_cons_succ, List.getElem_cons_zero, Act.put, List.setIfInBounds_toArray, List.set_cons_zero, List.set_cons_succ]
      refine wpAnyH_take (i := 8) (v := ?vB8) rfl (by kernel_rfl) (by kernel_rfl) (by kernel_rfl) (fun _ _ _ h => h) (Or.inl ⟨by rfl, fun w' _ => ?yB8⟩) HH.out ?_
      case yB8 => (go_simp; try with_reducible rfl)
      refine wpAnyH_take (i := 9) (v := ?vB9) rfl (by kernel_rfl) (by kernel_rfl) (by kernel_rfl) (fun _ _ _ h => h) (Or.inl ⟨by rfl, fun w' _ => ?yB9⟩) HH.out ?_
      case yB9 => (go_simp; try with_reducible rfl)
      refine wpAnyH_take (i := 10) (v := undef) rfl (by kernel_rfl) (by kernel_rfl) (by kernel_rfl) (fun _ _ _ h => h) (Or.inr ⟨by rfl, rfl⟩) HH.out ?_
      try simp only [List.getElem_toArray, List.getElem_cons_succ, List.getElem_cons_zero, Act.put, List.setIfInBounds_toArray, List.set_cons_zero, List.set_cons_succ]
      refine wpAnyH_take (i := 11) (v := undef) rfl (by kernel_rfl) (by kernel_rfl) (by kernel_rfl) (fun _ _ _ h => h) (Or.inr ⟨by rfl, rfl⟩) HH.out ?_
      refine wpAnyH_take (i := 12) (v := undef) rfl (by kernel_rfl) (by kernel_rfl) (by kernel_rfl) (fun _ _ _ h => h) (Or.inr ⟨by rfl, rfl⟩) HH.out ?_
      refine wpAnyH_take (i := 13) (v := undef) rfl (by kernel_rfl) (by kernel_rfl) (by kernel_rfl) (fun _ _ _ h => h) (Or.inr ⟨by rfl, rfl⟩) HH.out ?_
      try simp only [List.getElem_toArray, List.getElem_cons_succ, List.getElem_cons_zero, Act.put, List.setIfInBounds_toArray, List.set_cons_zero, List.set_cons_succ]
      refine wpAnyH_take (i := 14) (v := undef) rfl (by kernel_rfl) (by kernel_rfl) (by kernel_rfl) (fun _ _ _ h => h) (Or.inr ⟨by rfl, rfl⟩) HH.out ?_
      refine wpAnyH_take (i := 15) (v := undef) rfl (by kernel_rfl) (by kernel_rfl) (by kernel_rfl) (fun _ _ _ h => h) (Or.inr ⟨by rfl, rfl⟩) HH.out ?_
      refine wpAnyH_take (i := 16) (v := undef) rfl (by kernel_rfl) (by kernel_rfl) (by kernel_rfl) (fun _ _ _ h => h) (Or.inr ⟨by rfl, rfl⟩) HH.out ?_
      try simp only [List.getElem_toArray, List.getElem_cons_succ, List.getElem_cons_zero, Act.put, List.setIfInBounds_toArray, List.set_cons_zero, List.set_cons_succ]
      refine wpAnyH_take (i := 17) (v := undef) rfl (by kernel_rfl) (by kernel_rfl) (by kernel_rfl) (fun _ _ _ h => h) (Or.inr ⟨by rfl, rfl⟩) HH.out ?_
      refine wpAnyH_take (i := 18) (v := ?vB18) rfl (by kernel_rfl) (by kernel_rfl) (by kernel_rfl) (fun _ _ _ h => h) (Or.inl ⟨by rfl, fun w' _ => ?yB18⟩) HH.out ?_
      case yB18 => (go_simp; try with_reducible rfl)
      try simp only [List.getElem_toArray, List.getElem_cons_succ, List.getElem_cons_zero, Act.put, List.setIfInBounds_toArray, List.set_cons_zero, List.set_cons_succ]
      refine wpAnyH_done (by kernel_rfl) ?_ _
      go_wp2_with (first
        | (refine wpList_build rfl 101 #[] rfl (v := .agg (bva z)) ?hbld ?_; case hbld => exact HBZ.out _)
        | (refine wpList_store_row rfl 101 (.tmp 6) (.tmp 40) rfl w.heap.size (bva z) rfl rfl 101 (bva z) (HB62.out.below HH.out) HIZ.out (by rfl) (bva_one _) ?_))
      exact bodyPost_ret (v := .tuple #[.agg (bva z), .bool false]) (results_ct8 Tryz.results91 _ _ w.heap.size 101 (bva z) _ rfl (setRow_heap _ _ _ _ _ _ (HB62.out.below HH.out)) Tryz.underlying101 rfl HIZ.out) rfl ⟨HEND.out, below_setRow (BW2.out.trans (HH.out.mono BW2.out.size)) (Nat.le_refl _) _⟩
    · obtain ⟨cc, hcc⟩ : ∃ cc, cc = G.c := ⟨_, rfl⟩
      have hgv : G.v = .func (.func kk) #[] cc := by rw [Gd.v, hk, hcc]
      have HCG := Lib.hid (show ∀ w', Below w2.heap.size w2 w' → Calls Tryz.prog kk (#[.int .i64 n, .agg (bva y)] ++ cc) w' (RetB (.bool (G.f n y)) w') from fun w' hb => by rw [hcc]; exact G.call kk hk w' n y (fun x hx => (((HB.out.gb x hx).1.below BW2.out).below hb)) HY3.out)
      have hC := G.enter kk hk
      rw [hgv] at HG4
      have HQ := Lib.hid (show ∀ W, (binOp .eql 46 (.func (.func kk) #[] cc) .nilFunc).run Tryz.prog W = .ok (.bool false) W from fun _ => by kernel_rfl)
      clear hk hgv hcc
      go_wp2_with fail
      refine wp_region_held_drew (S := fun w' => Below w2.heap.size w2 w') (by kernel_rfl) (Below.refl _ _).drew (fun hh => ?_)
      have HH := Lib.hid hh
      clear hh
      refine wpAnyH_take (i := 0) (v := ?vC0) rfl (by kernel_rfl) (by kernel_rfl) (by kernel_rfl) (fun _ _ _ h => h) (Or.inl ⟨by rfl, fun w' _ => ?yC0⟩) HH.out ?_
      case yC0 => (go_simp; try with_reducible rfl)
      refine wpAnyH_take (i := 1) (v := ?vC1) rfl (by kernel_rfl) (by kernel_rfl) (by kernel_rfl) (fun _ _ _ h => h) (Or.inl ⟨by rfl, fun w' _ => ?yC1⟩) HH.out ?_
      case yC1 => (go_simp; try with_reducible rfl)
      try simp only [List.getElem_toArray, List.getElem_cons_succ, List.getElem_cons_zero, Act.put, List.setIfInBounds_toArray, List.set_cons_zero, List.set_cons_succ]
      refine wpAnyH_take (i := 2) (v := ?vC2) rfl (by kernel_rfl) (by kernel_rfl) (by kernel_rfl) (fun _ _ _ h => h) (Or.inl ⟨by rfl, fun w' _ => ?yC2⟩) HH.out ?_
      case yC2 => (go_simp; try with_reducible rfl)
      try simp only [List.getElem_toArray, List.getElem_cons_succ, List.getElem_cons_zero, Act.put, List.setIfInBounds_toArray, List.set_cons_zero, List.set_cons_succ]
      refine wpAnyH_take (i := 3) (v := ?vC3) rfl (by kernel_rfl) (by kernel_rfl) (by kernel_rfl) (fun _ _ _ h => h) (Or.inl ⟨by rfl, fun w' _ => ?yC3⟩) HH.out ?_
      case yC3 => (go_simp; try with_reducible rfl)
      try simp only [List.getElem_toArray, List.getElem_cons_succ, List.getElem_cons_zero, Act.put, List.setIfInBounds_toArray, List.set_cons_zero, List.set_cons_succ]
      refine wpAnyH_take (i := 4) (v := ?vC4) rfl (by kernel_rfl) (by kernel_rfl) (by kernel_rfl) (fun _ _ _ h => h) (Or.inl ⟨by rfl, fun w' _ => ?yC4⟩) HH.out ?_
      case yC4 => (go_simp; try with_reducible rfl)
      try simp only [List.getElem_toArray, List.getElem_cons_succ, List.getElem_cons_zero, Act.put, List.setIfInBounds_toArray, List.set_cons_zero, List.set_cons_succ]
      refine wpAnyH_take (i := 5) (v := ?vC5) rfl (by kernel_rfl) (by kernel_rfl) (by kernel_rfl) (fun _ _ _ h => h) (Or.inl ⟨by rfl, fun w' _ => ?yC5⟩) HH.out ?_
      case yC5 => (go_simp; try with_reducible rfl)
      refine wpAnyH_take (i := 6) (v := .func (.func kk) #[] cc) rfl (by kernel_rfl) (by kernel_rfl) (by kernel_rfl) (fun _ _ _ h => h) (Or.inl ⟨by rfl, fun w' hw' => ?yC6⟩) HH.out ?_
      case yC6 => (have hc := HG4.out w' hw'; go_simp; try with_reducible rfl)
      refine wpAnyH_take (i := 7) (v := .bool false) rfl (by kernel_rfl) (by kernel_rfl) (by kernel_rfl) (fun _ _ _ h => h) (Or.inl ⟨by rfl, fun w' hw' => ?yC7⟩) HH.out ?_
      case yC7 => (go_simp; rw [HQ.out]; rfl)
      try simp only [List.getElem_toArray, List.getElem_cons_succ, List.getElem_cons_zero, Act.put, List.setIfInBounds_toArray, List.set_cons_zero, List.set_cons_succ]
      refine wpAnyH_take (i := 8) (v := ?vC8) rfl (by kernel_rfl) (by kernel_rfl) (by kernel_rfl) (fun _ _ _ h => h) (Or.inl ⟨by rfl, fun w' _ => ?yC8⟩) HH.out ?_
      case yC8 => (go_simp; try with_reducible rfl)
      refine wpAnyH_take (i := 9) (v := ?vC9) rfl (by kernel_rfl) (by kernel_rfl) (by kernel_rfl) (fun _ _ _ h => h) (Or.inl ⟨by rfl, fun w' _ => ?yC9⟩) HH.out ?_
      case yC9 => (go_simp; try with_reducible rfl)
      try simp only [List.getElem_toArray, List.getElem_cons_succ, List.getElem_cons_zero, Act.put, List.setIfInBounds_toArray, List.set_cons_zero, List.set_cons_succ]
      refine wpAnyH_take (i := 10) (v := ?vC10) rfl (by kernel_rfl) (by kernel_rfl) (by kernel_rfl) (fun _ _ _ h => h) (Or.inl ⟨by rfl, fun w' _ => ?yC10⟩) HH.out ?_
      case yC10 => (go_simp; try with_reducible rfl)
      try simp only [List.getElem_toArray, List.getElem_cons_succ, List.getElem_cons_zero, Act.put, List.setIfInBounds_toArray, List.set_cons_zero, List.set_cons_succ]
      refine wpAnyH_take (i := 11) (v := ?vC11) rfl (by kernel_rfl) (by kernel_rfl) (by kernel_rfl) (fun _ _ _ h => h) (Or.inl ⟨by rfl, fun w' _ => ?yC11⟩) HH.out ?_
      case yC11 => (go_simp; try with_reducible rfl)
      try simp only [List.getElem_toArray, List.getElem_cons_succ, List.getElem_cons_zero, Act.put, List.setIfInBounds_toArray, List.set_cons_zero, List.set_cons_succ]
      refine wpAnyH_take (i := 12) (v := ?vC12) rfl (by kernel_rfl) (by kernel_rfl) (by kernel_rfl) (fun _ _ _ h => h) (Or.inl ⟨by rfl, fun w' _ => ?yC12⟩) HH.out ?_
      case yC12 => (go_simp; try with_reducible rfl)
      refine wpAnyH_take (i := 13) (v := .func (.func kk) #[] cc) rfl (by kernel_rfl) (by kernel_rfl) (by kernel_rfl) (fun _ _ _ h => h) (Or.inl ⟨by rfl, fun w' hw' => ?yC13⟩) HH.out ?_
      case yC13 => (have hc := HG4.out w' hw'; go_simp; try with_reducible rfl)
      try simp only [List.getElem_toArray, List.getElem_cons_succ, List.getElem_cons_zero, Act.put, List.setIfInBounds_toArray, List.set_cons_zero, List.set_cons_succ]
      refine wpAnyH_take (i := 14) (v := ?vC14) rfl (by kernel_rfl) (by kernel_rfl) (by kernel_rfl) (fun _ _ _ h => h) (Or.inl ⟨by rfl, fun w' _ => ?yC14⟩) HH.out ?_
      case yC14 => (go_simp; try with_reducible rfl)
      refine wpAnyH_take (i := 15) (v := .agg (bva y)) rfl (by kernel_rfl) (by kernel_rfl) (by kernel_rfl) (fun _ _ _ h => h) (Or.inl ⟨by rfl, fun w' hw' => ?yC15⟩) HH.out ?_
      case yC15 => exact exec_load 101 (.tmp 8) rfl rfl (HBX.out.below hw') Tryz.underlying101 rfl HIY.out
      try simp only [List.getElem_toArray, List.getElem_cons_succ, List.getElem_cons_zero, Act.put, List.setIfInBounds_toArray, List.set_cons_zero, List.set_cons_succ]
      refine wpAnyH_ready (rs := [16]) (by kernel_rfl) (by simp) (AllReadyH.cons rfl (fun K hK => ?_) AllReadyH.nil)
      go_simp
      refine (HCG.out _ HH.out).mono ?_
      rintro e w3 ⟨rfl, bw3⟩
      go_simp
      refine hK.out _ _ (HH.out.trans (bw3.mono HH.out.size)) (fun hh => ?_)
      have HH' := Lib.hid hh
      clear hh hK K HH bw3
      have HH := Lib.hid HH'.out
      clear HH'
      try simp only [List.getElem_toArray, List.getElem_cons_succ, List.getElem_cons_zero, Act.put, List.setIfInBounds_toArray, List.set_cons_zero, List.set_cons_succ]
      refine wpAnyH_take (i := 17) (v := ?vC17) rfl (by kernel_rfl) (by kernel_rfl) (by kernel_rfl) (fun _ _ _ h => h) (Or.inl ⟨by rfl, fun w' _ => ?yC17⟩) HH.out ?_
      case yC17 => (go_simp; try with_reducible rfl)
      refine wpAnyH_take (i := 18) (v := ?vC18) rfl (by kernel_rfl) (by kernel_rfl) (by kernel_rfl) (fun _ _ _ h => h) (Or.inl ⟨by rfl, fun w' _ => ?yC18⟩) HH.out ?_
      case yC18 => (go_simp; try with_reducible rfl)
      try simp only [List.getElem_toArray, List.getElem_cons_succ, List.getElem_cons_zero, Act.put, List.setIfInBounds_toArray, List.set_cons_zero, List.set_cons_succ]
      refine wpAnyH_done (by kernel_rfl) ?_ _
      cases hgv : G.f n y with
      | false =>
        have HEND := Lib.hid (show (Ending.returned (Value.tuple #[.agg (bva z), .bool false])) = Ending.returned RV from by rw [HRV.out, hgv]; rfl)
        go_wp2_with (first
          | (refine wpList_build rfl 101 #[] rfl (v := .agg (bva z)) ?hbld ?_; case hbld => exact HBZ.out _)
          | (refine wpList_store_row rfl 101 (.tmp 6) (.tmp 40) rfl w.heap.size (bva z) rfl rfl 101 (bva z) (HB62.out.below HH.out) HIZ.out (by rfl) (bva_one _) ?_))
        exact bodyPost_ret (v := .tuple #[.agg (bva z), .bool false]) (results_ct8 Tryz.results91 _ _ w.heap.size 101 (bva z) _ rfl (setRow_heap _ _ _ _ _ _ (HB62.out.below HH.out)) Tryz.underlying101 rfl HIZ.out) rfl ⟨HEND.out, below_setRow (BW2.out.trans (HH.out.mono BW2.out.size)) (Nat.le_refl _) _⟩
      | true =>
        have HEND := Lib.hid (show (Ending.returned (Value.tuple #[.agg (bva y), .bool true])) = Ending.returned RV from by rw [HRV.out, hgv]; rfl)
        go_wp2_with (first
          | (refine wpList_load_row rfl 101 (.tmp 8) rfl w1.heap.size rfl 101 (bva y) (0, 0) _ (HBX.out.below HH.out) Tryz.underlying101 rfl HIY.out ?_)
          | (refine wpList_store_row rfl 101 (.tmp 6) (.tmp 41) rfl w.heap.size (bva y) rfl rfl 101 (bva z) (HB62.out.below HH.out) HIY.out (by rw [bva_size, bva_size, HY3.out, HZ3.out]) (bva_one _) ?_))
        exact bodyPost_ret (v := .tuple #[.agg (bva y), .bool true]) (results_ct8 Tryz.results91 _ _ w.heap.size 101 (bva y) _ rfl (setRow_heap _ _ _ _ _ _ (HB62.out.below HH.out)) Tryz.underlying101 rfl HIY.out) rfl ⟨HEND.out, below_setRow (BW2.out.trans (HH.out.mono BW2.out.size)) (Nat.le_refl _) _⟩
  · have hd : (r != 0) = true := by simpa using hr0
    have HEND := Lib.hid (show (Ending.returned (Value.tuple #[.agg (bva z), .bool false])) = Ending.returned RV from by rw [HRV.out, show (r == 0) = false by simpa using hr0]; rfl)
    clear hr0
    go_wp2_with fail
    refine wp_region_held_drew (S := fun w' => Below w2.heap.size w2 w') (by kernel_rfl) (Below.refl _ _).drew (fun hh => ?_)
    have HH := Lib.hid hh
    clear hh
    refine wpAnyH_take (i := 0) (v := ?vA0) rfl (by kernel_rfl) (by kernel_rfl) (by kernel_rfl) (fun _ _ _ h => h) (Or.inl ⟨by rfl, fun w' _ => ?yA0⟩) HH.out ?_
    case yA0 => (go_simp; try with_reducible rfl)
    refine wpAnyH_take (i := 1) (v := ?vA1) rfl (by kernel_rfl) (by kernel_rfl) (by kernel_rfl) (fun _ _ _ h => h) (Or.inl ⟨by rfl, fun w' _ => ?yA1⟩) HH.out ?_
    case yA1 => (go_simp; try with_reducible rfl)
    try simp only [List.getElem_toArray, List.getElem_cons_succ, List.getElem_cons_zero, Act.put, List.setIfInBounds_toArray, List.set_cons_zero, List.set_cons_succ]
    refine wpAnyH_take (i := 2) (v := ?vA2) rfl (by kernel_rfl) (by kernel_rfl) (by kernel_rfl) (fun _ _ _ h => h) (Or.inl ⟨by rfl, fun w' _ => ?yA2⟩) HH.out ?_
    case yA2 => (go_simp; try with_reducible rfl)
    refine wpAnyH_take (i := 3) (v := undef) rfl (by kernel_rfl) (by kernel_rfl) (by kernel_rfl) (fun _ _ _ h => h) (Or.inr ⟨by rfl, rfl⟩) HH.out ?_
    refine wpAnyH_take (i := 4) (v := undef) rfl (by kernel_rfl) (by kernel_rfl) (by kernel_rfl) (fun _ _ _ h => h) (Or.inr ⟨by rfl, rfl⟩) HH.out ?_
    try simp only [List.getElem_toArray, List.getElem_cons_succ, List.getElem_cons_zero, Act.put, List.setIfInBounds_toArray, List.set_cons_zero, List.set_cons_succ]
    refine wpAnyH_take (i := 5) (v := undef) rfl (by kernel_rfl) (by kernel_rfl) (by kernel_rfl) (fun _ _ _ h => h) (Or.inr ⟨by rfl, rfl⟩) HH.out ?_
    refine wpAnyH_take (i := 6) (v := undef) rfl (by kernel_rfl) (by kernel_rfl) (by kernel_rfl) (fun _ _ _ h => h) (Or.inr ⟨by rfl, rfl⟩) HH.out ?_
    refine wpAnyH_take (i := 7) (v := undef) rfl (by kernel_rfl) (by kernel_rfl) (by kernel_rfl) (fun _ _ _ h => h) (Or.inr ⟨by rfl, rfl⟩) HH.out ?_
    try simp only [List.getElem_toArray, List.getElem_cons_succ, List.getElem_cons_zero, Act.put, List.setIfInBounds_toArray, List.set_cons_zero, List.set_cons_succ]
    refine wpAnyH_take (i := 8) (v := ?vA8) rfl (by kernel_rfl) (by kernel_rfl) (by kernel_rfl) (fun _ _ _ h => h) (Or.inl ⟨by rfl, fun w' _ => ?yA8⟩) HH.out ?_
    case yA8 => (go_simp; try with_reducible rfl)
    refine wpAnyH_take (i := 9) (v := ?vA9) rfl (by kernel_rfl) (by kernel_rfl) (by kernel_rfl) (fun _ _ _ h => h) (Or.inl ⟨by rfl, fun w' _ => ?yA9⟩) HH.out ?_
    case yA9 => (go_simp; try with_reducible rfl)
    refine wpAnyH_take (i := 10) (v := undef) rfl (by kernel_rfl) (by kernel_rfl) (by kernel_rfl) (fun _ _ _ h => h) (Or.inr ⟨by rfl, rfl⟩) HH.out ?_
    try simp only [List.getElem_toArray, List.getElem_cons_succ, List.getElem_cons_zero, Act.put, List.setIfInBounds_toArray, List.set_cons_zero, List.set_cons_succ]
    refine wpAnyH_take (i := 11) (v := undef) rfl (by kernel_rfl) (by kernel_rfl) (by kernel_rfl) (fun _ _ _ h => h) (Or.inr ⟨by rfl, rfl⟩) HH.out ?_
    refine wpAnyH_take (i := 12) (v := undef) rfl (by kernel_rfl) (by kernel_rfl) (by kernel_rfl) (fun _ _ _ h => h) (Or.inr ⟨by rfl, rfl⟩) HH.out ?_
    refine wpAnyH_take (i := 13) (v := undef) rfl (by kernel_rfl) (by kernel_rfl) (by kernel_rfl) (fun _ _ _ h => h) (Or.inr ⟨by rfl, rfl⟩) HH.out ?_
    try simp only [List.getElem_toArray, List.getElem_cons_succ, List.getElem_cons_zero, Act.put, List.setIfInBounds_toArray, List.set_cons_zero, List.set_cons_succ]
    refine wpAnyH_take (i := 14) (v := undef) rfl (by kernel_rfl) (by kernel_rfl) (by kernel_rfl) (fun _ _ _ h => h) (Or.inr ⟨by rfl, rfl⟩) HH.out ?_
    refine wpAnyH_take (i := 15) (v := undef) rfl (by kernel_rfl) (by kernel_rfl) (by kernel_rfl) (fun _ _ _ h => h) (Or.inr ⟨by rfl, rfl⟩) HH.out ?_
    refine wpAnyH_take (i := 16) (v := undef) rfl (by kernel_rfl) (by kernel_rfl) (by kernel_rfl) (fun _ _ _ h => h) (Or.inr ⟨by rfl, rfl⟩) HH.out ?_
    try simp only [List.getElem_toArray, List.getElem_cons_succ, List.getElem_cons_zero, Act.put, List.setIfInBounds_toArray, List.set_cons_zero, List.set_cons_succ]
    refine wpAnyH_take (i := 17) (v := undef) rfl (by kernel_rfl) (by kernel_rfl) (by kernel_rfl) (fun _ _ _ h => h) (Or.inr ⟨by rfl, rfl⟩) HH.out ?_
    refine wpAnyH_take (i := 18) (v := ?vA18) rfl (by kernel_rfl) (by kernel_rfl) (by kernel_rfl) (fun _ _ _ h => h) (Or.inl ⟨by rfl, fun w' _ => ?yA18⟩) HH.out ?_
    case yA18 => (go_simp; try with_reducible rfl)
    try simp only [List.getElem_toArray, List.getElem_cons_succ, List.getElem_cons_zero, Act.put, List.setIfInBounds_toArray, List.set_cons_zero, List.set_cons_succ]
    refine wpAnyH_done (by kernel_rfl) ?_ _
    go_wp2_with (first
      | (refine wpList_build rfl 101 #[] rfl (v := .agg (bva z)) ?hbld ?_; case hbld => exact HBZ.out _)
      | (refine wpList_store_row rfl 101 (.tmp 6) (.tmp 40) rfl w.heap.size (bva z) rfl rfl 101 (bva z) (HB62.out.below HH.out) HIZ.out (by rfl) (bva_one _) ?_))
    exact bodyPost_ret (v := .tuple #[.agg (bva z), .bool false]) (results_ct8 Tryz.results91 _ _ w.heap.size 101 (bva z) _ rfl (setRow_heap _ _ _ _ _ _ (HB62.out.below HH.out)) Tryz.underlying101 rfl HIZ.out) rfl ⟨HEND.out, below_setRow (BW2.out.trans (HH.out.mono BW2.out.size)) (Nat.le_refl _) _⟩
theorem reads_any (h : (ML C G g).At w s F) {i : Nat} (hi : i < 2) (n : Int) : Calls Tryz.prog 91 #[.pointer (some ⟨g, 0, none⟩), .int .i64 i, .int .i64 n] w (RetB (.tuple #[.agg (bva (rdVal C G s.d i n)), .bool (rdOk C G s.d i n)]) w) := by
  obtain ⟨A, N, c, B, m, e, F1, h, _⟩ := h
  exact reads_r h hi n
/-- What is stale of a device. -/
def Mr.st (s : Mr C) (i : Nat) : List Bool := if i = 0 then s.a else s.b
def right (C : Duo) (G : Gd) (s : Mr C) (i n : Nat) : Bool := !((s.st i).getD n false) && rdOk C G s.d i n
def rightV (C : Duo) (G : Gd) (s : Mr C) (i n : Nat) : List UInt8 := if right C G s i n then (C.rd s.d i n).2 else zeroS
theorem rightV_len (h : (ML C G g).At w s F) {i : Nat} (hi : i < 2) (n : Nat) : (rightV C G s i n).length = 128 := by
  obtain ⟨A, N, c, B, m, e, F1, h, _⟩ := h
  rw [rightV]; split
  · exact C.rd_len h.d hi
  · exact zeroS_length
theorem bs_get {l : List Bool} {n : Nat} (hn : n < l.length) : (bs l)[n]? = some (.bool (l.getD n false)) := by
  rw [bs, List.getElem?_map, List.getElem?_eq_getElem hn, List.getD_eq_getElem?_getD, List.getElem?_eq_getElem hn]; rfl
/-- Of the stale places of a device: its slice in the mirror, and one of its cells. -/
theorem MrR.stale_row {N : Nat} (h : MrR C G g w s A N c B m e F1) {i : Nat} (hi : i < 2) :
    ∃ D k j, w.cell? ⟨g, 2 + i, none⟩ = some (.slice D k j) ∧ (s.st i).length = k ∧ w.ownsRow 0 4 1 (.slice D k j) k (bs (s.st i)) := by
  rcases two hi with rfl | rfl
  · exact ⟨A, N, c, h.blk.cell 2, h.an, h.a⟩
  · exact ⟨B, m, e, h.blk.cell 3, h.bn, h.b⟩
theorem MrR.stale_cell {N : Nat} (h : MrR C G g w s A N c B m e F1) {i n : Nat} (hi : i < 2) (hn : n < (s.st i).length) :
    ∃ q k j, w.cell? ⟨g, 2 + i, none⟩ = some (.slice (some ⟨q, 0, none⟩) k j) ∧ n < k ∧ k ≤ j ∧ j ≤ maxLen ∧ w.cell? ⟨q, n, none⟩ = some (.bool ((s.st i).getD n false)) := by
  obtain ⟨D, k, j, h1, h2, h3⟩ := h.stale_row hi
  obtain ⟨h4, h5⟩ := own_cap h3
  obtain ⟨ad, hA, _, hc⟩ := Rd.ownN h3 n _ (bs_get hn)
  rcases h3.2 with ⟨_, h6⟩ | ⟨q, cap, _, h6, _⟩
  · omega
  · injection h6 with h6 _ _
    subst h6
    injection hA with hA
    subst hA
    rw [Addr.add_mid, Nat.zero_add] at hc
    exact ⟨q, k, j, h1, by omega, h4, h5, hc⟩
set_option maxRecDepth 100000 in
set_option maxHeartbeats 6400000 in
theorem right_any (h : (ML C G g).At w s F) {i n : Nat} (hi : i < 2) (hn : n < (s.st i).length) :
    Calls Tryz.prog 74 #[.pointer (some ⟨g, 0, none⟩), .int .i64 i, .int .i64 n] w (RetB (.tuple #[.agg (bva (rightV C G s i n)), .bool (right C G s i n)]) w) := by
  have H := Lib.hid h
  have HI := Lib.hid hi
  have i0 : (0 : Int) ≤ (i : Int) := by omega
  have i1 : (i : Int) < 2 := by omega
  obtain ⟨A, N, c, B, m, e, F1, h, h1, h2⟩ := h
  obtain ⟨q, k, j, hc2, hk, hkj, hj, hq⟩ := h.stale_cell hi hn
  have hgl := h.blk.lt
  obtain ⟨z, hz0⟩ : ∃ z : List UInt8, z = zeroS := ⟨_, rfl⟩
  have hz : ∀ W, (zeroValue 101).run Tryz.prog W = .ok (.agg (bva z)) W := fun _ => by rw [hz0]; kernel_rfl
  have HBZ := Lib.hid (show ∀ W, (Instr.build 101 #[]).run Tryz.prog W = .ok (.agg (bva z)) W from fun _ => by rw [hz0]; kernel_rfl)
  have HZ3 := Lib.hid (show z.length = 128 by rw [hz0]; exact zeroS_length)
  have HIZ : Hid ((Tryz.prog.info? 101).map (·.size) = some (bva z).size) := by rw [bva_size, HZ3.out]; exact info_sec
  obtain ⟨y, hy⟩ : ∃ y, y = rdVal C G s.d i n := ⟨_, rfl⟩
  have HY3 := Lib.hid (show y.length = 128 by rw [hy, rdVal]; split; exact C.rd_len h.d hi; exact zeroS_length)
  have HIY : Hid ((Tryz.prog.info? 101).map (·.size) = some (bva y).size) := by rw [bva_size, HY3.out]; exact info_sec
  have R0 := Lib.hid (show Blk (w.alloc (.cells (bva z) 101)) w.heap.size (bva z) 101 from heap_alloc_new _ _)
  have hw1 : Below w.heap.size w (w.alloc (.cells (bva z) 101)) := (Below.refl _ _).alloc (Nat.le_refl _) _
  have HCR := Lib.hid (reads_any ((ML C G g).below H.out hw1) hi n)
  obtain ⟨o, ho⟩ : ∃ o, o = rdOk C G s.d i n := ⟨_, rfl⟩
  rw [← hy, ← ho] at HCR
  obtain ⟨t, ht⟩ : ∃ t, t = (s.st i).getD n false := ⟨_, rfl⟩
  rw [← ht] at hq
  have HV := Lib.hid (show Value.tuple #[.agg (bva (rightV C G s i n)), .bool (right C G s i n)] = if t then .tuple #[.agg (bva z), .bool false] else .tuple #[.agg (bva y), .bool o] by
    rw [rightV, right, ← ht, ho, hy, rdVal]
    cases t
    · cases rdOk C G s.d i n
      · simp
      · simp
    · simp [hz0])
  have hql := block_lt_of_cell hq
  have n0 : (0 : Int) ≤ (n : Int) := by omega
  have n1 : (n : Int) < (k : Int) := by omega
  have c2 : (w.alloc (.cells (bva z) 101)).cell? ⟨g, 2 + i, none⟩ = some (.slice (some ⟨q, 0, none⟩) k j) := by rw [hw1.cell hgl]; exact hc2
  have cq : (w.alloc (.cells (bva z) 101)).cell? ⟨q, n, none⟩ = some (.bool t) := by rw [hw1.cell hql]; exact hq
  rw [HV.out]
  have HK := Lib.hid hk
  have HJ := Lib.hid (show k ≤ j ∧ j ≤ maxLen from ⟨hkj, hj⟩)
  clear h h1 h2 hz0 hy ho ht hc2 hq hn hi hw1 hgl hql hk hkj hj HV H
  cases t
  · go_enter Tryz.func74, Tryz.ntmps74
    go_wp2_with fail
    refine HCR.out.mono ?_
    rintro e2 w2 ⟨rfl, bw⟩
    rw [World.size_alloc] at bw
    have R2 := Lib.hid (R0.out.below (by rw [World.size_alloc]; exact bw))
    have B2 := Lib.hid (show Below w.heap.size w w2 from ((Below.refl _ _).alloc (Nat.le_refl _) _).trans (bw.mono (Nat.le_succ _)))
    clear bw c2 cq
    go_wp2_with (refine wpList_store_row rfl 101 (.tmp 6) (.tmp 22) rfl w.heap.size (bva y) rfl rfl 101 (bva z) R2.out HIY.out (by rw [bva_size, bva_size, HY3.out, HZ3.out]) (bva_one _) ?_)
    exact bodyPost_ret (v := .tuple #[.agg (bva y), .bool o]) (results_ct8 Tryz.results74 _ _ w.heap.size 101 (bva y) _ rfl (setRow_heap _ _ _ _ _ _ R2.out) Tryz.underlying101 rfl HIY.out) rfl ⟨rfl, below_setRow B2.out (Nat.le_refl _) _⟩
  · go_enter Tryz.func74, Tryz.ntmps74
    go_wp2_with (first
      | (refine wpList_build rfl 101 #[] rfl (v := .agg (bva z)) ?hbld ?_; case hbld => exact HBZ.out _)
      | (refine wpList_store_row rfl 101 (.tmp 6) (.tmp 17) rfl w.heap.size (bva z) rfl rfl 101 (bva z) R0.out HIZ.out (by rfl) (bva_one _) ?_))
    exact bodyPost_ret (v := .tuple #[.agg (bva z), .bool false]) (results_ct8 Tryz.results74 _ _ w.heap.size 101 (bva z) _ rfl (setRow_heap _ _ _ _ _ _ R0.out) Tryz.underlying101 rfl HIZ.out) rfl ⟨rfl, below_setRow ((Below.refl _ _).alloc (Nat.le_refl _) _) (Nat.le_refl _) _⟩
end
end Go.Proofs.YtnplhagfmfggcaaGreat.Mi
/-
  The contract of each: a function is asked of 0, and then of 1.
-/
namespace Go.Proofs.YtnplhagfmfggcaaGreat.Mi
open Go.RowKit Kd
attribute [local go_sem ↓] Go.wp_at_zero Go.wp_at_succ
def two2 (a b : Bool) : Array Value := #[.bool a, .bool b]
theorem two2_one (a b : Bool) : (two2 a b).all (·.oneCell') = true := by simp [two2, Value.oneCell']
set_option maxRecDepth 100000 in
set_option maxHeartbeats 6400000 in
theorem each_any {L : Laid} {w : World} {s : L.St} {F : Nat → Prop} (h : L.At w s F) {k : Nat} {b c : Array Value} {x y : Bool} {s1 s2 : L.St} (hC : ∀ (args : Array Value) (W : World), (callFunc k args).run Tryz.prog W = .ok (.enter k args) W)
    (h0 : ∀ w F, L.At w s F → Calls Tryz.prog k (b ++ #[.int .i64 0] ++ c) w (RetA L (.bool x) s1 F w))
    (h1 : ∀ w F, L.At w s1 F → Calls Tryz.prog k (b ++ #[.int .i64 1] ++ c) w (RetA L (.bool y) s2 F w)) :
    Calls Tryz.prog 38 #[.func (.func k) b c] w (RetA L (.agg (two2 x y)) s2 F w) := by
  have H := Lib.hid h
  have H0 := Lib.hid h0
  have H1 := Lib.hid h1
  clear h h0 h1
  go_enter Tryz.func38, Tryz.ntmps38
  go_wp2_with fail
  obtain ⟨w0, hw0⟩ : ∃ w0, w0 = w.alloc (.cells #[.bool false, .bool false] 80) := ⟨_, rfl⟩
  have HM0 := Lib.hid (show Mv L w F w0 s F from (Mv.start H.out).below (by rw [hw0]; exact (Below.refl _ _).alloc (Nat.le_refl _) _))
  have HB0 := Lib.hid (show Bx w w0 F w.heap.size (two2 false false) 80 from ⟨by rw [hw0]; exact heap_alloc_new _ _, Nat.le_refl _, fun hf => by have := L.lt H.out _ hf; omega⟩)
  rw [← hw0]
  clear hw0
  obtain ⟨bx, hbx⟩ : ∃ bx, bx = w.heap.size := ⟨_, rfl⟩
  rw [← hbx] at HB0
  rw [← hbx]
  clear hbx
  go_loopw [4] (fun i wr => ∃ (j : Nat) (F' : Nat → Prop) (s' : L.St) (p q : Bool), i = .int .i64 j ∧ Mv L w F wr s' F' ∧ Bx w wr F' bx (two2 p q) 80 ∧ ((j = 0 ∧ s' = s ∧ p = false ∧ q = false) ∨ (j = 1 ∧ s' = s1 ∧ p = x ∧ q = false) ∨ (j = 2 ∧ s' = s2 ∧ p = x ∧ q = y))) (fun i _ => 2 - (intOf i).toNat)
  case atStart => exact ⟨0, F, s, false, false, rfl, HM0.out, HB0.out, .inl ⟨rfl, rfl, rfl, rfl⟩⟩
  case round =>
    clear HM0 HB0
    obtain ⟨j, F', s', p, q, rfl, hm, hb, hj⟩ := hrel
    have HM := Lib.hid hm
    have HB := Lib.hid hb
    clear hm hb
    rcases hj with ⟨rfl, rfl, rfl, rfl⟩ | ⟨rfl, rfl, rfl, rfl⟩ | ⟨rfl, rfl, rfl, rfl⟩
    · go_wp2_with fail
      refine (H0.out _ _ HM.out.at_).mono ?_
      rintro e w1 ⟨rfl, F2, hm2⟩
      have HM2 := Lib.hid (HM.out.trans hm2)
      have HB2 := Lib.hid (HB.out.step hm2)
      clear hm2
      have c0 := HB2.out.1.cell 0
      have f0 := HB2.out.1.free 0
      go_wp2_with fail
      go_roundw
      case rel => exact ⟨1, F2, s1, x, false, rfl, HM2.out.own (but_one _) (fun q e => by rw [e]; exact HB2.out.2.1) (fun q hq e => HB2.out.2.2 (e ▸ hq)), ⟨blk_setN8 HB2.out.1 0 _, HB2.out.2⟩, .inr (.inl ⟨rfl, rfl, rfl, rfl⟩)⟩
      case measure => simp [intOf]
    · go_wp2_with fail
      refine (H1.out _ _ HM.out.at_).mono ?_
      rintro e w1 ⟨rfl, F2, hm2⟩
      have HM2 := Lib.hid (HM.out.trans hm2)
      have HB2 := Lib.hid (HB.out.step hm2)
      clear hm2
      have c0 := HB2.out.1.cell 1
      have f0 := HB2.out.1.free 1
      go_wp2_with fail
      go_roundw
      case rel => exact ⟨2, F2, s2, p, y, rfl, HM2.out.own (but_one _) (fun q e => by rw [e]; exact HB2.out.2.1) (fun q hq e => HB2.out.2.2 (e ▸ hq)), ⟨blk_setN8 HB2.out.1 1 _, HB2.out.2⟩, .inr (.inr ⟨rfl, rfl, rfl, rfl⟩)⟩
      case measure => simp [intOf]
    · have HI : Hid ((Tryz.prog.info? 80).map (·.size) = some (two2 p q).size) := by show _ = _; kernel_rfl
      go_wp2_with (first
        | (refine wpList_load_row rfl 80 (.tmp 2) rfl bx rfl 80 (two2 p q) (0, 0) _ HB.out.1 Tryz.underlying80 rfl HI.out ?_)
        | (refine wpList_store_row rfl 80 (.tmp 2) (.tmp 13) rfl bx (two2 p q) rfl rfl 80 (two2 p q) HB.out.1 HI.out (by rfl) (two2_one _ _) ?_))
      exact bodyPost_ret (v := .agg (two2 p q)) (results_cell_row Tryz.results38 _ _ bx 80 (two2 p q) (0, 0) _ rfl (setRow_heap _ _ _ _ _ _ HB.out.1) Tryz.underlying80 rfl HI.out) rfl ⟨rfl, F', HM.out.own (But.setRow (S := fun q => q = bx) (But.refl _) (.inl rfl) _) (fun q e => by rw [e]; exact HB.out.2.1) (fun q hq e => HB.out.2.2 (e ▸ hq))⟩
end Go.Proofs.YtnplhagfmfggcaaGreat.Mi
/-
  The contracts of whole, Len, has, count, Stale, healed.
-/
namespace Go.Proofs.YtnplhagfmfggcaaGreat.Mi
open Go.RowKit Kd
attribute [local go_sem ↓] Go.wp_at_zero Go.wp_at_succ
section
variable {C : Duo} {G : Gd} {g : Nat} {w : World} {s : Mr C} {A B : Option Addr} {n c m e : Nat} {F1 F : Nat → Prop}
theorem there_enter (args : Array Value) (W : World) : (callFunc 39 args).run Tryz.prog W = .ok (.enter 39 args) W := by kernel_rfl
theorem flush_enter (args : Array Value) (W : World) : (callFunc 59 args).run Tryz.prog W = .ok (.enter 59 args) W := by kernel_rfl
theorem each_there (h : (ML C G g).At w s F) : Calls Tryz.prog 38 #[.func (.func 39) #[.pointer (some ⟨g, 0, none⟩)] #[]] w (RetA (ML C G g) (.agg (two2 (C.there s.d 0) (C.there s.d 1))) s F w) :=
  each_any h there_enter (fun _ _ h => (there_any h (i := 0) (by omega)).mono fun _ _ hr => RetB.reta h hr) (fun _ _ h => (there_any h (i := 1) (by omega)).mono fun _ _ hr => RetB.reta h hr)
theorem eq_two (a b c d : Bool) (W : World) : (Op.equalIn 10000 80 (.agg (two2 a b)) (.agg (two2 c d))).run Tryz.prog W = .ok ((a == c) && (b == d)) W := by
  cases a <;> cases b <;> cases c <;> cases d <;> kernel_rfl
theorem eq_ff (a b : Bool) (W : World) : (Op.equalIn 10000 80 (.agg (two2 a b)) (.agg #[.bool false, .bool false])).run Tryz.prog W = .ok (!(a || b)) W := by
  cases a <;> cases b <;> kernel_rfl
theorem build_tt (W : World) : (Instr.build 80 #[(0, .bool true), (1, .bool true)]).run Tryz.prog W = .ok (.agg (two2 true true)) W := by kernel_rfl
theorem build_ff (W : World) : (Instr.build 80 #[]).run Tryz.prog W = .ok (.agg (two2 false false)) W := by kernel_rfl
theorem mlen_nil (w : World) : Calls Tryz.prog 55 #[.pointer none] w (RetB (.int .i64 0) w) := by
  go_enter Tryz.func55, Tryz.ntmps55
  go_wp2_with fail
  go_ret
  exact ⟨rfl, Below.refl _ _⟩
theorem mlen_any (h : (ML C G g).At w s F) : Calls Tryz.prog 55 #[.pointer (some ⟨g, 0, none⟩)] w (RetB (.int .i64 s.a.length) w) := by
  obtain ⟨A, N, c, B, m, e, F1, h, _⟩ := h
  have c2 : w.cell? ⟨g, 2, none⟩ = some (.slice A N c) := h.blk.cell 2
  rw [h.an]
  clear h
  go_enter Tryz.func55, Tryz.ntmps55
  go_wp2_with fail
  go_ret
  exact ⟨rfl, Below.refl _ _⟩
/-- Is there such a place? -/
def has (s : Mr C) (n : Int) : Bool := decide (0 ≤ n) && decide (n < s.a.length)
theorem has_len {P : Value} {k : Nat} (hl : Calls Tryz.prog 55 #[P] w (RetB (.int .i64 k) w)) (n : Int) : Calls Tryz.prog 70 #[P, .int .i64 n] w (RetB (.bool (decide (0 ≤ n) && decide (n < k))) w) := by
  have HL := Lib.hid hl
  clear hl
  by_cases h0 : 0 ≤ n
  · have d0 : decide (n ≥ 0) = true := decide_eq_true h0
    have HV := Lib.hid (show (decide (0 ≤ n) && decide (n < k)) = decide (n < k) by rw [decide_eq_true h0, Bool.true_and])
    rw [HV.out]
    clear h0 HV
    go_enter Tryz.func70, Tryz.ntmps70
    go_wp2_with fail
    refine HL.out.mono ?_
    rintro e w1 ⟨rfl, bw⟩
    go_wp2_with fail
    go_ret
    exact ⟨by rfl, bw⟩
  · have d0 : decide (n ≥ 0) = false := decide_eq_false h0
    have HV := Lib.hid (show (decide (0 ≤ n) && decide (n < k)) = false by rw [decide_eq_false h0, Bool.false_and])
    rw [HV.out]
    clear h0 HV
    go_enter Tryz.func70, Tryz.ntmps70
    go_wp2_with fail
    go_ret
    exact ⟨by rfl, Below.refl _ _⟩
theorem has_any (h : (ML C G g).At w s F) (n : Int) : Calls Tryz.prog 70 #[.pointer (some ⟨g, 0, none⟩), .int .i64 n] w (RetB (.bool (has s n)) w) := has_len (mlen_any h) n
theorem has_nil (w : World) (n : Int) : Calls Tryz.prog 70 #[.pointer none, .int .i64 n] w (RetB (.bool false) w) := by
  have h := has_len (k := 0) (mlen_nil w) n
  rwa [show (decide (0 ≤ n) && decide (n < (0 : Nat))) = false by by_cases h : 0 ≤ n; rw [decide_eq_false (by omega : ¬ n < ((0 : Nat) : Int)), Bool.and_false]; rw [decide_eq_false h, Bool.false_and]] at h
/-- How many are true. -/
def cnt (l : List Bool) : Nat := (l.filter id).length
theorem cnt_take {l : List Bool} {k : Nat} (hk : k < l.length) : cnt (l.take (k + 1)) = cnt (l.take k) + if l.getD k false then 1 else 0 := by
  rw [cnt, List.take_succ_eq_append_getElem hk, List.filter_append, List.length_append, List.getD_eq_getElem?_getD, List.getElem?_eq_getElem hk]
  show _ = cnt _ + if l[k] then 1 else 0
  cases l[k] <;> rfl
theorem cnt_le (l : List Bool) : cnt l ≤ l.length := List.length_filter_le _ _
end
end Go.Proofs.YtnplhagfmfggcaaGreat.Mi
/-
  What is stale is told anew; the contract of mend.
-/
namespace Go.Proofs.YtnplhagfmfggcaaGreat.Mi
open Go.RowKit Kd
attribute [local go_sem ↓] Go.wp_at_zero Go.wp_at_succ
section
variable {C : Duo} {G : Gd} {g : Nat} {w w1 : World} {s : Mr C} {A B : Option Addr} {N c m e : Nat} {F1 F : Nat → Prop}
def Mr.put (s : Mr C) (i n : Nat) (v : Bool) : Mr C := if i = 0 then ⟨s.d, s.a.set n v, s.b⟩ else ⟨s.d, s.a, s.b.set n v⟩
def Mr.dev (s : Mr C) (d : C.L.St) : Mr C := ⟨d, s.a, s.b⟩
/-- Of each device as many places. -/
def Mr.ok (s : Mr C) (k : Nat) : Prop := s.a.length = k ∧ s.b.length = k
theorem Mr.ok.st {k i : Nat} (h : s.ok k) : (s.st i).length = k := by unfold Mr.st; split; exact h.1; exact h.2
theorem Mr.ok.put {k i n : Nat} {v : Bool} (h : s.ok k) : (s.put i n v).ok k := by
  unfold Mr.put; split
  · exact ⟨by simpa using h.1, h.2⟩
  · exact ⟨h.1, by simpa using h.2⟩
theorem Mr.ok.dev {k : Nat} {d : C.L.St} (h : s.ok k) : (s.dev d).ok k := h
theorem put_d {i n : Nat} {v : Bool} : (s.put i n v).d = s.d := by unfold Mr.put; split <;> rfl
theorem own_cell1 {base q N j n : Nat} {e : TypeId} {xs : List Value} {v : Value} (ho : w.ownsRow base e 1 (.slice (some ⟨q, 0, none⟩) N j) N xs) : (w.setCell ⟨q, n, none⟩ v).ownsRow base e 1 (.slice (some ⟨q, 0, none⟩) N j) N (xs.set n v) := by
  refine ⟨by rw [List.length_set]; exact ho.1, ?_⟩
  rcases ho.2 with ⟨h0, _⟩ | ⟨g, cap, cur, h0, h1, h2, h3, h4, h5, h6⟩
  · cases h0
  · injection h0 with h0 _ h7
    injection h0 with h0
    injection h0 with h0
    subst h0 h7
    refine .inr ⟨q, j, cur.setIfInBounds n v, rfl, h1, heap_setCell_same _ _ _ _ _ _ h2, h3, h4, by rw [Array.size_setIfInBounds]; exact h5, ?_⟩
    rw [Array.toList_setIfInBounds, List.take_set, h6]
theorem bs_set (l : List Bool) (n : Nat) (v : Bool) : (bs l).set n (.bool v) = bs (l.set n v) := by rw [bs, bs, List.map_set]
/-- Of the stale places of a device: its slice, and what a store in it makes of the mirror. -/
theorem MrR.set_stale (h : MrR C G g w s A N c B m e F1) (h1 : ∀ q, mrF G g A N c B m e F1 q → F q) (h2 : ∀ q, F q → q < w.heap.size) {i n : Nat} (hi : i < 2) (hn : n < (s.st i).length) :
    ∃ q k j, w.cell? ⟨g, 2 + i, none⟩ = some (.slice (some ⟨q, 0, none⟩) k j) ∧ n < k ∧ k ≤ j ∧ j ≤ maxLen ∧ w.cell? ⟨q, n, none⟩ = some (.bool ((s.st i).getD n false)) ∧ w.frozen? ⟨q, n, none⟩ = false ∧ ∀ v, Mv (ML C G g) w F (w.setCell ⟨q, n, none⟩ (.bool v)) (s.put i n v) F := by
  obtain ⟨q, k, j, hc, hk, hkj, hj, hq⟩ := h.stale_cell hi hn
  obtain ⟨ra, rb⟩ := h.rows
  rcases two hi with rfl | rfl
  · have hc' : w.cell? ⟨g, 2, none⟩ = some (.slice A N c) := h.blk.cell 2
    rw [show 2 + 0 = 2 from rfl, hc'] at hc
    injection hc with hc
    injection hc with e1 e2 e3
    subst e1 e2 e3
    obtain ⟨cur, hcur⟩ := row_type h.a q rfl
    refine ⟨q, N, c, h.blk.cell 2, hk, hkj, hj, hq, Blk.free (show Blk w q cur 4 from hcur) n, fun v => ?_⟩
    have hT : But (fun x => x = q) w (w.setCell ⟨q, n, none⟩ (.bool v)) := but_one _
    refine ⟨⟨some ⟨q, 0, none⟩, N, c, B, m, e, F1, ⟨h.blk.but hT (fun x => ra q rfl x.symm), ?_, Own.but h.b hT (fun x hx hx' => h.apart x (by rw [hx']; rfl) hx), ?_, h.bn, C.L.but h.d hT (fun x hx hx' => h.aa q rfl (hx' ▸ hx)), h.ag, h.aa, h.ab, h.apart, h.pin, fun x hx => ⟨(h.gb x hx).1.but hT (fun hx' => h.box_ne hx hcur (.inl rfl) hx'), (h.gb x hx).2⟩⟩, h1, fun x hx => Nat.lt_of_lt_of_le (h2 x hx) hT.size⟩, fun _ hx => .inl hx, hT.mono (fun x hx => h1 x (.inr (.inl (by rw [hx]; rfl))))⟩
    · show World.ownsRow _ _ _ _ _ _ (bs (s.a.set n v))
      rw [← bs_set]; exact own_cell1 h.a
    · show (s.a.set n v).length = N
      rw [List.length_set]; exact h.an
  · have hc' : w.cell? ⟨g, 3, none⟩ = some (.slice B m e) := h.blk.cell 3
    rw [show 2 + 1 = 3 from rfl, hc'] at hc
    injection hc with hc
    injection hc with e1 e2 e3
    subst e1 e2 e3
    obtain ⟨cur, hcur⟩ := row_type h.b q rfl
    refine ⟨q, m, e, h.blk.cell 3, hk, hkj, hj, hq, Blk.free (show Blk w q cur 4 from hcur) n, fun v => ?_⟩
    have hT : But (fun x => x = q) w (w.setCell ⟨q, n, none⟩ (.bool v)) := but_one _
    refine ⟨⟨A, N, c, some ⟨q, 0, none⟩, m, e, F1, ⟨h.blk.but hT (fun x => rb q rfl x.symm), Own.but h.a hT (fun x hx hx' => h.apart x hx (by rw [hx']; rfl)), ?_, h.an, ?_, C.L.but h.d hT (fun x hx hx' => h.ab q rfl (hx' ▸ hx)), h.ag, h.aa, h.ab, h.apart, h.pin, fun x hx => ⟨(h.gb x hx).1.but hT (fun hx' => h.box_ne hx hcur (.inl rfl) hx'), (h.gb x hx).2⟩⟩, h1, fun x hx => Nat.lt_of_lt_of_le (h2 x hx) hT.size⟩, fun _ hx => .inl hx, hT.mono (fun x hx => h1 x (.inr (.inr (.inl (by rw [hx]; rfl)))))⟩
    · show World.ownsRow _ _ _ _ _ _ (bs (s.b.set n v))
      rw [← bs_set]; exact own_cell1 h.b
    · show (s.b.set n v).length = m
      rw [List.length_set]; exact h.bn
theorem ml_stale (h : (ML C G g).At w s F) {i n : Nat} (hi : i < 2) (hn : n < (s.st i).length) :
    ∃ q k j, w.cell? ⟨g, 2 + i, none⟩ = some (.slice (some ⟨q, 0, none⟩) k j) ∧ n < k ∧ k ≤ j ∧ j ≤ maxLen ∧ w.cell? ⟨q, n, none⟩ = some (.bool ((s.st i).getD n false)) ∧ w.frozen? ⟨q, n, none⟩ = false ∧ ∀ v, Mv (ML C G g) w F (w.setCell ⟨q, n, none⟩ (.bool v)) (s.put i n v) F := by
  obtain ⟨A, N, c, B, m, e, F1, h, h1, h2⟩ := h
  exact h.set_stale h1 h2 hi hn
theorem ml_ptr (h : (ML C G g).At w s F) {i : Nat} (hi : i < 2) : w.cell? ⟨g, i, none⟩ = some (.pointer (C.ptr i)) ∧ g < w.heap.size := by
  obtain ⟨A, N, c, B, m, e, F1, h, h1, h2⟩ := h
  exact ⟨h.ptr_cell hi, h.blk.lt⟩
theorem ml_write (h : (ML C G g).At w s F) {i : Nat} (hi : i < 2) (n : Int) (x : List UInt8) (hx : x.length = 128) (hm : C.most s.d < 1000000) :
    Calls Tryz.prog 73 #[.pointer (C.ptr i), .int .i64 n, .agg (bva x)] w (RetA (ML C G g) (.int .i64 (C.wr s.d i n x).1) (s.dev (C.wr s.d i n x).2) F w) := by
  obtain ⟨F1, hd, hl⟩ := ml_dev h
  exact (C.cwr hd hi hm n x hx).mono fun _ _ hr => hl hr
/-- What is written to one device, which then isn't stale there. -/
def Mr.mend (s : Mr C) (i n : Nat) (x : List UInt8) : Int × Mr C :=
  ((C.wr s.d i n x).1, if (C.wr s.d i n x).1 = 0 then (s.dev (C.wr s.d i n x).2).put i n false else s.dev (C.wr s.d i n x).2)
end
end Go.Proofs.YtnplhagfmfggcaaGreat.Mi
/-
  A mirror, and boxes beside it; the contract of reached.
-/
namespace Go.Proofs.YtnplhagfmfggcaaGreat.Mi
open Go.RowKit Kd
attribute [local go_sem ↓] Go.wp_at_zero Go.wp_at_succ
/-- What is laid, and boxes beside it. -/
def Laid.and (L : Laid) (l : Bxs) : Laid where
  St := L.St
  At w s F := ∃ F0, L.At w s F0 ∧ (∀ x ∈ l, Blk w x.1 x.2.1 x.2.2 ∧ ¬ F0 x.1 ∧ F x.1) ∧ (∀ q, F0 q → F q) ∧ ∀ q, F q → q < w.heap.size
  but := fun ⟨F0, h, h1, h2, h3⟩ hb hd => ⟨F0, L.but h hb (fun q hq => hd q (h2 q hq)), fun x hx => ⟨(h1 x hx).1.but hb (hd _ (h1 x hx).2.2), (h1 x hx).2⟩, h2, fun q hq => Nat.lt_of_lt_of_le (h3 q hq) hb.size⟩
  lt := fun ⟨_, _, _, _, h3⟩ => h3
section
variable {L : Laid} {l : Bxs} {w w1 w2 : World} {s s1 s2 : L.St} {F F1 F2 : Nat → Prop}
/-- What is done to what is laid is done beside the boxes. -/
theorem and_lift (h : (L.and l).At w s F) : ∃ F0, L.At w s F0 ∧ (∀ q, F0 q → F q) ∧ (∀ x ∈ l, Blk w x.1 x.2.1 x.2.2) ∧ ∀ w' (s2 : L.St) F', Mv L w F0 w' s2 F' → Mv (L.and l) w F w' s2 (fun q => F q ∨ F' q) := by
  obtain ⟨F0, h0, h1, h2, h3⟩ := h
  refine ⟨F0, h0, h2, fun x hx => (h1 x hx).1, fun w' s2 F' hm => ⟨⟨F', hm.at_, fun x hx => ⟨(h1 x hx).1.but hm.but (h1 x hx).2.1, fun hf => ?_, .inl (h1 x hx).2.2⟩, fun q hq => .inr hq, ?_⟩, ?_, hm.but.mono h2⟩⟩
  · rcases hm.new _ hf with h4 | h4
    · exact (h1 x hx).2.1 h4
    · have := (h1 x hx).1.lt; omega
  · rintro q (hq | hq)
    · exact Nat.lt_of_lt_of_le (h3 q hq) hm.but.size
    · exact hm.lt q hq
  · rintro q (hq | hq)
    · exact .inl hq
    · exact (hm.new q hq).imp (h2 q) id
theorem and_ret (h : (L.and l).At w s F) : ∃ F0, L.At w s F0 ∧ ∀ {v : Value} {s2 : L.St} {e w'}, RetA L v s2 F0 w e w' → RetA (L.and l) v s2 F w e w' := by
  obtain ⟨F0, h0, _, _, hl⟩ := and_lift h
  refine ⟨F0, h0, ?_⟩
  rintro v s2 e w' ⟨rfl, F', hm⟩
  exact ⟨rfl, _, hl _ _ _ hm⟩
theorem and_nil (h : L.At w s F) : (L.and []).At w s F := ⟨F, h, fun x hx => (by cases hx), fun _ h => h, L.lt h⟩
/-- Boxes that are new come beside. -/
theorem and_start (h : Mv L w F w1 s F1) (hb : ∀ x ∈ l, Bx w w1 F1 x.1 x.2.1 x.2.2) : (L.and l).At w1 s (fun q => F1 q ∨ ∃ x ∈ l, q = x.1) :=
  ⟨F1, h.at_, fun x hx => ⟨(hb x hx).1, (hb x hx).2.2, .inr ⟨x, hx, rfl⟩⟩, fun q hq => .inl hq, by
    rintro q (hq | ⟨x, hx, rfl⟩)
    · exact h.lt q hq
    · exact (hb x hx).1.lt⟩
/-- .. and go again. -/
theorem and_end (h : Mv L w F w1 s F1) (hb : ∀ x ∈ l, Bx w w1 F1 x.1 x.2.1 x.2.2) (hm : Mv (L.and l) w1 (fun q => F1 q ∨ ∃ x ∈ l, q = x.1) w2 s2 F2) : ∃ F', Mv L w F w2 s2 F' := by
  obtain ⟨F0, h0, h1, h2, h3⟩ := hm.at_
  have hn : ∀ q, (F1 q ∨ ∃ x ∈ l, q = x.1) → F q ∨ w.heap.size ≤ q := by
    rintro q (hq | ⟨x, hx, rfl⟩)
    · exact h.new q hq
    · exact .inr (hb x hx).2.1
  refine ⟨F0, h0, fun q hq => ?_, but_step h.but hm.but hn⟩
  rcases hm.new q (h2 q hq) with h4 | h4
  · exact hn q h4
  · exact .inr (Nat.le_trans h.size h4)
end
section
variable {C : Duo} {G : Gd} {g : Nat} {l : Bxs} {w w1 : World} {s s1 s2 : Mr C} {F1 F : Nat → Prop}
/-- What reached makes of a mirror. -/
def Mr.reach (s2 : Mr C) (n : Nat) (x y : Bool) : Int × Mr C := if x || y then (0, (s2.put 0 n (!x)).put 1 n (!y)) else (13, s2)
theorem ml_stale_and (h : ((ML C G g).and l).At w s F) {i n : Nat} (hi : i < 2) (hn : n < (s.st i).length) :
    ∃ q k j, w.cell? ⟨g, 2 + i, none⟩ = some (.slice (some ⟨q, 0, none⟩) k j) ∧ n < k ∧ k ≤ j ∧ j ≤ maxLen ∧ w.cell? ⟨q, n, none⟩ = some (.bool ((s.st i).getD n false)) ∧ w.frozen? ⟨q, n, none⟩ = false ∧ ∀ v, ∃ F', Mv ((ML C G g).and l) w F (w.setCell ⟨q, n, none⟩ (.bool v)) (s.put i n v) F' := by
  obtain ⟨F0, h0, _, _, hl⟩ := and_lift h
  obtain ⟨q, k, j, h1, h2, h3, h4, h5, h6, h7⟩ := ml_stale h0 hi hn
  exact ⟨q, k, j, h1, h2, h3, h4, h5, h6, fun v => ⟨_, hl _ _ _ (h7 v)⟩⟩
set_option maxRecDepth 100000 in
set_option maxHeartbeats 6400000 in
theorem reached_any (h : ((ML C G g).and l).At w s F) {n k : Nat} {b c : Array Value} {x y : Bool} {N : Nat} (hs2 : s2.ok N) (hn : n < N) (hC : ∀ (args : Array Value) (W : World), (callFunc k args).run Tryz.prog W = .ok (.enter k args) W)
    (h0 : ∀ w F, ((ML C G g).and l).At w s F → Calls Tryz.prog k (b ++ #[.int .i64 0] ++ c) w (RetA ((ML C G g).and l) (.bool x) s1 F w))
    (h1 : ∀ w F, ((ML C G g).and l).At w s1 F → Calls Tryz.prog k (b ++ #[.int .i64 1] ++ c) w (RetA ((ML C G g).and l) (.bool y) s2 F w)) :
    Calls Tryz.prog 71 #[.pointer (some ⟨g, 0, none⟩), .int .i64 n, .func (.func k) b c] w (RetA ((ML C G g).and l) (.int .i64 (s2.reach n x y).1) (s2.reach n x y).2 F w) := by
  have HEA := Lib.hid (each_any h hC h0 h1)
  have HS2 := Lib.hid hs2
  have HN := Lib.hid hn
  have n0 : (0 : Int) ≤ (n : Int) := by omega
  obtain ⟨RV, hRV⟩ : ∃ RV, RV = s2.reach n x y := ⟨_, rfl⟩
  rw [← hRV]
  have HRV := Lib.hid hRV
  clear hRV h0 h1 h hC hs2 hn
  go_enter Tryz.func71, Tryz.ntmps71
  go_wp2_with fail
  refine HEA.out.mono ?_
  rintro e w1 ⟨rfl, F1, hm1⟩
  have M1 := Lib.hid hm1
  clear hm1 HEA
  have HI2 : Hid ((Tryz.prog.info? 80).map (·.size) = some (two2 x y).size) := by show _ = _; kernel_rfl
  go_wp2_with (show wpList _ _ _ ({ dst := none, op := .store 80 (.tmp 7) (.tmp 11), type := _, pos := _, after := _, guard := _ } :: _) _ _; apply Classical.byContradiction; intro hneg)
  refine hneg ?_
  clear hneg
  refine wpList_store_row rfl 80 (.tmp 7) (.tmp 11) rfl w1.heap.size (two2 x y) rfl rfl 80 (two2 false false) (heap_alloc_new _ _) HI2.out (by rfl) (two2_one _ _) ?_
  obtain ⟨w2, hw2⟩ : ∃ w2, w2 = (w1.alloc (.cells (two2 false false) 80)).setRow w1.heap.size (two2 x y) := ⟨_, rfl⟩
  have hb2 : Below w1.heap.size w1 w2 := by rw [hw2]; exact below_setRow ((Below.refl _ _).alloc (Nat.le_refl _) _) (Nat.le_refl _) _
  have BX := Lib.hid (show Bx w w2 F1 w1.heap.size (two2 x y) 80 from Bx.new M1.out (by rw [hw2]; exact setRow_heap _ _ _ _ _ _ (heap_alloc_new _ _)) (Nat.le_refl _))
  have M2 := Lib.hid (M1.out.below hb2)
  rw [show (two2 false false) = #[.bool false, .bool false] from rfl] at hw2
  rw [← hw2]
  clear hw2 hb2 M1
  obtain ⟨bx, hbx⟩ : ∃ bx, bx = w1.heap.size := ⟨_, rfl⟩
  rw [← hbx] at BX
  rw [← hbx]
  clear hbx
  obtain ⟨o, ho⟩ : ∃ o, o = (x || y) := ⟨_, rfl⟩
  have hE : ∀ W, (Op.equalIn 10000 80 (.agg #[.bool x, .bool y]) (.agg #[.bool false, .bool false])).run Tryz.prog W = .ok (!o) W := fun W => by rw [ho]; exact eq_ff x y W
  have HO := Lib.hid ho
  clear ho
  cases o
  · have HEND := Lib.hid (show RV = (13, s2) by rw [HRV.out, Mr.reach, if_neg (by rw [← HO.out]; simp)])
    go_wp2_with (refine wpList_load_row rfl 80 (.tmp 7) rfl bx rfl 80 #[.bool x, .bool y] (0, 0) _ BX.out.1 Tryz.underlying80 rfl HI2.out ?_)
    go_ret
    exact ⟨by rw [HEND.out]; rfl, F1, by rw [HEND.out]; exact M2.out⟩
  · have HEND := Lib.hid (show RV = (0, (s2.put 0 n (!x)).put 1 n (!y)) by rw [HRV.out, Mr.reach, if_pos HO.out.symm])
    go_wp2_with (refine wpList_load_row rfl 80 (.tmp 7) rfl bx rfl 80 #[.bool x, .bool y] (0, 0) _ BX.out.1 Tryz.underlying80 rfl HI2.out ?_)
    go_loopw [16] (fun i wr => ∃ (j : Nat) (F' : Nat → Prop) (s' : Mr C), i = .int .i64 j ∧ Mv ((ML C G g).and l) w F wr s' F' ∧ ((j = 0 ∧ s' = s2) ∨ (j = 1 ∧ s' = s2.put 0 n (!x)) ∨ (j = 2 ∧ s' = (s2.put 0 n (!x)).put 1 n (!y)))) (fun i _ => 2 - (intOf i).toNat)
    case atStart => exact ⟨0, F1, s2, rfl, M2.out, .inl ⟨rfl, rfl⟩⟩
    case round =>
      clear M2 BX
      obtain ⟨j, F', s', rfl, hm, hj⟩ := hrel
      have M := Lib.hid hm
      clear hm
      rcases hj with ⟨rfl, hs⟩ | ⟨rfl, hs⟩ | ⟨rfl, hs⟩
      · have HS := Lib.hid hs
        obtain ⟨q, k, j, hc, hk, hkj, hj, hq, hf, hset⟩ := ml_stale_and M.out.at_ (i := 0) (n := n) (by omega) (by rw [hs, HS2.out.st]; exact HN.out)
        have HSET := Lib.hid hset
        have n1 : (n : Int) < (k : Int) := by omega
        clear hset hk hkj hj hs
        go_wp2_with (refine wpList_execg8 (o := { dst := some 19, op := .index 80 (.tmp 15) (.tmp 16), type := _, pos := _, after := _, guard := _ }) (v := .bool x) (w' := wr) rfl ?hix ?_; case hix => kernel_rfl)
        go_roundw  
        case rel =>
          obtain ⟨F2, hm2⟩ := HSET.out (!x)
          exact ⟨1, F2, s2.put 0 n (!x), rfl, M.out.trans (by rw [← HS.out]; exact hm2), .inr (.inl ⟨rfl, rfl⟩)⟩
        case measure => simp [intOf]
      · have HS := Lib.hid hs
        obtain ⟨q, k, j, hc, hk, hkj, hj, hq, hf, hset⟩ := ml_stale_and M.out.at_ (i := 1) (n := n) (by omega) (by rw [hs, HS2.out.put.st]; exact HN.out)
        have HSET := Lib.hid hset
        have n1 : (n : Int) < (k : Int) := by omega
        clear hset hk hkj hj hs
        go_wp2_with (refine wpList_execg8 (o := { dst := some 19, op := .index 80 (.tmp 15) (.tmp 16), type := _, pos := _, after := _, guard := _ }) (v := .bool y) (w' := wr) rfl ?hix ?_; case hix => kernel_rfl)
        go_roundw  
        case rel =>
          obtain ⟨F2, hm2⟩ := HSET.out (!y)
          exact ⟨2, F2, (s2.put 0 n (!x)).put 1 n (!y), rfl, M.out.trans (by rw [← HS.out]; exact hm2), .inr (.inr ⟨rfl, rfl⟩)⟩
        case measure => simp [intOf]
      · have HS := Lib.hid hs
        clear hs
        go_wp2_with fail
        go_ret
        exact ⟨by rw [HEND.out]; rfl, F', by rw [HEND.out, ← HS.out]; exact M.out⟩
end
end Go.Proofs.YtnplhagfmfggcaaGreat.Mi
/-
  The contract of the mirror's Write.
-/
namespace Go.Proofs.YtnplhagfmfggcaaGreat.Mi
open Go.RowKit Kd
attribute [local go_sem ↓] Go.wp_at_zero Go.wp_at_succ
section
variable {C : Duo} {G : Gd} {g : Nat} {w w1 : World} {s : Mr C} {F1 F : Nat → Prop}
/-- The boxes of Write's and Choose's arguments. -/
def argB (g : Nat) (n : Int) (x : List UInt8) (b : Nat) : Bxs := [(b, #[.pointer (some ⟨g, 0, none⟩)], 29), (b + 1, #[.int .i64 n], 3), (b + 1 + 1, bva x, 101)]
theorem write1_enter (args : Array Value) (W : World) : (callFunc 72 args).run Tryz.prog W = .ok (.enter 72 args) W := by kernel_rfl
set_option maxRecDepth 100000 in
set_option maxHeartbeats 6400000 in
theorem write1_any {b : Nat} {n : Int} {x : List UInt8} (h : ((ML C G g).and (argB g n x b)).At w s F) {i : Nat} (hi : i < 2) (hx : x.length = 128) (hm : C.most s.d < 1000000) :
    Calls Tryz.prog 72 #[.int .i64 i, .pointer (some ⟨b, 0, none⟩), .pointer (some ⟨b + 1, 0, none⟩), .pointer (some ⟨b + 1 + 1, 0, none⟩)] w (RetA ((ML C G g).and (argB g n x b)) (.bool ((C.wr s.d i n x).1 == 0)) (s.dev (C.wr s.d i n x).2) F w) := by
  have HI := Lib.hid hi
  have HIX : Hid ((Tryz.prog.info? 101).map (·.size) = some (bva x).size) := by rw [bva_size, hx]; exact info_sec
  have i0 : (0 : Int) ≤ (i : Int) := by omega
  have i1 : (i : Int) < 2 := by omega
  have HP := Lib.hid (show ∀ w' s' F', ((ML C G g).and (argB g n x b)).At w' s' F' → w'.cell? ⟨g, i, none⟩ = some (.pointer (C.ptr i)) ∧ w'.cell? ⟨b, 0, none⟩ = some (.pointer (some ⟨g, 0, none⟩)) ∧ w'.cell? ⟨b + 1, 0, none⟩ = some (.int .i64 n) ∧ Blk w' (b + 1 + 1) (bva x) 101 from fun w' s' F' h => by
    obtain ⟨F0, h0, _, h2, _⟩ := and_lift h
    exact ⟨(ml_ptr h0 hi).1, (h2 _ (by unfold argB; exact List.mem_cons_self)).cell 0, (h2 _ (by unfold argB; exact List.mem_cons_of_mem _ List.mem_cons_self)).cell 0, h2 _ (by unfold argB; exact List.mem_cons_of_mem _ (List.mem_cons_of_mem _ List.mem_cons_self))⟩)
  have hd : ((ML C G g).and (argB g n x b)).At w.drew s F := ((ML C G g).and (argB g n x b)).below h (Below.refl _ _).drew
  obtain ⟨F0, hd0, hl⟩ := and_ret hd
  have HCW := Lib.hid ((ml_write hd0 hi n x hx hm).mono fun _ _ hr => hl hr)
  have H := Lib.hid h
  have HD := Lib.hid hd
  obtain ⟨P, hP⟩ : ∃ P, P = C.ptr i := ⟨_, rfl⟩
  rw [← hP] at HP HCW
  obtain ⟨r, hr⟩ : ∃ r, r = (C.wr s.d i n x).1 := ⟨_, rfl⟩
  rw [← hr]
  rw [← hr] at HCW
  clear hd hl hd0 hm hx h hi hr hP
  go_enter Tryz.func72, Tryz.ntmps72
  go_wp2_with fail
  refine wp_region_held_drew (S := fun w' => w'.cell? ⟨g, i, none⟩ = some (.pointer P) ∧ w'.cell? ⟨b, 0, none⟩ = some (.pointer (some ⟨g, 0, none⟩)) ∧ w'.cell? ⟨b + 1, 0, none⟩ = some (.int .i64 n) ∧ Blk w' (b + 1 + 1) (bva x) 101) (by kernel_rfl) (HP.out _ _ _ HD.out) (fun hh => ?_)
  have HH := Lib.hid hh
  clear hh
  refine wpAnyH_take (i := 0) (v := .pointer (some ⟨g, 0, none⟩)) rfl (by kernel_rfl) (by kernel_rfl) (by kernel_rfl) (fun _ _ _ h => h) (Or.inl ⟨by rfl, fun w' hw' => ?yW0⟩) HH.out ?_
  case yW0 => (have hc := hw'.2.1; go_simp; try with_reducible rfl)
  refine wpAnyH_take (i := 1) (v := ?vW1) rfl (by kernel_rfl) (by kernel_rfl) (by kernel_rfl) (fun _ _ _ h => h) (Or.inl ⟨by rfl, fun w' _ => ?yW1⟩) HH.out ?_
  case yW1 => (go_simp; try with_reducible rfl)
  try simp only [List.getElem_toArray, List.getElem_cons_succ, List.getElem_cons_zero, Act.put, List.setIfInBounds_toArray, List.set_cons_zero, List.set_cons_succ]
  refine wpAnyH_take (i := 2) (v := ?vW2) rfl (by kernel_rfl) (by kernel_rfl) (by kernel_rfl) (fun _ _ _ h => h) (Or.inl ⟨by rfl, fun w' _ => ?yW2⟩) HH.out ?_
  case yW2 => (go_simp; try with_reducible rfl)
  refine wpAnyH_take (i := 3) (v := ?vW3) rfl (by kernel_rfl) (by kernel_rfl) (by kernel_rfl) (fun _ _ _ h => h) (Or.inl ⟨by rfl, fun w' _ => ?yW3⟩) HH.out ?_
  case yW3 => (go_simp; try with_reducible rfl)
  refine wpAnyH_take (i := 4) (v := ?vW4) rfl (by kernel_rfl) (by kernel_rfl) (by kernel_rfl) (fun _ _ _ h => h) (Or.inl ⟨by rfl, fun w' _ => ?yW4⟩) HH.out ?_
  case yW4 => (go_simp; try with_reducible rfl)
  try simp only [List.getElem_toArray, List.getElem_cons_succ, List.getElem_cons_zero, Act.put, List.setIfInBounds_toArray, List.set_cons_zero, List.set_cons_succ]
  refine wpAnyH_take (i := 5) (v := .pointer P) rfl (by kernel_rfl) (by kernel_rfl) (by kernel_rfl) (fun _ _ _ h => h) (Or.inl ⟨by rfl, fun w' hw' => ?yW5⟩) HH.out ?_
  case yW5 => (have hc := hw'.1; go_simp; try with_reducible rfl)
  refine wpAnyH_take (i := 6) (v := .int .i64 n) rfl (by kernel_rfl) (by kernel_rfl) (by kernel_rfl) (fun _ _ _ h => h) (Or.inl ⟨by rfl, fun w' hw' => ?yW6⟩) HH.out ?_
  case yW6 => (have hc := hw'.2.2.1; go_simp; try with_reducible rfl)
  refine wpAnyH_take (i := 7) (v := .agg (bva x)) rfl (by kernel_rfl) (by kernel_rfl) (by kernel_rfl) (fun _ _ _ h => h) (Or.inl ⟨by rfl, fun w' hw' => ?yW7⟩) HH.out ?_
  case yW7 => exact exec_load 101 (.tmp 3) rfl rfl hw'.2.2.2 Tryz.underlying101 rfl HIX.out
  try simp only [List.getElem_toArray, List.getElem_cons_succ, List.getElem_cons_zero, Act.put, List.setIfInBounds_toArray, List.set_cons_zero, List.set_cons_succ]
  refine wpAnyH_ready (rs := [8]) (by kernel_rfl) (by simp) (AllReadyH.cons rfl (fun K hK => ?_) AllReadyH.nil)
  go_simp
  refine HCW.out.mono ?_
  rintro e2 w2 ⟨rfl, F2, hm2⟩
  have M2 := Lib.hid hm2
  go_simp
  refine hK.out _ _ (HP.out _ _ _ M2.out.at_) (fun hh => ?_)
  have HH' := Lib.hid hh
  clear hh hK K HH hm2 HCW
  have HH := Lib.hid HH'.out
  clear HH'
  refine wpAnyH_take (i := 9) (v := ?vW9) rfl (by kernel_rfl) (by kernel_rfl) (by kernel_rfl) (fun _ _ _ h => h) (Or.inl ⟨by rfl, fun w' _ => ?yW9⟩) HH.out ?_
  case yW9 => (go_simp; try with_reducible rfl)
  refine wpAnyH_take (i := 10) (v := ?vW10) rfl (by kernel_rfl) (by kernel_rfl) (by kernel_rfl) (fun _ _ _ h => h) (Or.inl ⟨by rfl, fun w' _ => ?yW10⟩) HH.out ?_
  case yW10 => (go_simp; try with_reducible rfl)
  try simp only [List.getElem_toArray, List.getElem_cons_succ, List.getElem_cons_zero, Act.put, List.setIfInBounds_toArray, List.set_cons_zero, List.set_cons_succ]
  refine wpAnyH_done (by kernel_rfl) ?_ _
  go_wp2_with fail
  go_ret
  exact ⟨rfl, F2, ((Mv.start H.out).below (Below.refl _ _).drew).trans M2.out⟩
/-- What Write makes of a mirror, and tells. -/
def Mr.w0 (s : Mr C) (n : Int) (x : List UInt8) (i : Nat) : Mr C := s.dev (C.wr s.d i n x).2
def Mr.write (s : Mr C) (n : Int) (x : List UInt8) : Int × Mr C :=
  if has s n then ((s.w0 n x 0).w0 n x 1).reach n.toNat ((C.wr s.d 0 n x).1 == 0) ((C.wr (s.w0 n x 0).d 1 n x).1 == 0) else (2, s)
theorem three_boxes (w : World) (A B D : Obj) : ∃ w3, w3 = ((w.alloc A).alloc B).alloc D ∧ w3.heap[w.heap.size]? = some A ∧ w3.heap[w.heap.size + 1]? = some B ∧ w3.heap[w.heap.size + 1 + 1]? = some D ∧ Below w.heap.size w w3 := by
  refine ⟨_, rfl, ?_, ?_, ?_, ?_⟩
  · rw [heap_alloc_old _ _ (by simp; omega), heap_alloc_old _ _ (by simp)]; exact heap_alloc_new _ _
  · rw [heap_alloc_old _ _ (by simp)]; have h := heap_alloc_new (w.alloc A) B; rwa [World.size_alloc] at h
  · have h := heap_alloc_new ((w.alloc A).alloc B) D; rwa [World.size_alloc, World.size_alloc] at h
  · exact (((Below.refl _ _).alloc (Nat.le_refl _) _).alloc (by simp) _).alloc (by simp; omega) _
set_option maxRecDepth 100000 in
set_option maxHeartbeats 6400000 in
theorem mwrite_no {p : Option Addr} {n : Int} (x : List UInt8) (hc : ∀ w', Below w.heap.size w w' → Calls Tryz.prog 70 #[.pointer p, .int .i64 n] w' (RetB (.bool false) w')) : Calls Tryz.prog 48 #[.pointer p, .int .i64 n, .agg (bva x)] w (RetB (.int .i64 2) w) := by
  obtain ⟨w3, hw3, h0, h1, h2, hb⟩ := three_boxes w (.cells #[.pointer p] 29) (.cells #[.int .i64 n] 3) (.cells (bva x) 101)
  have HC := Lib.hid (hc w3 hb)
  have HB := Lib.hid hb
  have c0 : w3.cell? ⟨w.heap.size, 0, none⟩ = some (.pointer p) := Blk.cell (show Blk w3 w.heap.size #[.pointer p] 29 from h0) 0
  have c1 : w3.cell? ⟨w.heap.size + 1, 0, none⟩ = some (.int .i64 n) := Blk.cell (show Blk w3 (w.heap.size + 1) #[.int .i64 n] 3 from h1) 0
  clear hc h0 h1 h2 hb
  go_enter Tryz.func48, Tryz.ntmps48
  go_upto_region 1 with fail
  rw [← hw3]
  clear hw3
  go_wp2_with fail
  refine HC.out.mono ?_
  rintro e w4 ⟨rfl, bw⟩
  go_wp2_with fail
  go_ret
  exact ⟨rfl, HB.out.trans (bw.mono HB.out.size)⟩
theorem mwrite_nil (n : Int) (x : List UInt8) : Calls Tryz.prog 48 #[.pointer none, .int .i64 n, .agg (bva x)] w (RetB (.int .i64 2) w) := mwrite_no x (fun w' _ => has_nil w' n)
set_option maxRecDepth 100000 in
set_option maxHeartbeats 6400000 in
theorem mwrite_any (h : (ML C G g).At w s F) {k : Nat} (hk : s.ok k) (n : Int) (x : List UInt8) (hx : x.length = 128) (hm : C.most s.d < 900000) : Calls Tryz.prog 48 #[.pointer (some ⟨g, 0, none⟩), .int .i64 n, .agg (bva x)] w (RetA (ML C G g) (.int .i64 (s.write n x).1) (s.write n x).2 F w) := by
  cases hh : has s n with
  | false =>
    rw [Mr.write, hh, if_neg (by simp)]
    refine (mwrite_no x (fun w' hb => ?_)).mono fun _ _ hr => RetB.reta h hr
    have := has_any ((ML C G g).below h hb) n
    rwa [hh] at this
  | true =>
    obtain ⟨j, rfl⟩ : ∃ j : Nat, n = (j : Int) := ⟨n.toNat, by rw [has] at hh; simp at hh; omega⟩
    have hj : j < k := by rw [has] at hh; simp at hh; rw [← hk.1]; exact hh
    obtain ⟨w3, hw3, h0, h1, h2, hb⟩ := three_boxes w (.cells #[.pointer (some ⟨g, 0, none⟩)] 29) (.cells #[.int .i64 j] 3) (.cells (bva x) 101)
    have M3 := Lib.hid ((Mv.start h).below hb)
    obtain ⟨b, hbe⟩ : ∃ b, b = w.heap.size := ⟨_, rfl⟩
    have X3 := Lib.hid (show ∀ y ∈ argB g j x b, Bx w w3 F y.1 y.2.1 y.2.2 from by
      have hl := (ML C G g).lt h
      intro y hy
      rw [argB, hbe] at hy
      rcases List.mem_cons.1 hy with rfl | hy
      · exact ⟨h0, Nat.le_refl _, fun hf => by have := hl _ hf; omega⟩
      rcases List.mem_cons.1 hy with rfl | hy
      · exact ⟨h1, Nat.le_succ _, fun hf => by have := hl _ hf; omega⟩
      rw [List.mem_singleton] at hy
      subst hy
      exact ⟨h2, by omega, fun hf => by have := hl _ hf; omega⟩)
    have hhas := has_any M3.out.at_ (j : Int)
    rw [hh] at hhas
    have HH1 := Lib.hid hhas
    obtain ⟨sv, hsv⟩ : ∃ sv, sv = s.write (j : Int) x := ⟨_, rfl⟩
    rw [← hsv]
    have HSV := Lib.hid (show sv = ((s.w0 (j : Int) x 0).w0 (j : Int) x 1).reach j ((C.wr s.d 0 j x).1 == 0) ((C.wr (s.w0 (j : Int) x 0).d 1 j x).1 == 0) by rw [hsv, Mr.write, hh, if_pos rfl, Int.toNat_natCast])
    have HK := Lib.hid hk
    have HJ := Lib.hid hj
    have HX3 := Lib.hid hx
    have HM := Lib.hid hm
    have c0 : w3.cell? ⟨b, 0, none⟩ = some (.pointer (some ⟨g, 0, none⟩)) := by rw [hbe]; exact Blk.cell (show Blk w3 w.heap.size #[.pointer (some ⟨g, 0, none⟩)] 29 from h0) 0
    have c1 : w3.cell? ⟨b + 1, 0, none⟩ = some (.int .i64 j) := by rw [hbe]; exact Blk.cell (show Blk w3 (w.heap.size + 1) #[.int .i64 j] 3 from h1) 0
    clear hsv hhas hh hb h0 h1 h2 hk hj hx hm h
    go_enter Tryz.func48, Tryz.ntmps48
    go_upto_region 1 with fail
    rw [← hw3, ← hbe]
    clear hw3 hbe
    go_wp2_with fail
    refine HH1.out.mono ?_
    rintro e w4 ⟨rfl, bw⟩
    have M4 := Lib.hid (M3.out.below bw)
    have X4 := Lib.hid (show ∀ y ∈ argB g j x b, Bx w w4 F y.1 y.2.1 y.2.2 from fun y hy => (X3.out y hy).below bw)
    have d0 : w4.cell? ⟨b, 0, none⟩ = some (.pointer (some ⟨g, 0, none⟩)) := (X4.out _ (by unfold argB; exact List.mem_cons_self)).1.cell 0
    have d1 : w4.cell? ⟨b + 1, 0, none⟩ = some (.int .i64 j) := (X4.out _ (by unfold argB; exact List.mem_cons_of_mem _ List.mem_cons_self)).1.cell 0
    clear bw M3 X3 c0 c1 HH1
    go_wp2_with fail
    have hcall := reached_any (and_start M4.out X4.out) (n := j) (b := #[]) (c := #[.pointer (some ⟨b, 0, none⟩), .pointer (some ⟨b + 1, 0, none⟩), .pointer (some ⟨b + 1 + 1, 0, none⟩)]) (N := k) (s1 := s.w0 (j : Int) x 0) (s2 := (s.w0 (j : Int) x 0).w0 (j : Int) x 1) HK.out HJ.out write1_enter
      (fun w' F' h => write1_any h (i := 0) (by omega) HX3.out (by have := HM.out; omega)) (fun w' F' h => write1_any (s := s.w0 (j : Int) x 0) h (i := 1) (by omega) HX3.out (by have := HM.out; have := C.wr_most (s := s.d) (i := 0) (n := j) (x := x) (by omega); show C.most (C.wr s.d 0 j x).2 < _; omega))
    rw [← HSV.out] at hcall
    refine hcall.mono ?_
    clear hcall
    rintro e w5 ⟨rfl, F5, hm5⟩
    have M5 := Lib.hid (and_end M4.out X4.out hm5)
    go_wp2_with fail
    go_ret
    exact ⟨rfl, M5.out⟩
end
end Go.Proofs.YtnplhagfmfggcaaGreat.Mi
/-
  The contract of the mirror's Read.
-/
namespace Go.Proofs.YtnplhagfmfggcaaGreat.Mi
open Go.RowKit Kd
attribute [local go_sem ↓] Go.wp_at_zero Go.wp_at_succ
section
variable {C : Duo} {G : Gd} {g : Nat} {w : World} {s : Mr C} {F1 F : Nat → Prop}
/-- What Read tells of a place: the sector; how it went. -/
def readM (C : Duo) (G : Gd) (s : Mr C) (n : Int) : List UInt8 × Int :=
  if has s n then
    (if right C G s 0 n.toNat then ((C.rd s.d 0 n).2, 0) else if right C G s 1 n.toNat then ((C.rd s.d 1 n).2, 0)
     else (zeroS, if C.there s.d 0 || C.there s.d 1 then 9 else 13))
  else (zeroS, 2)
set_option maxRecDepth 100000 in
set_option maxHeartbeats 3200000 in
theorem mread_no {P : Value} {n : Int} (hc : ∀ w', Below w.heap.size w w' → Calls Tryz.prog 70 #[P, .int .i64 n] w' (RetB (.bool false) w')) : Calls Tryz.prog 51 #[P, .int .i64 n] w (RetB (.tuple #[.agg (bva zeroS), .int .i64 2]) w) := by
  obtain ⟨z, hz0⟩ : ∃ z : List UInt8, z = zeroS := ⟨_, rfl⟩
  rw [← hz0]
  have hz : ∀ W, (zeroValue 101).run Tryz.prog W = .ok (.agg (bva z)) W := fun _ => by rw [hz0]; kernel_rfl
  have HBZ := Lib.hid (show ∀ W, (Instr.build 101 #[]).run Tryz.prog W = .ok (.agg (bva z)) W from fun _ => by rw [hz0]; kernel_rfl)
  have HIZ : Hid ((Tryz.prog.info? 101).map (·.size) = some (bva z).size) := by rw [bva_size, hz0, zeroS_length]; exact info_sec
  have R0 := Lib.hid (show Blk (w.alloc (.cells (bva z) 101)) w.heap.size (bva z) 101 from heap_alloc_new _ _)
  have HC := Lib.hid (hc _ ((Below.refl _ _).alloc (Nat.le_refl _) (.cells (bva z) 101)))
  clear hz0 hc
  go_enter Tryz.func51, Tryz.ntmps51
  go_wp2_with fail
  refine HC.out.mono ?_
  rintro e w1 ⟨rfl, bw⟩
  rw [World.size_alloc] at bw
  have R1 := Lib.hid (R0.out.below (by rw [World.size_alloc]; exact bw))
  have B1 := Lib.hid (show Below w.heap.size w w1 from ((Below.refl _ _).alloc (Nat.le_refl _) _).trans (bw.mono (Nat.le_succ _)))
  clear bw R0
  go_wp2_with (first
    | (refine wpList_build rfl 101 #[] rfl (v := .agg (bva z)) ?hbld ?_; case hbld => exact HBZ.out _)
    | (refine wpList_store_row rfl 101 (.tmp 4) (.tmp 13) rfl w.heap.size (bva z) rfl rfl 101 (bva z) R1.out HIZ.out (by rfl) (bva_one _) ?_))
  exact bodyPost_ret (v := .tuple #[.agg (bva z), .int .i64 2]) (results_ct8 Tryz.results51 _ _ w.heap.size 101 (bva z) _ rfl (setRow_heap _ _ _ _ _ _ R1.out) Tryz.underlying101 rfl HIZ.out) rfl ⟨rfl, below_setRow B1.out (Nat.le_refl _) _⟩
theorem mread_nil (n : Int) : Calls Tryz.prog 51 #[.pointer none, .int .i64 n] w (RetB (.tuple #[.agg (bva zeroS), .int .i64 2]) w) := mread_no (fun w' _ => has_nil w' n)
set_option maxRecDepth 100000 in
set_option maxHeartbeats 6400000 in
theorem mread_any (h : (ML C G g).At w s F) (hab : s.b.length = s.a.length) (n : Int) : Calls Tryz.prog 51 #[.pointer (some ⟨g, 0, none⟩), .int .i64 n] w (RetA (ML C G g) (.tuple #[.agg (bva (readM C G s n).1), .int .i64 (readM C G s n).2]) s F w) := by
  cases hh : has s n with
  | false =>
    rw [readM, hh, if_neg (by simp)]
    refine (mread_no (fun w' hb => ?_)).mono fun _ _ hr => RetB.reta h hr
    have := has_any ((ML C G g).below h hb) n
    rwa [hh] at this
  | true =>
    obtain ⟨k, rfl⟩ : ∃ k : Nat, n = (k : Int) := ⟨n.toNat, by rw [has] at hh; simp at hh; omega⟩
    have hk : k < s.a.length := by rw [has] at hh; simp at hh; exact hh
    have HK := Lib.hid (show ∀ i, i < 2 → k < (s.st i).length from fun i hi => by rcases two hi with rfl | rfl; exact hk; show k < s.b.length; omega)
    obtain ⟨z, hz0⟩ : ∃ z : List UInt8, z = zeroS := ⟨_, rfl⟩
    have hz : ∀ W, (zeroValue 101).run Tryz.prog W = .ok (.agg (bva z)) W := fun _ => by rw [hz0]; kernel_rfl
    have HBZ := Lib.hid (show ∀ W, (Instr.build 101 #[]).run Tryz.prog W = .ok (.agg (bva z)) W from fun _ => by rw [hz0]; kernel_rfl)
    have HZ3 := Lib.hid (show z.length = 128 by rw [hz0]; exact zeroS_length)
    have HIZ : Hid ((Tryz.prog.info? 101).map (·.size) = some (bva z).size) := by rw [bva_size, HZ3.out]; exact info_sec
    have R0 := Lib.hid (show Bx w (w.alloc (.cells (bva z) 101)) F w.heap.size (bva z) 101 from ⟨heap_alloc_new _ _, Nat.le_refl _, fun hf => by have := (ML C G g).lt h _ hf; omega⟩)
    have M0 := Lib.hid (show Mv (ML C G g) w F (w.alloc (.cells (bva z) 101)) s F from (Mv.start h).below ((Below.refl _ _).alloc (Nat.le_refl _) _))
    have hcc := has_any M0.out.at_ (k : Int)
    rw [hh] at hcc
    have HC := Lib.hid hcc
    obtain ⟨RV, hRV⟩ : ∃ RV, RV = Value.tuple #[.agg (bva (readM C G s k).1), .int .i64 (readM C G s k).2] := ⟨_, rfl⟩
    rw [← hRV]
    rw [readM, hh, if_pos rfl, Int.toNat_natCast, ← hz0] at hRV
    have HRV := Lib.hid hRV
    clear hRV hz0 hcc hh hk hab h
    go_enter Tryz.func51, Tryz.ntmps51
    go_wp2_with fail
    refine HC.out.mono ?_
    rintro e w1 ⟨rfl, bw⟩
    have M1 := Lib.hid (M0.out.below bw)
    have R1 := Lib.hid (R0.out.below bw)
    clear bw M0 R0
    obtain ⟨q, hq⟩ : ∃ q, q = w.heap.size := ⟨_, rfl⟩
    rw [← hq] at R1
    rw [← hq]
    clear hq
    go_wp2_with fail
    go_loopw [14] (fun i wr => ∃ (j : Nat) (F' : Nat → Prop), i = .int .i64 j ∧ j ≤ 2 ∧ Mv (ML C G g) w F wr s F' ∧ Bx w wr F' q (bva z) 101 ∧ ∀ i, i < j → right C G s i k = false) (fun i _ => 2 - (intOf i).toNat)
    case atStart => exact ⟨0, F, rfl, by omega, M1.out, R1.out, fun i hi => by omega⟩
    case round =>
      clear M1 R1
      obtain ⟨j, F', rfl, hj, hm, hr, hno⟩ := hrel
      have M := Lib.hid hm
      have R := Lib.hid hr
      have HJ := Lib.hid hj
      have HN := Lib.hid hno
      clear hm hr hj hno
      by_cases hlt : j < 2
      · have HJ2 := Lib.hid hlt
        have j0 : (0 : Int) ≤ (j : Int) := by omega
        have j1 : (j : Int) < 2 := by omega
        clear hlt
        go_wp2_with fail
        refine (right_any M.out.at_ HJ2.out (HK.out j HJ2.out)).mono ?_
        rintro e w2 ⟨rfl, bw⟩
        have M2 := Lib.hid (M.out.below bw)
        have R2 := Lib.hid (R.out.below bw)
        clear bw M R
        obtain ⟨y, hy⟩ : ∃ y, y = rightV C G s j k := ⟨_, rfl⟩
        have HY3 := Lib.hid (show y.length = 128 by rw [hy]; exact rightV_len M2.out.at_ HJ2.out k)
        have HIY : Hid ((Tryz.prog.info? 101).map (·.size) = some (bva y).size) := by rw [bva_size, HY3.out]; exact info_sec
        have HY := Lib.hid hy
        rw [← hy]
        clear hy
        go_wp2_with (show wpList _ _ _ ({ dst := none, op := .store 101 (.tmp 7) (.tmp 22), type := _, pos := _, after := _, guard := _ } :: _) _ _; apply Classical.byContradiction; intro hneg)
        refine hneg ?_
        clear hneg
        refine wpList_store_row rfl 101 (.tmp 7) (.tmp 22) rfl w2.heap.size (bva y) rfl rfl 101 (bva z) (heap_alloc_new _ _) HIY.out (by rw [bva_size, bva_size, HY3.out, HZ3.out]) (bva_one _) ?_
        obtain ⟨w3, hw3⟩ : ∃ w3, w3 = (w2.alloc (.cells (bva z) 101)).setRow w2.heap.size (bva y) := ⟨_, rfl⟩
        have hbw3 : Below w2.heap.size w2 w3 := by rw [hw3]; exact below_setRow ((Below.refl _ _).alloc (Nat.le_refl _) _) (Nat.le_refl _) _
        have BXw3 := Lib.hid (show Blk w3 w2.heap.size (bva y) 101 from by rw [hw3]; exact setRow_heap _ _ _ _ _ _ (heap_alloc_new _ _))
        rw [← hw3]
        clear hw3
        have M3 := Lib.hid (M2.out.below hbw3)
        have R3 := Lib.hid (R2.out.below hbw3)
        clear hbw3 M2 R2
        cases ho : right C G s j k with
        | false =>
          go_wp2_with fail
          go_roundw
          case rel => exact ⟨j + 1, F', by go_num, HJ2.out, M3.out, R3.out, fun i hi => by
            by_cases h : i < j
            · exact HN.out i h
            · obtain rfl : i = j := by omega
              exact ho⟩
          case measure => (have := HJ2.out; simp [intOf]; omega)
        | true =>
          have HEND := Lib.hid (show RV = .tuple #[.agg (bva y), .int .i64 0] by
            rw [HRV.out, HY.out, rightV, ho, if_pos rfl]
            rcases two HJ2.out with rfl | rfl
            · rw [ho, if_pos rfl]
            · rw [HN.out 0 (by omega), if_neg (by simp), ho, if_pos rfl])
          clear ho
          go_wp2_with (first
            | (refine wpList_load_row rfl 101 (.tmp 7) rfl w2.heap.size rfl 101 (bva y) (0, 0) _ BXw3.out Tryz.underlying101 rfl HIY.out ?_)
            | (refine wpList_store_row rfl 101 (.tmp 4) (.tmp 25) rfl q (bva y) rfl rfl 101 (bva z) R3.out.1 HIY.out (by rw [bva_size, bva_size, HY3.out, HZ3.out]) (bva_one _) ?_))
          exact bodyPost_ret (v := .tuple #[.agg (bva y), .int .i64 0]) (results_ct8 Tryz.results51 _ _ q 101 (bva y) _ rfl (setRow_heap _ _ _ _ _ _ R3.out.1) Tryz.underlying101 rfl HIY.out) rfl ⟨by rw [HEND.out], F', M3.out.own (But.setRow (S := fun x => x = q) (But.refl _) (.inl rfl) _) (fun x e => by rw [e]; exact R3.out.2.1) (fun x hx e => R3.out.2.2 (e ▸ hx))⟩
      · obtain rfl : j = 2 := by have := HJ.out; omega
        have hE := eq_ff
        obtain ⟨a, ha⟩ : ∃ a, a = C.there s.d 0 := ⟨_, rfl⟩
        obtain ⟨b, hb⟩ : ∃ b, b = C.there s.d 1 := ⟨_, rfl⟩
        have HEND := Lib.hid (show RV = .tuple #[.agg (bva z), .int .i64 (if a || b then 9 else 13)] by
          rw [HRV.out, HN.out 0 (by omega), if_neg (by simp), HN.out 1 (by omega), if_neg (by simp), ha, hb])
        have HT := Lib.hid (each_there M.out.at_)
        rw [← ha, ← hb] at HT
        clear hlt ha hb
        go_wp2_with fail
        refine HT.out.mono ?_
        rintro e w2 ⟨rfl, F2, hm2⟩
        have M2 := Lib.hid (M.out.trans hm2)
        have R2 := Lib.hid (R.out.step hm2)
        clear hm2 M R
        cases a <;> cases b
        · go_wp2_with (first
            | (refine wpList_build rfl 80 #[] rfl (v := .agg (two2 false false)) ?hbld ?_; case hbld => exact build_ff _)
            | (refine wpList_build rfl 101 #[] rfl (v := .agg (bva z)) ?hbld ?_; case hbld => exact HBZ.out _)
            | (refine wpList_store_row rfl 101 (.tmp 4) (.tmp 32) rfl q (bva z) rfl rfl 101 (bva z) R2.out.1 HIZ.out (by rfl) (bva_one _) ?_))
          exact bodyPost_ret (v := .tuple #[.agg (bva z), .int .i64 13]) (results_ct8 Tryz.results51 _ _ q 101 (bva z) _ rfl (setRow_heap _ _ _ _ _ _ R2.out.1) Tryz.underlying101 rfl HIZ.out) rfl ⟨by rw [HEND.out]; rfl, F2, M2.out.own (But.setRow (S := fun x => x = q) (But.refl _) (.inl rfl) _) (fun x e => by rw [e]; exact R2.out.2.1) (fun x hx e => R2.out.2.2 (e ▸ hx))⟩
        · go_wp2_with (first
            | (refine wpList_build rfl 80 #[] rfl (v := .agg (two2 false false)) ?hbld ?_; case hbld => exact build_ff _)
            | (refine wpList_build rfl 101 #[] rfl (v := .agg (bva z)) ?hbld ?_; case hbld => exact HBZ.out _)
            | (refine wpList_store_row rfl 101 (.tmp 4) (.tmp 33) rfl q (bva z) rfl rfl 101 (bva z) R2.out.1 HIZ.out (by rfl) (bva_one _) ?_))
          exact bodyPost_ret (v := .tuple #[.agg (bva z), .int .i64 9]) (results_ct8 Tryz.results51 _ _ q 101 (bva z) _ rfl (setRow_heap _ _ _ _ _ _ R2.out.1) Tryz.underlying101 rfl HIZ.out) rfl ⟨by rw [HEND.out]; rfl, F2, M2.out.own (But.setRow (S := fun x => x = q) (But.refl _) (.inl rfl) _) (fun x e => by rw [e]; exact R2.out.2.1) (fun x hx e => R2.out.2.2 (e ▸ hx))⟩
        · go_wp2_with (first
            | (refine wpList_build rfl 80 #[] rfl (v := .agg (two2 false false)) ?hbld ?_; case hbld => exact build_ff _)
            | (refine wpList_build rfl 101 #[] rfl (v := .agg (bva z)) ?hbld ?_; case hbld => exact HBZ.out _)
            | (refine wpList_store_row rfl 101 (.tmp 4) (.tmp 33) rfl q (bva z) rfl rfl 101 (bva z) R2.out.1 HIZ.out (by rfl) (bva_one _) ?_))
          exact bodyPost_ret (v := .tuple #[.agg (bva z), .int .i64 9]) (results_ct8 Tryz.results51 _ _ q 101 (bva z) _ rfl (setRow_heap _ _ _ _ _ _ R2.out.1) Tryz.underlying101 rfl HIZ.out) rfl ⟨by rw [HEND.out]; rfl, F2, M2.out.own (But.setRow (S := fun x => x = q) (But.refl _) (.inl rfl) _) (fun x e => by rw [e]; exact R2.out.2.1) (fun x hx e => R2.out.2.2 (e ▸ hx))⟩
        · go_wp2_with (first
            | (refine wpList_build rfl 80 #[] rfl (v := .agg (two2 false false)) ?hbld ?_; case hbld => exact build_ff _)
            | (refine wpList_build rfl 101 #[] rfl (v := .agg (bva z)) ?hbld ?_; case hbld => exact HBZ.out _)
            | (refine wpList_store_row rfl 101 (.tmp 4) (.tmp 33) rfl q (bva z) rfl rfl 101 (bva z) R2.out.1 HIZ.out (by rfl) (bva_one _) ?_))
          exact bodyPost_ret (v := .tuple #[.agg (bva z), .int .i64 9]) (results_ct8 Tryz.results51 _ _ q 101 (bva z) _ rfl (setRow_heap _ _ _ _ _ _ R2.out.1) Tryz.underlying101 rfl HIZ.out) rfl ⟨by rw [HEND.out]; rfl, F2, M2.out.own (But.setRow (S := fun x => x = q) (But.refl _) (.inl rfl) _) (fun x e => by rw [e]; exact R2.out.2.1) (fun x hx e => R2.out.2.2 (e ▸ hx))⟩
end
end Go.Proofs.YtnplhagfmfggcaaGreat.Mi
/-
  The contract of the mirror's Flush.
-/
namespace Go.Proofs.YtnplhagfmfggcaaGreat.Mi
open Go.RowKit Kd
attribute [local go_sem ↓] Go.wp_at_zero Go.wp_at_succ
section
variable {C : Duo} {G : Gd} {g : Nat} {w : World} {s : Mr C} {F : Nat → Prop}
def Mr.fl0 (s : Mr C) (i : Nat) : Mr C := ⟨(C.fl s.d i).2, s.a, s.b⟩
/-- What both tell as they are flushed. -/
def Mr.flushed (s : Mr C) : Bool × Bool := ((C.fl s.d 0).1 == 0, (C.fl (s.fl0 0).d 1).1 == 0)
def Mr.flush (s : Mr C) : Int × Mr C :=
  (if (C.there s.d 0 || C.there s.d 1) && s.flushed == (C.there s.d 0, C.there s.d 1) then 0 else 13, (s.fl0 0).fl0 1)
theorem each_flush (h : (ML C G g).At w s F) : Calls Tryz.prog 38 #[.func (.func 59) #[.pointer (some ⟨g, 0, none⟩)] #[]] w (RetA (ML C G g) (.agg (two2 s.flushed.1 s.flushed.2)) ((s.fl0 0).fl0 1) F w) :=
  each_any h flush_enter (fun _ _ h => mflush_any h (i := 0) (by omega)) (fun _ _ h => mflush_any (s := s.fl0 0) h (i := 1) (by omega))
theorem flush_nil (w : World) : Calls Tryz.prog 31 #[.pointer none] w (RetB (.int .i64 13) w) := by
  go_enter Tryz.func31, Tryz.ntmps31
  go_wp2_with fail
  go_ret
  exact ⟨rfl, Below.refl _ _⟩
set_option maxRecDepth 100000 in
set_option maxHeartbeats 6400000 in
theorem mflushm_any (h : (ML C G g).At w s F) : Calls Tryz.prog 31 #[.pointer (some ⟨g, 0, none⟩)] w (RetA (ML C G g) (.int .i64 s.flush.1) s.flush.2 F w) := by
  obtain ⟨a, ha⟩ : ∃ a, a = C.there s.d 0 := ⟨_, rfl⟩
  obtain ⟨b, hb⟩ : ∃ b, b = C.there s.d 1 := ⟨_, rfl⟩
  obtain ⟨c, hc⟩ : ∃ c, c = s.flushed.1 := ⟨_, rfl⟩
  obtain ⟨d, hd⟩ : ∃ d, d = s.flushed.2 := ⟨_, rfl⟩
  obtain ⟨s2, hs2⟩ : ∃ s2, s2 = (s.fl0 0).fl0 1 := ⟨_, rfl⟩
  obtain ⟨RV, hRV⟩ : ∃ RV, RV = s.flush := ⟨_, rfl⟩
  have HRV := Lib.hid (show RV = (if (a || b) && (c, d) == (a, b) then 0 else 13, s2) by rw [hRV, Mr.flush, ← ha, ← hb, hs2, show s.flushed = (c, d) by rw [hc, hd]])
  rw [← hRV]
  have HT := Lib.hid (each_there h)
  rw [← ha, ← hb] at HT
  have HF := Lib.hid (show ∀ w F, (ML C G g).At w s F → Calls Tryz.prog 38 #[.func (.func 59) #[.pointer (some ⟨g, 0, none⟩)] #[]] w (RetA (ML C G g) (.agg (two2 c d)) s2 F w) from fun w F h => by
    rw [hc, hd, hs2]; exact each_flush h)
  clear ha hb hc hd hs2 hRV h
  go_enter Tryz.func31, Tryz.ntmps31
  go_wp2_with fail
  refine HT.out.mono ?_
  rintro e w1 ⟨rfl, F1, hm⟩
  have M1 := Lib.hid hm
  clear hm HT
  have HI2 : ∀ a b, (Tryz.prog.info? 80).map (·.size) = some (two2 a b).size := fun _ _ => by kernel_rfl
  have HII := Lib.hid HI2
  clear HI2
  go_wp2_with (show wpList _ _ _ ({ dst := none, op := .store 80 (.tmp 3) (.tmp 9), type := _, pos := _, after := _, guard := _ } :: _) _ _; apply Classical.byContradiction; intro hneg)
  refine hneg ?_
  clear hneg
  refine wpList_store_row rfl 80 (.tmp 3) (.tmp 9) rfl w1.heap.size (two2 a b) rfl rfl 80 (two2 false false) (heap_alloc_new _ _) (HII.out _ _) (by rfl) (two2_one _ _) ?_
  obtain ⟨w2, hw2⟩ : ∃ w2, w2 = (w1.alloc (.cells #[.bool false, .bool false] 80)).setRow w1.heap.size (two2 a b) := ⟨_, rfl⟩
  have hb2 : Below w1.heap.size w1 w2 := by rw [hw2]; exact below_setRow ((Below.refl _ _).alloc (Nat.le_refl _) _) (Nat.le_refl _) _
  have X2 := Lib.hid (show Bx w w2 F1 w1.heap.size (two2 a b) 80 from Bx.new M1.out (by rw [hw2]; exact setRow_heap _ _ _ _ _ _ (heap_alloc_new _ _)) (Nat.le_refl _))
  have M2 := Lib.hid (M1.out.below hb2)
  rw [← hw2]
  clear hw2 hb2 M1
  obtain ⟨b3, hb3⟩ : ∃ b3, b3 = w1.heap.size := ⟨_, rfl⟩
  rw [← hb3] at X2
  rw [← hb3]
  clear hb3
  go_wp2_with fail
  refine (HF.out _ _ M2.out.at_).mono ?_
  rintro e w3 ⟨rfl, F3, hm⟩
  have M3 := Lib.hid (M2.out.trans hm)
  have X3 := Lib.hid (X2.out.step hm)
  clear hm HF M2 X2
  go_wp2_with (show wpList _ _ _ ({ dst := none, op := .store 80 (.tmp 4) (.tmp 12), type := _, pos := _, after := _, guard := _ } :: _) _ _; apply Classical.byContradiction; intro hneg)
  refine hneg ?_
  clear hneg
  refine wpList_store_row rfl 80 (.tmp 4) (.tmp 12) rfl w3.heap.size (two2 c d) rfl rfl 80 (two2 false false) (heap_alloc_new _ _) (HII.out _ _) (by rfl) (two2_one _ _) ?_
  obtain ⟨w4, hw4⟩ : ∃ w4, w4 = (w3.alloc (.cells #[.bool false, .bool false] 80)).setRow w3.heap.size (two2 c d) := ⟨_, rfl⟩
  have hb4 : Below w3.heap.size w3 w4 := by rw [hw4]; exact below_setRow ((Below.refl _ _).alloc (Nat.le_refl _) _) (Nat.le_refl _) _
  have X4 := Lib.hid (show Bx w w4 F3 w3.heap.size (two2 c d) 80 from Bx.new M3.out (by rw [hw4]; exact setRow_heap _ _ _ _ _ _ (heap_alloc_new _ _)) (Nat.le_refl _))
  have X5 := Lib.hid (X3.out.below hb4)
  have M4 := Lib.hid (M3.out.below hb4)
  rw [← hw4]
  clear hw4 hb4 M3 X3
  obtain ⟨b4, hb4⟩ : ∃ b4, b4 = w3.heap.size := ⟨_, rfl⟩
  rw [← hb4] at X4
  rw [← hb4]
  clear hb4
  have hE1 : ∀ W, (Op.equalIn 10000 80 (.agg #[.bool a, .bool b]) (.agg #[.bool false, .bool false])).run Tryz.prog W = .ok (!(a || b)) W := eq_ff a b
  have hE2 : ∀ W, (Op.equalIn 10000 80 (.agg (two2 c d)) (.agg (two2 a b))).run Tryz.prog W = .ok ((c == a) && (d == b)) W := eq_two c d a b
  obtain ⟨o, ho⟩ : ∃ o, o = (a || b) := ⟨_, rfl⟩
  rw [← ho] at hE1 HRV
  obtain ⟨q, hq⟩ : ∃ q, q = ((c == a) && (d == b)) := ⟨_, rfl⟩
  rw [← hq] at hE2
  have HEND := Lib.hid (show RV = (if o && q then 0 else 13, s2) by rw [HRV.out, hq]; rfl)
  clear ho hq
  cases o
  · go_wp2_with (refine wpList_load_row rfl 80 (.tmp 3) rfl b3 rfl 80 #[.bool a, .bool b] (0, 0) _ X5.out.1 Tryz.underlying80 rfl (HII.out _ _) ?_)
    go_ret
    exact ⟨by rw [HEND.out]; rfl, F3, by rw [HEND.out]; exact M4.out⟩
  · cases q
    · go_wp2_with (first
        | (refine wpList_load_row rfl 80 (.tmp 3) rfl b3 rfl 80 #[.bool a, .bool b] (0, 0) _ X5.out.1 Tryz.underlying80 rfl (HII.out _ _) ?_)
        | (refine wpList_execg8 rfl (exec_load 80 (.tmp 4) rfl rfl X4.out.1 Tryz.underlying80 rfl (HII.out _ _)) ?_)
        | (refine wpList_execg8 rfl (exec_load 80 (.tmp 3) rfl rfl X5.out.1 Tryz.underlying80 rfl (HII.out _ _)) ?_))
      go_ret
      exact ⟨by rw [HEND.out]; rfl, F3, by rw [HEND.out]; exact M4.out⟩
    · go_wp2_with (first
        | (refine wpList_load_row rfl 80 (.tmp 3) rfl b3 rfl 80 #[.bool a, .bool b] (0, 0) _ X5.out.1 Tryz.underlying80 rfl (HII.out _ _) ?_)
        | (refine wpList_execg8 rfl (exec_load 80 (.tmp 4) rfl rfl X4.out.1 Tryz.underlying80 rfl (HII.out _ _)) ?_)
        | (refine wpList_execg8 rfl (exec_load 80 (.tmp 3) rfl rfl X5.out.1 Tryz.underlying80 rfl (HII.out _ _)) ?_))
      go_ret
      exact ⟨by rw [HEND.out]; rfl, F3, by rw [HEND.out]; exact M4.out⟩
end
end Go.Proofs.YtnplhagfmfggcaaGreat.Mi
/-
  Bytes as a slice's elements, in the namespace of wire's texts.
-/
namespace Go.Proofs.YtnplhagfmfggcaaGreat.Wi
open Go.RowKit
theorem info_byte : (Tryz.prog.info? 5).map (fun i => (i.zero, i.size, i.bytes)) = some (some (.int .u8 0), 1, 1) := by kernel_rfl
theorem bytesElt : Elt Tryz.prog 55 5 (.int .u8 0) 1 := ⟨Tryz.underlying55, by kernel_rfl, rfl, by omega⟩
theorem bv_replicate (n : Nat) : bv (List.replicate n 0) = List.replicate n (.int .u8 0) := by simp [bv]
end Go.Proofs.YtnplhagfmfggcaaGreat.Wi
/-
  The contract of wire's Put, in a namespace of its own: a number in so many bytes, the highest first, in new memory.
-/
namespace Go.Proofs.YtnplhagfmfggcaaGreat.Wi
open Go.RowKit


/-- n in size bytes, the highest first. -/
def putL (n size : Nat) : List UInt8 := (List.range size).map fun i => UInt8.ofNat (n / 2 ^ (8 * (size - 1 - i)) % 256)

theorem putL_length (n s : Nat) : (putL n s).length = s := by simp [putL]
theorem putL_get {n s k : Nat} (h : k < s) : (putL n s)[k]? = some (UInt8.ofNat (n / 2 ^ (8 * (s - 1 - k)) % 256)) := by
  simp [putL, h]
theorem put_made (n s : Nat) : (madeCells (Value.int IntKind.u8 0).cells (s * 1)).toList = bv ((putL n s).take 0 ++ List.replicate (s - 0) 0) := by
  have e : (Value.int IntKind.u8 0).cells = #[Value.int IntKind.u8 0] := rfl
  rw [e, toList_madeCells_one, List.take_zero, List.nil_append, bv_replicate]
  simp
theorem ofNat_byte (x : Nat) : ((UInt8.ofNat (x % 256)).toNat : Int) = ((x % 256 : Nat) : Int) := by simp
theorem put_set {n s k : Nat} (h : k < s) : (bv ((putL n s).take k ++ List.replicate (s - k) 0)).set k (.int .u8 ((n : Int) / 2 ^ (8 * (s - 1 - k)) % 256)) = bv ((putL n s).take (k + 1) ++ List.replicate (s - (k + 1)) 0) := by
  have hl : ((putL n s).take k).length = k := by simp [putL_length]; omega
  have e1 : List.replicate (s - k) (0 : UInt8) = 0 :: List.replicate (s - (k + 1)) 0 := by
    rw [← List.replicate_succ]; congr 1; omega
  have e2 : (putL n s).take (k + 1) = (putL n s).take k ++ [UInt8.ofNat (n / 2 ^ (8 * (s - 1 - k)) % 256)] := by
    rw [List.take_add_one, putL_get h]; rfl
  have e3 : (Value.int .u8 ((n : Int) / 2 ^ (8 * (s - 1 - k)) % 256)) = .int .u8 ((UInt8.ofNat (n / 2 ^ (8 * (s - 1 - k)) % 256)).toNat : Int) := by
    rw [ofNat_byte, Int.natCast_emod, Int.natCast_ediv, Int.natCast_pow]; rfl
  rw [e1, e2, e3, bv_append, List.set_append_right _ _ (by rw [bv_length]; omega), bv_length, hl, Nat.sub_self]
  simp [bv]
theorem put_cell {n s k : Nat} (h : k < s) : ∃ v, (bv ((putL n s).take k ++ List.replicate (s - k) 0))[k]? = some v := by
  have hl : k < ((putL n s).take k ++ List.replicate (s - k) (0 : UInt8)).length := by simp [putL_length]; omega
  exact ⟨_, bv_get hl⟩
theorem put_done (n s : Nat) : bv ((putL n s).take s ++ List.replicate (s - s) 0) = bv (putL n s) := by
  rw [List.take_of_length_le (by rw [putL_length]; exact Nat.le_refl _)]; simp

set_option maxRecDepth 100000 in
set_option maxHeartbeats 400000 in
theorem wput_in (n size : Int) (w : World) (h0 : 0 ≤ n) (h1 : n < 18446744073709551616) (hs0 : 1 ≤ size) (hs8 : size ≤ 8) :
    Calls Tryz.prog 68 #[.int .u64 n, .int .i64 size] w (RetRow 5 (bv (putL n.toNat size.toNat)) w) := by
  obtain ⟨s, rfl⟩ := Int.eq_ofNat_of_zero_le (by omega : 0 ≤ size)
  obtain ⟨N, rfl⟩ := Int.eq_ofNat_of_zero_le h0
  obtain ⟨i0, hi, hz0, hz1, hz2⟩ := info_parts info_byte
  rw [Int.toNat_natCast, Int.toNat_natCast]
  clear h1
  go_enter Tryz.func68, Tryz.ntmps68
  go_wp2_with (at_make; refine wpList_make_full _ rfl _ _ _ rfl w.heap.size 5 i0 _ 1 Tryz.underlying55 hi hz0 hz1 .i64 .i64 _ _ s rfl rfl rfl rfl ?_ ?_ ?_ ?_; (rw [hz2]; omega); (unfold maxLen; omega); (exact Nat.le_refl _); intro w1 hown hg)
  go_loopw [6, 17] (fun u i wr => ∃ k : Nat, k ≤ s ∧ i = .int .i64 k ∧ Below w.heap.size w wr ∧ wr.ownsRow w.heap.size 5 1 (.slice (some ⟨w.heap.size, 0, none⟩) s s) s (bv ((putL N s).take k ++ List.replicate (s - k) 0))) (fun _ i _ => s - (intOf i).toNat)
  case atStart => exact ⟨0, Nat.zero_le _, rfl, (Below.refl _ _).grown hg (Nat.le_refl _) (fun _ h => by cases h), by rw [← put_made]; exact hown⟩
  case round =>
    obtain ⟨k, hk, rfl, hb, how⟩ := hrel
    by_cases hlt : k < s
    · have hc := how.cellAt k (by omega)
      have hf := how.frozenAt k
      obtain ⟨v, hv⟩ := put_cell (n := N) hlt
      rw [hv] at hc
      have HS := Lib.hid (how.stored k (.int .u8 ((N : Int) / 2 ^ (8 * (s - 1 - k)) % 256))).1
      clear hv
      go_wp2
      go_roundw
      case rel => exact ⟨k + 1, by omega, by go_num, hb.setCell (Nat.le_refl _) _, by rw [← put_set hlt]; exact HS.out⟩
      case measure => simp [intOf]; omega
    · obtain rfl : k = s := by omega
      rw [put_done] at how
      go_wp2
      go_ret
      exact RetRow.mk rfl how hb

set_option maxRecDepth 100000 in
set_option maxHeartbeats 400000 in
theorem wput_out (n size : Int) (w : World) (hs : size < 1 ∨ 8 < size) :
    Calls Tryz.prog 68 #[.int .u64 n, .int .i64 size] w fun e w' => e = .returned (.slice none 0 0) ∧ w = w' := by
  rcases hs with hs | hs
  · go_enter Tryz.func68, Tryz.ntmps68
    go_wp2
    go_ret
    exact ⟨rfl, rfl⟩
  · have hs' : ¬ size < 1 := by omega
    go_enter Tryz.func68, Tryz.ntmps68
    go_wp2
    go_ret
    exact ⟨rfl, rfl⟩


/-- n told, whatever the size. -/
def putI (n size : Int) : List UInt8 := if 1 ≤ size ∧ size ≤ 8 then putL n.toNat size.toNat else []

set_option maxRecDepth 100000 in
set_option maxHeartbeats 400000 in
theorem wput_any (n size : Int) (w : World) (h0 : 0 ≤ n) (h1 : n < 18446744073709551616) :
    Calls Tryz.prog 68 #[.int .u64 n, .int .i64 size] w (RetRow 5 (bv (putI n size)) w) := by
  by_cases h : 1 ≤ size ∧ size ≤ 8
  · rw [putI, if_pos h]
    exact wput_in n size w h0 h1 h.1 h.2
  · rw [putI, if_neg h]
    refine (wput_out n size w (by omega)).mono ?_
    rintro e w' ⟨rfl, rfl⟩
    exact RetRow.mk rfl (World.ownsRow_nil _ _ _ _) (Below.refl _ _)

end Go.Proofs.YtnplhagfmfggcaaGreat.Wi
/-
  The contract of wire's Get, in a namespace of its own: the number that stands in 1 to 8 bytes.
-/
namespace Go.Proofs.YtnplhagfmfggcaaGreat.Wi
open Go.RowKit

/-- The number that stands in l. -/
def getL (l : List UInt8) : Nat := l.foldl (fun n c => n * 256 + c.toNat) 0

theorem getL_nil : getL [] = 0 := rfl
theorem getL_snoc (l : List UInt8) (c : UInt8) : getL (l ++ [c]) = getL l * 256 + c.toNat := by simp [getL, List.foldl_append]
theorem getL_step {l : List UInt8} {k : Nat} (h : k < l.length) : getL (l.take (k + 1)) = getL (l.take k) * 256 + l[k].toNat := by
  rw [List.take_succ_eq_append_getElem h, getL_snoc]
theorem getL_take {l : List UInt8} : ∀ k, k ≤ l.length → getL (l.take k) < 256 ^ k
  | 0, _ => by simp [getL]
  | k + 1, h => by
    have h1 := getL_take k (Nat.le_of_succ_le h)
    have hb : l[k].toNat < 256 := UInt8.toNat_lt _
    rw [getL_step h, Nat.pow_succ]
    omega
theorem getL_lt (l : List UInt8) : getL l < 256 ^ l.length := by
  have h := getL_take l.length (Nat.le_refl _)
  rwa [List.take_of_length_le (Nat.le_refl _)] at h
theorem getL_small {l : List UInt8} {k : Nat} (h : k < l.length) (h8 : l.length ≤ 8) : getL (l.take k) * 256 + 255 < 18446744073709551616 := by
  have h1 := getL_take k (Nat.le_of_lt h)
  have h2 : 256 ^ k ≤ 256 ^ 7 := Nat.pow_le_pow_right (by omega) (by omega)
  have h3 : 256 ^ 7 = 72057594037927936 := by decide
  omega
theorem or_byte (Z b : Nat) (hb : b < 256) : Z * 256 ||| b = Z * 256 + b := by
  have e : Z * 256 = Z <<< 8 := by rw [Nat.shiftLeft_eq]
  rw [e, ← Nat.shiftLeft_add_eq_or_of_lt hb]
theorem get_or {l : List UInt8} {k Z : Nat} (hZ : Z = getL (l.take k)) (h : k < l.length) (h8 : l.length ≤ 8) :
    bits BinOp.or IntKind.u64 (IntKind.u64.wrap ((Z : Int) * 256)) (IntKind.u64.wrap (l[k].toNat : Int)) = ((Z * 256 + l[k].toNat : Nat) : Int) := by
  have hs := getL_small h h8
  have hb : l[k].toNat < 256 := UInt8.toNat_lt _
  rw [← hZ] at hs
  have e1 : IntKind.u64.wrap ((Z : Int) * 256) = ((Z * 256 : Nat) : Int) := (IntWalk.u64_in ((Z : Int) * 256) (by omega)).trans (Int.natCast_mul Z 256).symm
  have e2 : IntKind.u64.wrap (l[k].toNat : Int) = (l[k].toNat : Int) := IntWalk.u64_in (l[k].toNat : Int) (by clear e1; omega)
  rw [e1, e2]
  clear e1 e2
  have g1 : Z * 256 < 18446744073709551616 := Nat.lt_of_le_of_lt (Nat.le_add_right _ _) hs
  have g2 : l[k].toNat < 18446744073709551616 := Nat.lt_trans hb (by decide)
  have e3 := u64_or_nat (Z * 256) l[k].toNat g1 g2
  clear g1 g2
  rw [e3, or_byte Z _ hb]
theorem get_all (l : List UInt8) : getL (l.take l.length) = getL l := by rw [List.take_of_length_le (Nat.le_refl _)]
theorem ret_get {z z' : Int} {b : Bool} (h : z = z') : Ending.returned (.tuple #[.int .u64 z, .bool b]) = .returned (.tuple #[.int .u64 z', .bool b]) := by rw [h]

set_option maxRecDepth 100000 in
set_option maxHeartbeats 400000 in
theorem wget_in {B : Nat} (A : Option Addr) (n c : Nat) (l : List UInt8) (w : World) (hn : l.length = n) (ha : Rd B w A (bv l)) (h1 : 1 ≤ n) (h8 : n ≤ 8) :
    Calls Tryz.prog 66 #[.slice A n c] w fun e w' => e = .returned (.tuple #[.int .u64 (getL l : Int), .bool true]) ∧ w = w' := by
  subst hn
  go_enter Tryz.func66, Tryz.ntmps66
  go_wp2
  go_loop [4, 6, 17] (fun m u i => ∃ k Z : Nat, k ≤ l.length ∧ i = .int .i64 k ∧ m = .int .u64 (Z : Int) ∧ Hid (Z = getL (l.take k))) (fun _ _ i => l.length - (intOf i).toNat)
  case atStart => exact ⟨0, 0, Nat.zero_le _, rfl, rfl, rfl⟩
  case round =>
    obtain ⟨k, Z, hk, rfl, rfl, HZ⟩ := hrel
    by_cases hlt : k < l.length
    · obtain ⟨ad, rfl, _, hc⟩ := ha.at_ hlt
      go_wp2
      go_round
      case rel => exact ⟨k + 1, Z * 256 + l[k].toNat, by omega, by go_num, int_eq (get_or HZ.out hlt h8), by show _ = _; rw [getL_step hlt, HZ.out]⟩
      case measure => simp [intOf]; omega
    · obtain rfl : k = l.length := by omega
      go_wp2
      go_ret2
      exact ⟨ret_get (by rw [HZ.out, get_all]), rfl⟩

set_option maxRecDepth 100000 in
set_option maxHeartbeats 400000 in
theorem wget_out (A : Option Addr) (n c : Nat) (w : World) (h : n < 1 ∨ 8 < n) (hm : n ≤ maxLen) :
    Calls Tryz.prog 66 #[.slice A n c] w fun e w' => e = .returned (.tuple #[.int .u64 0, .bool false]) ∧ w = w' := by
  unfold maxLen at hm
  rcases h with h | h
  · go_enter Tryz.func66, Tryz.ntmps66
    go_wp2
    go_ret2
    exact ⟨rfl, rfl⟩
  · have h' : ¬ n < 1 := by omega
    go_enter Tryz.func66, Tryz.ntmps66
    go_wp2
    go_ret2
    exact ⟨rfl, rfl⟩

/-- What Get tells of l: a number and whether there is one. -/
def getN (l : List UInt8) : Nat := if 1 ≤ l.length ∧ l.length ≤ 8 then getL l else 0
def getOk (l : List UInt8) : Bool := decide (1 ≤ l.length ∧ l.length ≤ 8)

theorem wget_any {B : Nat} (A : Option Addr) (n c : Nat) (l : List UInt8) (w : World) (hn : l.length = n) (ha : Rd B w A (bv l)) (hm : n ≤ maxLen) :
    Calls Tryz.prog 66 #[.slice A n c] w fun e w' => e = .returned (.tuple #[.int .u64 (getN l : Int), .bool (getOk l)]) ∧ w = w' := by
  by_cases h : 1 ≤ l.length ∧ l.length ≤ 8
  · rw [getN, if_pos h, show getOk l = true from decide_eq_true h]
    exact wget_in A n c l w hn ha (by omega) (by omega)
  · rw [getN, if_neg h, show getOk l = false from decide_eq_false h]
    exact wget_out A n c w (by omega) hm
end Go.Proofs.YtnplhagfmfggcaaGreat.Wi
/-
  A sealed sector, as the document tells of it, by any sum. No program but for wire's.
-/
namespace Go.Proofs.YtnplhagfmfggcaaGreat.Sx
open Go.RowKit Kd
theorem putL_more (n s : Nat) : Wi.putL n (s + 1) = Wi.putL (n / 256) s ++ [UInt8.ofNat (n % 256)] := by
  unfold Wi.putL
  rw [List.range_succ, List.map_append, List.map_singleton]
  congr 1
  · refine List.map_congr_left fun i hi => ?_
    have hi := List.mem_range.1 hi
    rw [Nat.div_div_eq_div_mul, show s + 1 - 1 - i = (s - 1 - i) + 1 by omega, show 8 * (s - 1 - i + 1) = 8 + 8 * (s - 1 - i) by omega, Nat.pow_add]
  · rw [show s + 1 - 1 - s = 0 by omega]; simp
theorem getL_putL (n : Nat) : ∀ s, Wi.getL (Wi.putL n s) = n % 2 ^ (8 * s) := by
  intro s
  induction s generalizing n with
  | zero => simp [Wi.putL, Wi.getL]; omega
  | succ s ih =>
    rw [putL_more]
    unfold Wi.getL
    rw [List.foldl_append]
    show (Wi.getL (Wi.putL (n / 256) s)) * 256 + (UInt8.ofNat (n % 256)).toNat = _
    rw [ih, UInt8.toNat_ofNat', show 8 * (s + 1) = 8 + 8 * s by omega, Nat.pow_add]
    rw [Nat.mod_mul, show (2:Nat) ^ 8 = 256 from rfl]
    omega
theorem get_put8 {n : Nat} (h : n < 18446744073709551616) : Wi.getL (Wi.putL n 8) = n := by
  rw [getL_putL]; exact Nat.mod_eq_of_lt h
theorem get_put4 {n : Nat} (h : n < 4096) : Wi.getL (Wi.putL n 4) = n := by
  rw [getL_putL]; exact Nat.mod_eq_of_lt (by omega)
/-- A key of noughts. -/
def key0 : List UInt8 := List.replicate 32 0
theorem key0_length : key0.length = 32 := rfl
/-- What stands behind the sum. -/
def restL (gen : Nat) (b : List UInt8) : List UInt8 := Wi.putL gen 8 ++ UInt8.ofNat b.length :: (b ++ List.replicate (103 - b.length) 0)
theorem restL_length {gen : Nat} {b : List UInt8} (h : b.length ≤ 103) : (restL gen b).length = 112 := by
  simp [restL, Wi.putL_length]; omega
theorem size_byte {n : Nat} (h : n ≤ 103) : (UInt8.ofNat n).toNat = n := by rw [UInt8.toNat_ofNat']; omega
theorem restL_get {gen : Nat} {b : List UInt8} : (restL gen b).take 8 = Wi.putL gen 8 := by
  rw [restL, List.take_append_of_le_length (by rw [Wi.putL_length]; omega), List.take_of_length_le (by rw [Wi.putL_length]; omega)]
theorem restL_size {gen : Nat} {b : List UInt8} : (restL gen b).getD 8 0 = UInt8.ofNat b.length := by
  rw [List.getD_eq_getElem?_getD, restL, List.getElem?_append_right (by rw [Wi.putL_length]; omega), Wi.putL_length]; rfl
theorem restL_body {gen : Nat} {b : List UInt8} : ((restL gen b).drop 9).take b.length = b := by
  rw [restL, List.drop_append, Wi.putL_length, List.drop_eq_nil_of_le (by rw [Wi.putL_length]; omega), List.nil_append, show 9 - 8 = 1 from rfl, List.drop_succ_cons, List.drop_zero, List.take_append_of_le_length (Nat.le_refl _), List.take_length]
section
variable (f : List UInt8 → List UInt8 → List UInt8)
/-- The sum of a place and of what stands behind the sum. -/
def sumS (at_ : Nat) (r : List UInt8) : List UInt8 := f key0 (Wi.putL at_ 4 ++ r)
/-- May it be packed? -/
def mayS (at_ : Int) (b : List UInt8) : Bool := decide (0 ≤ at_ ∧ at_ < 4096 ∧ b.length ≤ 103)
def sealedS (at_ : Int) (gen : Nat) (b : List UInt8) : List UInt8 := sumS f at_.toNat (restL gen b) ++ restL gen b
/-- What Pack tells. -/
def packS (at_ : Int) (gen : Nat) (b : List UInt8) : List UInt8 := if mayS at_ b then sealedS f at_ gen b else zeroS
def genS (s : List UInt8) : Nat := Wi.getL ((s.drop 16).take 8)
def sizeS (s : List UInt8) : Nat := (s.getD 24 0).toNat
def bodyS (s : List UInt8) : List UInt8 := (s.drop 25).take (sizeS s)
/-- Is it a sealed sector of its place? -/
def okS (at_ : Int) (s : List UInt8) : Bool := decide (sizeS s ≤ 103) && (mayS at_ (bodyS s) && decide (sealedS f at_ (genS s) (bodyS s) = s))
/-- What Unpack tells. -/
def unpackS (at_ : Int) (s : List UInt8) : Nat × List UInt8 := if okS f at_ s then (genS s, bodyS s) else (0, [])
end
section
variable {f : List UInt8 → List UInt8 → List UInt8} (hf : ∀ k l, (f k l).length = 16)
include hf
theorem sumS_length (a : Nat) (r : List UInt8) : (sumS f a r).length = 16 := hf _ _
theorem sealedS_length {a : Int} {gen : Nat} {b : List UInt8} (h : b.length ≤ 103) : (sealedS f a gen b).length = 128 := by
  rw [sealedS, List.length_append, sumS_length hf, restL_length h]
theorem packS_length {a : Int} {gen : Nat} {b : List UInt8} : (packS f a gen b).length = 128 := by
  unfold packS; split
  · rename_i h; exact sealedS_length hf (of_decide_eq_true h).2.2
  · exact zeroS_length
theorem sealed_drop {a : Int} {gen : Nat} {b : List UInt8} : (sealedS f a gen b).drop 16 = restL gen b := by
  rw [sealedS, List.drop_append, sumS_length hf, List.drop_eq_nil_of_le (by rw [sumS_length hf]; omega), Nat.sub_self, List.nil_append, List.drop_zero]
theorem sealed_gen {a : Int} {gen : Nat} {b : List UInt8} (hg : gen < 18446744073709551616) : genS (sealedS f a gen b) = gen := by
  rw [genS, sealed_drop hf, restL_get, get_put8 hg]
theorem sealed_size {a : Int} {gen : Nat} {b : List UInt8} (h : b.length ≤ 103) : sizeS (sealedS f a gen b) = b.length := by
  have e : (sealedS f a gen b).getD 24 0 = (restL gen b).getD 8 0 := by
    rw [List.getD_eq_getElem?_getD, List.getD_eq_getElem?_getD, ← sealed_drop (f := f) hf (a := a), List.getElem?_drop]
  rw [sizeS, e, restL_size, size_byte h]
theorem sealed_body {a : Int} {gen : Nat} {b : List UInt8} (h : b.length ≤ 103) : bodyS (sealedS f a gen b) = b := by
  have e : (sealedS f a gen b).drop 25 = (restL gen b).drop 9 := by
    rw [← sealed_drop (f := f) hf (a := a), List.drop_drop]
  rw [bodyS, sealed_size hf h, e, restL_body]
/-- There and back. -/
theorem ok_sealed {a : Int} {gen : Nat} {b : List UInt8} (ha : mayS a b = true) (hg : gen < 18446744073709551616) : okS f a (sealedS f a gen b) = true := by
  have h := (of_decide_eq_true ha).2.2
  rw [okS, sealed_size hf h, sealed_body hf h, sealed_gen hf hg, ha, decide_eq_true h, decide_eq_true rfl]; rfl
theorem unpack_sealed {a : Int} {gen : Nat} {b : List UInt8} (ha : mayS a b = true) (hg : gen < 18446744073709551616) : unpackS f a (sealedS f a gen b) = (gen, b) := by
  have h := (of_decide_eq_true ha).2.2
  rw [unpackS, ok_sealed hf ha hg, if_pos rfl, sealed_body hf h, sealed_gen hf hg]
/-- Of sealed sectors that are alike the generation and the body are alike. -/
theorem sealed_inj {a a' : Int} {gen gen' : Nat} {b b' : List UInt8} (h : b.length ≤ 103) (h' : b'.length ≤ 103) (hg : gen < 18446744073709551616) (hg' : gen' < 18446744073709551616) (e : sealedS f a gen b = sealedS f a' gen' b') : gen = gen' ∧ b = b' := by
  constructor
  · rw [← sealed_gen hf hg (a := a) (b := b), e, sealed_gen hf hg']
  · rw [← sealed_body hf h (a := a) (gen := gen), e, sealed_body hf h']
end
section
variable {f : List UInt8 → List UInt8 → List UInt8}
theorem ok_may {a : Int} {s : List UInt8} (h : okS f a s = true) : mayS a (bodyS s) = true ∧ sealedS f a (genS s) (bodyS s) = s := by
  rw [okS, Bool.and_eq_true, Bool.and_eq_true] at h
  exact ⟨h.2.1, of_decide_eq_true h.2.2⟩
/-- One spelling. -/
theorem pack_ok {a : Int} {s : List UInt8} (h : okS f a s = true) : packS f a (genS s) (bodyS s) = s := by
  obtain ⟨h1, h2⟩ := ok_may h
  rw [packS, h1, if_pos rfl, h2]
theorem genS_lt (s : List UInt8) : genS s < 18446744073709551616 := by
  refine Nat.lt_of_lt_of_le (Wi.getL_lt _) (Nat.le_trans (Nat.pow_le_pow_right (by omega) (show _ ≤ 8 by rw [List.length_take]; omega)) (by decide))
theorem bodyS_length {s : List UInt8} (h : s.length = 128) (hs : sizeS s ≤ 103) : (bodyS s).length = sizeS s := by
  rw [bodyS, List.length_take, List.length_drop, h]; omega
end
/-- The sector as Pack lays it, part by part. -/
def lay1 (gen : Nat) : List UInt8 := splice zeroS 16 (Wi.putL gen 8)
def lay2 (gen : Nat) (b : List UInt8) : List UInt8 := (lay1 gen).set 24 (UInt8.ofNat b.length)
def lay3 (gen : Nat) (b : List UInt8) : List UInt8 := splice (lay2 gen b) 25 b
theorem lay1_eq (gen : Nat) : lay1 gen = List.replicate 16 0 ++ (Wi.putL gen 8 ++ List.replicate 104 0) := by
  rw [lay1, splice, zeroS, Wi.putL_length, List.take_replicate, List.drop_replicate]; rfl
theorem lay2_eq (gen : Nat) (b : List UInt8) : lay2 gen b = (List.replicate 16 0 ++ Wi.putL gen 8 ++ [UInt8.ofNat b.length]) ++ List.replicate 103 0 := by
  rw [lay2, lay1_eq, List.set_append_right _ _ (by simp), List.length_replicate, List.set_append_right _ _ (by rw [Wi.putL_length]; omega), Wi.putL_length, show List.replicate 104 (0 : UInt8) = 0 :: List.replicate 103 0 from rfl, show 24 - 16 - 8 = 0 from rfl, List.set_cons_zero]
  simp
theorem lay3_eq (gen : Nat) (b : List UInt8) : lay3 gen b = List.replicate 16 0 ++ restL gen b := by
  have hl : (List.replicate 16 (0 : UInt8) ++ Wi.putL gen 8 ++ [UInt8.ofNat b.length]).length = 25 := by simp [Wi.putL_length]
  rw [lay3, lay2_eq, splice, List.take_append_of_le_length (by omega), List.take_of_length_le (by omega), List.drop_append, hl, List.drop_eq_nil_of_le (by omega), List.nil_append, List.drop_replicate, restL, show 25 + b.length - 25 = b.length by omega]
  simp
theorem lay1_length (gen : Nat) : (lay1 gen).length = 128 := by rw [lay1_eq]; simp [Wi.putL_length]
theorem lay2_length (gen : Nat) (b : List UInt8) : (lay2 gen b).length = 128 := by rw [lay2, List.length_set, lay1_length]
theorem lay3_length {gen : Nat} {b : List UInt8} (h : b.length ≤ 103) : (lay3 gen b).length = 128 := by rw [lay3_eq, List.length_append, restL_length h]; simp
theorem lay3_drop (gen : Nat) (b : List UInt8) : (lay3 gen b).drop 16 = restL gen b := by
  rw [lay3_eq, List.drop_append, List.drop_eq_nil_of_le (by simp)]; simp
theorem lay4_eq {f : List UInt8 → List UInt8 → List UInt8} (hf : ∀ k l, (f k l).length = 16) (a : Int) (gen : Nat) (b : List UInt8) : splice (lay3 gen b) 0 (sumS f a.toNat (restL gen b)) = sealedS f a gen b := by
  rw [splice, List.take_zero, List.nil_append, sumS_length hf, sealedS, lay3_drop]
end Go.Proofs.YtnplhagfmfggcaaGreat.Sx
/-
  The contract of sumOf: the sum of a place and of what stands behind the sum.
-/
namespace Go.Proofs.YtnplhagfmfggcaaGreat.Sx
open Go.RowKit Kd
attribute [local go_sem ↓] Go.wp_at_zero Go.wp_at_succ
theorem exec_buildS {P : Program} {w : World} {r : Operand → Value} {o : Oper} {v : Value} (t : TypeId) (parts : Array (Nat × Operand)) (ho : o.op = .build t parts) (h : (Instr.build t (parts.map fun (i, x) => (i, r x))).run P w = .ok v w) :
    (execOp r o).run P w = .ok (.value v) w := by
  unfold execOp
  simp only [ho, Sem.run_bind, h, Result.andThen_ok, Sem.run_pure]
theorem blk_lt {w w' : World} {q B : Nat} {cs : Array Value} {A : TypeId} (h : Blk w q cs A) (hb : Below B w w') (hq : q < B) : Blk w' q cs A := (hb.block q hq).trans h
/-- A part of a block of bytes reads as such. -/
theorem rd_part {w : World} {g : Nat} {l : List UInt8} {t : TypeId} (h : Blk w g (bva l) t) (o : Nat) : Rd w.heap.size w (some ⟨g, o, none⟩) (bv (l.drop o)) := fun k u hu => by
  refine ⟨_, rfl, h.lt, ?_⟩
  have e : (⟨g, o, none⟩ : Addr).add k = ⟨g, o + k, none⟩ := by
    unfold Addr.add; split
    · rename_i h; rw [h]; rfl
    · rfl
  rw [e, h.cell, bva, List.getElem?_toArray]
  rw [bv_drop, List.getElem?_drop] at hu
  exact hu
theorem info_sec' : (Tryz.prog.info? 101).map (·.size) = some 128 := by kernel_rfl
set_option maxRecDepth 100000 in
set_option maxHeartbeats 6400000 in
theorem sumof_any (ci : SCiph) (a : Nat) (ha : a < 4096) (s : List UInt8) (hs : s.length = 128) (w : World) :
    Calls Tryz.prog 69 #[ci.v, .int .i64 a, .agg (bva s)] w (RetB (.agg (bva (sumS ci.f a (s.drop 16)))) w) := by
  obtain ⟨z, hz0⟩ : ∃ z : List UInt8, z = List.replicate 16 0 := ⟨_, rfl⟩
  have hz : ∀ W, (zeroValue 135).run Tryz.prog W = .ok (.agg (bva z)) W := fun _ => by rw [hz0]; kernel_rfl
  have HZ3 := Lib.hid (show z.length = 16 by rw [hz0]; rfl)
  have HBK := Lib.hid (show ∀ W, (Instr.build 49 #[]).run Tryz.prog W = .ok (.agg (bva key0)) W from fun _ => by kernel_rfl)
  obtain ⟨w2, hw2⟩ : ∃ w2, w2 = (w.alloc (.cells (bva s) 101)).alloc (.cells (bva z) 135) := ⟨_, rfl⟩
  have B1 := Lib.hid (show Blk w2 w.heap.size (bva s) 101 from by rw [hw2]; exact heap_alloc2_old _ _ _)
  have B2 := Lib.hid (show Blk w2 (w.heap.size + 1) (bva z) 135 from by rw [hw2]; exact heap_alloc2_new _ _ _)
  have BB := Lib.hid (show Below w.heap.size w w2 from by rw [hw2]; exact ((Below.refl _ _).alloc (Nat.le_refl _) _).alloc (by simp) _)
  have HS2 := Lib.hid (show w2.heap.size = w.heap.size + 1 + 1 by rw [hw2]; simp)
  obtain ⟨O, hO⟩ : ∃ O, O = sumS ci.f a (s.drop 16) := ⟨_, rfl⟩
  have HO := Lib.hid hO
  have HO3 := Lib.hid (show O.length = 16 by rw [hO]; exact ci.len _ _)
  have HIO : Hid ((Tryz.prog.info? 135).map (·.size) = some (bva O).size) := by rw [bva_size, HO3.out]; exact info_sum
  have HS := Lib.hid hs
  have HA := Lib.hid ha
  obtain ⟨r, hr⟩ : ∃ r, r = s.drop 16 := ⟨_, rfl⟩
  have HR3 := Lib.hid (show r.length = 112 by rw [hr, List.length_drop, hs])
  have HRR := Lib.hid hr
  have wa : IntKind.u64.wrap (a : Int) = (a : Int) := IntWalk.u64_in _ (by omega)
  have hM := ci.hM
  have hN := ci.hN
  have hC := ci.hC
  obtain ⟨T, hT⟩ : ∃ T, T = ci.T := ⟨_, rfl⟩
  obtain ⟨x, hx⟩ : ∃ x, x = ci.x := ⟨_, rfl⟩
  obtain ⟨FF, hF⟩ : ∃ FF, FF = ci.F := ⟨_, rfl⟩
  have hcs := ci.hS
  have HV : ci.v = .iface T x := by rw [hT, hx]; rfl
  rw [← hx, ← hF] at hcs
  rw [← hT, ← hx, ← hF] at hM
  rw [← hT, ← hx] at hN
  have HN := Lib.hid hN
  rw [← hF] at hC
  have HCS := Lib.hid hcs
  rw [← hO, HV]
  clear hz0 hO hs ha hr hT hx hF hcs HV hN
  go_enter Tryz.func69, Tryz.ntmps69
  go_wp2_with fail
  rw [← hw2]
  clear hw2
  refine wp_region_held_drew (S := (fun w' => Below w.heap.size w w' ∧ Blk w' w.heap.size (bva s) 101 ∧ ∃ l : List UInt8, l.length = 16 ∧ Blk w' (w.heap.size + 1) (bva l) 135)) (by kernel_rfl) ⟨BB.out.drew, (show Blk _ _ _ _ from B1.out), z, HZ3.out, (show Blk _ _ _ _ from B2.out)⟩ (fun hh => ?_)
  have HH := Lib.hid hh
  clear hh
  refine wpAnyH_take (i := 0) (v := ?vS0) rfl (by kernel_rfl) (by kernel_rfl) (by kernel_rfl) (fun _ _ _ h => h) (Or.inl ⟨by rfl, fun w' _ => ?yS0⟩) HH.out ?_
  case yS0 => (go_simp; try with_reducible rfl)
  refine wpAnyH_take (i := 1) (v := .agg (bva key0)) rfl (by kernel_rfl) (by kernel_rfl) (by kernel_rfl) (fun _ _ _ h => h) (Or.inl ⟨by rfl, fun w' _ => ?yb1⟩) HH.out ?_
  case yb1 => exact exec_buildS 49 #[] rfl (by simp only [List.map_toArray, List.map_nil]; exact HBK.out _)
  try simp only [List.getElem_toArray, List.getElem_cons_succ, List.getElem_cons_zero, Act.put, List.setIfInBounds_toArray, List.set_cons_zero, List.set_cons_succ]
  refine wpAnyH_take (i := 2) (v := ?vS2) rfl (by kernel_rfl) (by kernel_rfl) (by kernel_rfl) (fun _ _ _ h => h) (Or.inl ⟨by rfl, fun w' _ => ?yS2⟩) HH.out ?_
  case yS2 => (go_simp; try with_reducible rfl)
  refine wpAnyH_take (i := 3) (v := ?vS3) rfl (by kernel_rfl) (by kernel_rfl) (by kernel_rfl) (fun _ _ _ h => h) (Or.inl ⟨by rfl, fun w' _ => ?yS3⟩) HH.out ?_
  case yS3 => (go_simp; try with_reducible rfl)
  refine wpAnyH_take (i := 5) (v := ?vS5) rfl (by kernel_rfl) (by kernel_rfl) (by kernel_rfl) (fun _ _ _ h => h) (Or.inl ⟨by rfl, fun w' _ => ?yS5⟩) HH.out ?_
  case yS5 => (go_simp; try with_reducible rfl)
  try simp only [List.getElem_toArray, List.getElem_cons_succ, List.getElem_cons_zero, Act.put, List.setIfInBounds_toArray, List.set_cons_zero, List.set_cons_succ]
  refine wpAnyH_take (i := 7) (v := ?vS7) rfl (by kernel_rfl) (by kernel_rfl) (by kernel_rfl) (fun _ _ _ h => h) (Or.inl ⟨by rfl, fun w' _ => ?yS7⟩) HH.out ?_
  case yS7 => (go_simp; try with_reducible rfl)
  refine wpAnyH_take (i := 8) (v := ?vS8) rfl (by kernel_rfl) (by kernel_rfl) (by kernel_rfl) (fun _ _ _ h => h) (Or.inl ⟨by rfl, fun w' _ => ?yS8⟩) HH.out ?_
  case yS8 => (go_simp; rw [HN.out _ (by decide)]; rfl)
  refine wpAnyH_take (i := 9) (v := ?vS9) rfl (by kernel_rfl) (by kernel_rfl) (by kernel_rfl) (fun _ _ _ h => h) (Or.inl ⟨by rfl, fun w' _ => ?yS9⟩) HH.out ?_
  case yS9 => (go_simp; try with_reducible rfl)
  try simp only [List.getElem_toArray, List.getElem_cons_succ, List.getElem_cons_zero, Act.put, List.setIfInBounds_toArray, List.set_cons_zero, List.set_cons_succ]
  refine wpAnyH_ready (rs := [4]) (by kernel_rfl) (by simp) (AllReadyH.cons rfl (fun K hK => ?_) AllReadyH.nil)
  go_simp
  refine (Wi.wput_in (a : Int) 4 _ (by omega) (by have := HA.out; omega) (by omega) (by omega)).mono ?_
  rintro e w3 ⟨A3, n3, c3, rfl, ho3, hb3⟩
  obtain rfl : 4 = n3 := by have := own_blen ho3; rw [Wi.putL_length] at this; exact this
  have O3 := Lib.hid ho3
  have X1 := Lib.hid (Blk.below (w := w2.drew) B1.out hb3)
  have X2 := Lib.hid (Blk.below (w := w2.drew) B2.out hb3)
  have XB := Lib.hid (BB.out.drew.trans (hb3.mono BB.out.size))
  have HZ4 := Lib.hid (show w.heap.size + 1 + 1 ≤ w3.heap.size from by have := hb3.size; have := HS2.out; simp at *; omega)
  clear ho3 hb3
  go_simp
  refine hK.out _ _ ⟨XB.out, X1.out, z, HZ3.out, X2.out⟩ (fun hh => ?_)
  have HH' := Lib.hid hh
  clear hh hK K HH B1 B2 BB
  have HH := Lib.hid HH'.out
  clear HH'
  refine wpAnyH_ready (rs := [6]) (by kernel_rfl) (by simp) (AllReadyH.cons rfl (fun K hK => ?_) AllReadyH.nil)
  refine step_app _ (by rfl) (.tmp 11) (.tmp 12) _ rfl Wi.bytesElt (base := w2.heap.size) (v := .slice A3 4 c3) rfl (own_more O3.out (by simp)) (m := 112) rfl ((rd_part X1.out 16)) (by rw [bv_length, ← HRR.out, HR3.out]) (bv_one _) (by omega) (by have := HZ4.out; have := HS2.out; omega) ?_
  intro A4 c4 w4 ho4 hg4 _
  rw [← HRR.out, ← bv_append] at ho4
  have O4 := Lib.hid ho4
  have hk : Below w2.heap.size w3 w4 := app_below (Below.refl _ _) (own_more O3.out (by simp)) hg4 (Nat.le_refl _) (by have := HZ4.out; have := HS2.out; omega)
  have Y1 := Lib.hid (blk_lt X1.out hk (by have := HS2.out; omega))
  have Y2 := Lib.hid (blk_lt X2.out hk (by have := HS2.out; omega))
  have YB := Lib.hid (XB.out.trans (hk.mono (by have := HS2.out; omega)))
  clear ho4 hg4 hk
  refine hK.out _ _ ⟨YB.out, Y1.out, z, HZ3.out, Y2.out⟩ (fun hh => ?_)
  have HH' := Lib.hid hh
  clear hh hK K HH X1 X2 XB
  have HH := Lib.hid HH'.out
  clear HH'
  try simp only [List.getElem_toArray, List.getElem_cons_succ, List.getElem_cons_zero, Act.put, List.setIfInBounds_toArray, List.set_cons_zero, List.set_cons_succ]
  refine wpAnyH_ready (rs := [10]) (by kernel_rfl) (by simp) (AllReadyH.cons rfl (fun K hK => ?_) AllReadyH.nil)
  go_simp
  refine (HCS.out key0 key0_length A4 (4 + 112) c4 _ w4 (by have := own_blen O4.out; exact this) (by omega) (Rd.own O4.out)).mono ?_
  rintro e w5 ⟨rfl, bw⟩
  rw [show ci.f key0 (Wi.putL ((a : Int).toNat) (4 : Int).toNat ++ r) = O by rw [HO.out, sumS, HRR.out]; rfl]
  have Z1 := Lib.hid (Y1.out.below bw)
  have Z2 := Lib.hid (Y2.out.below bw)
  have ZB := Lib.hid (YB.out.trans (bw.mono YB.out.size))
  clear bw
  go_simp
  refine hK.out _ _ ⟨ZB.out, Z1.out, z, HZ3.out, Z2.out⟩ (fun hh => ?_)
  have HH' := Lib.hid hh
  clear hh hK K HH Y1 Y2 YB
  have HH := Lib.hid HH'.out
  clear HH'
  try simp only [List.getElem_toArray, List.getElem_cons_succ, List.getElem_cons_zero, Act.put, List.setIfInBounds_toArray, List.set_cons_zero, List.set_cons_succ]
  refine wpAnyH_ready (rs := [11]) (by kernel_rfl) (by simp) (AllReadyH.cons rfl (fun K hK => ?_) AllReadyH.nil)
  rw [if_pos (by rfl)]
  refine wp_store_row 135 (.tmp 6) (.tmp 17) rfl (w.heap.size + 1) (bva O) rfl rfl 135 (bva z) Z2.out HIO.out (by rw [bva_size, bva_size, HO3.out, HZ3.out]) (bva_one _) ?_
  have hb6 : Below w.heap.size w (w5.setRow (w.heap.size + 1) (bva O)) := below_setRow ZB.out (by omega) _
  have h6 : Blk (w5.setRow (w.heap.size + 1) (bva O)) (w.heap.size + 1) (bva O) 135 := setRow_heap _ _ _ _ _ _ Z2.out
  have HB6 := Lib.hid hb6
  have H6 := Lib.hid h6
  refine hK.out _ _ ⟨hb6, (by unfold Blk; rw [setRow_other _ _ _ _ (by omega)]; exact Z1.out), O, HO3.out, h6⟩ (fun hh => ?_)
  clear hh hK K HH hb6 h6
  try simp only [List.getElem_toArray, List.getElem_cons_succ, List.getElem_cons_zero, Act.put]
  refine wpAnyH_done (by kernel_rfl) ?_ _
  go_wp2_with fail
  exact bodyPost_ret (v := .agg (bva O)) (results_cell_row Tryz.results69 _ _ (w.heap.size + 1) 135 (bva O) (0, 0) _ rfl H6.out Tryz.underlying135 rfl HIO.out) rfl ⟨rfl, HB6.out⟩
end Go.Proofs.YtnplhagfmfggcaaGreat.Sx
/-
  The contract of sector.Pack, by any cipher.
-/
namespace Go.Proofs.YtnplhagfmfggcaaGreat.Sx
open Go.RowKit Kd
attribute [local go_sem ↓] Go.wp_at_zero Go.wp_at_succ
theorem eq_nil_held (T : TypeId) (x : Value) (W : World) : (binOp .eql 84 (.iface T x) .nilIface).run Tryz.prog W = .ok (.bool false) W :=
  run_eql_held_nil W 84 T x (by kernel_rfl)
theorem eq_nil_nil (W : World) : (binOp .eql 84 .nilIface .nilIface).run Tryz.prog W = .ok (.bool true) W :=
  run_eql_nil_nil W 84 (by kernel_rfl)
theorem rd_srcS {B : Nat} {w : World} {A : Option Addr} {xs : List Value} (h : Rd B w A xs) (hl : 0 < xs.length) : ∃ ad, A = some ad ∧ ∀ j v, xs[j]? = some v → w.cell? (ad.add j) = some v := by
  obtain ⟨ad, rfl, _, _⟩ := h 0 _ (List.getElem?_eq_getElem hl)
  refine ⟨ad, rfl, fun j v hv => ?_⟩
  obtain ⟨ad', e, _, hc⟩ := h j v hv
  injection e with e
  subst e
  exact hc
theorem rd_bvS {w : World} {g : Nat} {l : List UInt8} {t : TypeId} (h : Blk w g (bva l) t) : Rd w.heap.size w (some ⟨g, 0, none⟩) (bv l) := rd_part h 0
theorem info5S : (Tryz.prog.info? 5).map (·.size) = some 1 := by kernel_rfl
set_option maxRecDepth 100000 in
set_option maxHeartbeats 1600000 in
theorem pack_nil (a : Int) (gen : Int) (A : Option Addr) (n c : Nat) (w : World)  :
    Calls Tryz.prog 47 #[.nilIface, .int .i64 a, .int .u64 gen, .slice A n c] w (RetB (.tuple #[.agg (bva zeroS), .bool false]) w) := by
  obtain ⟨z, hz0⟩ : ∃ z : List UInt8, z = zeroS := ⟨_, rfl⟩
  have hz : ∀ W, (zeroValue 101).run Tryz.prog W = .ok (.agg (bva z)) W := fun _ => by rw [hz0]; kernel_rfl
  have HBZ := Lib.hid (show ∀ W, (Instr.build 101 #[]).run Tryz.prog W = .ok (.agg (bva z)) W from fun _ => by rw [hz0]; kernel_rfl)
  have HZ3 := Lib.hid (show z.length = 128 by rw [hz0]; exact zeroS_length)
  have HIZ : Hid ((Tryz.prog.info? 101).map (·.size) = some (bva z).size) := by rw [bva_size, HZ3.out]; exact info_sec
  rw [← hz0]
  clear hz0
  have hq := eq_nil_nil
  go_enter Tryz.func47, Tryz.ntmps47
  go_wp2_with (first
    | (refine wpList_build rfl 101 #[] rfl (v := .agg (bva z)) ?hbld ?_; case hbld => exact HBZ.out _)
    | (refine wpList_store_row rfl 101 (.tmp 8) (.tmp 27) rfl w.heap.size (bva z) rfl rfl 101 (bva z) (heap_alloc_new _ _) HIZ.out (by rfl) (bva_one _) ?_))
  exact bodyPost_ret (v := .tuple #[.agg (bva z), .bool false]) (results_ct8 Tryz.results47 _ _ w.heap.size 101 (bva z) _ rfl (setRow_heap _ _ _ _ _ _ (heap_alloc_new _ _)) Tryz.underlying101 rfl HIZ.out) rfl ⟨rfl, below_setRow ((Below.refl _ _).alloc (Nat.le_refl _) _) (Nat.le_refl _) _⟩
set_option maxRecDepth 100000 in
set_option maxHeartbeats 1600000 in
theorem pack_no0 (a : Int) (gen : Int) (A : Option Addr) (n c : Nat) (w : World) (T : TypeId) (x : Value) (h : a < 0) :
    Calls Tryz.prog 47 #[.iface T x, .int .i64 a, .int .u64 gen, .slice A n c] w (RetB (.tuple #[.agg (bva zeroS), .bool false]) w) := by
  obtain ⟨z, hz0⟩ : ∃ z : List UInt8, z = zeroS := ⟨_, rfl⟩
  have hz : ∀ W, (zeroValue 101).run Tryz.prog W = .ok (.agg (bva z)) W := fun _ => by rw [hz0]; kernel_rfl
  have HBZ := Lib.hid (show ∀ W, (Instr.build 101 #[]).run Tryz.prog W = .ok (.agg (bva z)) W from fun _ => by rw [hz0]; kernel_rfl)
  have HZ3 := Lib.hid (show z.length = 128 by rw [hz0]; exact zeroS_length)
  have HIZ : Hid ((Tryz.prog.info? 101).map (·.size) = some (bva z).size) := by rw [bva_size, HZ3.out]; exact info_sec
  rw [← hz0]
  clear hz0
  have hq := eq_nil_held T x
  go_enter Tryz.func47, Tryz.ntmps47
  go_wp2_with (first
    | (refine wpList_build rfl 101 #[] rfl (v := .agg (bva z)) ?hbld ?_; case hbld => exact HBZ.out _)
    | (refine wpList_store_row rfl 101 (.tmp 8) (.tmp 27) rfl w.heap.size (bva z) rfl rfl 101 (bva z) (heap_alloc_new _ _) HIZ.out (by rfl) (bva_one _) ?_))
  exact bodyPost_ret (v := .tuple #[.agg (bva z), .bool false]) (results_ct8 Tryz.results47 _ _ w.heap.size 101 (bva z) _ rfl (setRow_heap _ _ _ _ _ _ (heap_alloc_new _ _)) Tryz.underlying101 rfl HIZ.out) rfl ⟨rfl, below_setRow ((Below.refl _ _).alloc (Nat.le_refl _) _) (Nat.le_refl _) _⟩
set_option maxRecDepth 100000 in
set_option maxHeartbeats 1600000 in
theorem pack_no1 (a : Int) (gen : Int) (A : Option Addr) (n c : Nat) (w : World) (T : TypeId) (x : Value) (h0 : 0 ≤ a) (h : 4096 ≤ a) :
    Calls Tryz.prog 47 #[.iface T x, .int .i64 a, .int .u64 gen, .slice A n c] w (RetB (.tuple #[.agg (bva zeroS), .bool false]) w) := by
  obtain ⟨z, hz0⟩ : ∃ z : List UInt8, z = zeroS := ⟨_, rfl⟩
  have hz : ∀ W, (zeroValue 101).run Tryz.prog W = .ok (.agg (bva z)) W := fun _ => by rw [hz0]; kernel_rfl
  have HBZ := Lib.hid (show ∀ W, (Instr.build 101 #[]).run Tryz.prog W = .ok (.agg (bva z)) W from fun _ => by rw [hz0]; kernel_rfl)
  have HZ3 := Lib.hid (show z.length = 128 by rw [hz0]; exact zeroS_length)
  have HIZ : Hid ((Tryz.prog.info? 101).map (·.size) = some (bva z).size) := by rw [bva_size, HZ3.out]; exact info_sec
  rw [← hz0]
  clear hz0
  have hq := eq_nil_held T x
  go_enter Tryz.func47, Tryz.ntmps47
  go_wp2_with (first
    | (refine wpList_build rfl 101 #[] rfl (v := .agg (bva z)) ?hbld ?_; case hbld => exact HBZ.out _)
    | (refine wpList_store_row rfl 101 (.tmp 8) (.tmp 27) rfl w.heap.size (bva z) rfl rfl 101 (bva z) (heap_alloc_new _ _) HIZ.out (by rfl) (bva_one _) ?_))
  exact bodyPost_ret (v := .tuple #[.agg (bva z), .bool false]) (results_ct8 Tryz.results47 _ _ w.heap.size 101 (bva z) _ rfl (setRow_heap _ _ _ _ _ _ (heap_alloc_new _ _)) Tryz.underlying101 rfl HIZ.out) rfl ⟨rfl, below_setRow ((Below.refl _ _).alloc (Nat.le_refl _) _) (Nat.le_refl _) _⟩
set_option maxRecDepth 100000 in
set_option maxHeartbeats 1600000 in
theorem pack_no2 (a : Int) (gen : Int) (A : Option Addr) (n c : Nat) (w : World) (T : TypeId) (x : Value) (h0 : 0 ≤ a) (h1 : a < 4096) (h : 103 < n) :
    Calls Tryz.prog 47 #[.iface T x, .int .i64 a, .int .u64 gen, .slice A n c] w (RetB (.tuple #[.agg (bva zeroS), .bool false]) w) := by
  obtain ⟨z, hz0⟩ : ∃ z : List UInt8, z = zeroS := ⟨_, rfl⟩
  have hz : ∀ W, (zeroValue 101).run Tryz.prog W = .ok (.agg (bva z)) W := fun _ => by rw [hz0]; kernel_rfl
  have HBZ := Lib.hid (show ∀ W, (Instr.build 101 #[]).run Tryz.prog W = .ok (.agg (bva z)) W from fun _ => by rw [hz0]; kernel_rfl)
  have HZ3 := Lib.hid (show z.length = 128 by rw [hz0]; exact zeroS_length)
  have HIZ : Hid ((Tryz.prog.info? 101).map (·.size) = some (bva z).size) := by rw [bva_size, HZ3.out]; exact info_sec
  rw [← hz0]
  clear hz0
  have hq := eq_nil_held T x
  have hd : decide ((103 : Int) < (n : Int)) = true := by simp; omega
  go_enter Tryz.func47, Tryz.ntmps47
  go_wp2_with (first
    | (refine wpList_build rfl 101 #[] rfl (v := .agg (bva z)) ?hbld ?_; case hbld => exact HBZ.out _)
    | (refine wpList_store_row rfl 101 (.tmp 8) (.tmp 27) rfl w.heap.size (bva z) rfl rfl 101 (bva z) (heap_alloc_new _ _) HIZ.out (by rfl) (bva_one _) ?_))
  exact bodyPost_ret (v := .tuple #[.agg (bva z), .bool false]) (results_ct8 Tryz.results47 _ _ w.heap.size 101 (bva z) _ rfl (setRow_heap _ _ _ _ _ _ (heap_alloc_new _ _)) Tryz.underlying101 rfl HIZ.out) rfl ⟨rfl, below_setRow ((Below.refl _ _).alloc (Nat.le_refl _) _) (Nat.le_refl _) _⟩
set_option maxRecDepth 100000 in
set_option maxHeartbeats 6400000 in
theorem pack_yes (ci : SCiph) (k : Nat) (hk : k < 4096) (gen : Nat) (hg : gen < 18446744073709551616) (A : Option Addr) (n c : Nat) (l : List UInt8) (w : World) (hl : l.length = n) (hn : n ≤ 103) (hr : Rd w.heap.size w A (bv l)) :
    Calls Tryz.prog 47 #[ci.v, .int .i64 k, .int .u64 gen, .slice A n c] w (RetB (.tuple #[.agg (bva (sealedS ci.f k gen l)), .bool true]) w) := by
  obtain ⟨z, hz0⟩ : ∃ z : List UInt8, z = zeroS := ⟨_, rfl⟩
  have hz : ∀ W, (zeroValue 101).run Tryz.prog W = .ok (.agg (bva z)) W := fun _ => by rw [hz0]; kernel_rfl
  have HBZ := Lib.hid (show ∀ W, (Instr.build 101 #[]).run Tryz.prog W = .ok (.agg (bva z)) W from fun _ => by rw [hz0]; kernel_rfl)
  have HZ3 := Lib.hid (show z.length = 128 by rw [hz0]; exact zeroS_length)
  have HIZ : Hid ((Tryz.prog.info? 101).map (·.size) = some (bva z).size) := by rw [bva_size, HZ3.out]; exact info_sec
  obtain ⟨y, hy0⟩ : ∃ y : List UInt8, y = List.replicate 16 0 := ⟨_, rfl⟩
  have hy : ∀ W, (zeroValue 135).run Tryz.prog W = .ok (.agg (bva y)) W := fun _ => by rw [hy0]; kernel_rfl
  have HY3 := Lib.hid (show y.length = 16 by rw [hy0]; rfl)
  obtain ⟨w2, hw2⟩ : ∃ w2, w2 = (w.alloc (.cells (bva z) 101)).alloc (.cells (bva z) 101) := ⟨_, rfl⟩
  have B1 := Lib.hid (show Blk w2 w.heap.size (bva z) 101 from by rw [hw2]; exact heap_alloc2_old _ _ _)
  have B2 := Lib.hid (show Blk w2 (w.heap.size + 1) (bva z) 101 from by rw [hw2]; exact heap_alloc2_new _ _ _)
  have BB := Lib.hid (show Below w.heap.size w w2 from by rw [hw2]; exact ((Below.refl _ _).alloc (Nat.le_refl _) _).alloc (by simp) _)
  have HS2 := Lib.hid (show w2.heap.size = w.heap.size + 1 + 1 by rw [hw2]; simp)
  obtain ⟨O, hO⟩ : ∃ O, O = sumS ci.f k (restL gen l) := ⟨_, rfl⟩
  have HO3 := Lib.hid (show O.length = 16 by rw [hO]; exact ci.len _ _)
  have HIO : Hid ((Tryz.prog.info? 135).map (·.size) = some (bva O).size) := by rw [bva_size, HO3.out]; exact info_sum
  obtain ⟨R, hR⟩ : ∃ R, R = sealedS ci.f k gen l := ⟨_, rfl⟩
  have HR0 := Lib.hid (show splice (lay3 gen l) 0 O = R by rw [hO, hR]; exact lay4_eq ci.len k gen l)
  have HR3 := Lib.hid (show R.length = 128 by rw [hR]; exact sealedS_length ci.len (by omega))
  have HIR : Hid ((Tryz.prog.info? 101).map (·.size) = some (bva R).size) := by rw [bva_size, HR3.out]; exact info_sec
  obtain ⟨m, hm⟩ : ∃ m, m = lay3 gen l := ⟨_, rfl⟩
  have HM3 := Lib.hid (show m.length = 128 by rw [hm]; exact lay3_length (by omega))
  have HM0 := Lib.hid (show splice (lay2 gen l) 25 l = m by rw [hm]; rfl)
  have HIM : Hid ((Tryz.prog.info? 101).map (·.size) = some (bva m).size) := by rw [bva_size, HM3.out]; exact info_sec
  have HCS := Lib.hid (show ∀ W, Calls Tryz.prog 69 #[ci.v, .int .i64 k, .agg (bva m)] W (RetB (.agg (bva O)) W) from fun W => by
    have h := sumof_any ci k hk m HM3.out W
    rw [hm, lay3_drop] at h
    rw [hO, hm]; exact h)
  rw [← hm] at HR0
  have HZ0 := Lib.hid (show splice z 16 (Wi.putL gen 8) = lay1 gen by rw [hz0]; rfl)
  have HL2 := Lib.hid (show (lay1 gen).set 24 (UInt8.ofNat n) = lay2 gen l by rw [lay2, hl])
  have HG := Lib.hid (show U64 gen from hg)
  have HL := Lib.hid hl
  have HR := Lib.hid hr
  have hq := eq_nil_held ci.T ci.x
  obtain ⟨T, hT⟩ : ∃ T, T = ci.T := ⟨_, rfl⟩
  obtain ⟨x, hx⟩ : ∃ x, x = ci.x := ⟨_, rfl⟩
  have HV : ci.v = .iface T x := by rw [hT, hx]; rfl
  rw [← hT, ← hx] at hq
  rw [HV] at HCS
  rw [← hR, HV]
  have k0 : (0 : Int) ≤ (k : Int) := by omega
  have k1 : (k : Int) < 4096 := by omega
  have hd : decide ((103 : Int) < (n : Int)) = false := by simp; omega
  have wn : IntKind.u8.wrap (n : Int) = (n : Int) := IntWalk.u8_in _ (by omega)
  have HN := Lib.hid hn
  clear hz0 hy0 hO hR hm hT hx HV hg hl hr hk hn
  go_enter Tryz.func47, Tryz.ntmps47
  go_wp2_with fail
  rw [← hw2]
  clear hw2
  refine wp_region_held_drew (S := (fun w' => Below w.heap.size w w' ∧ Blk w' w.heap.size (bva z) 101 ∧ ∃ l : List UInt8, l.length = 128 ∧ Blk w' (w.heap.size + 1) (bva l) 101)) (by kernel_rfl) ⟨BB.out.drew, (show Blk _ _ _ _ from B1.out), z, HZ3.out, (show Blk _ _ _ _ from B2.out)⟩ (fun hh => ?_)
  have HH := Lib.hid hh
  clear hh
  refine wpAnyH_take (i := 0) (v := ?vP0) rfl (by kernel_rfl) (by kernel_rfl) (by kernel_rfl) (fun _ _ _ h => h) (Or.inl ⟨by rfl, fun w' _ => ?yP0⟩) HH.out ?_
  case yP0 => (go_simp; try with_reducible rfl)
  refine wpAnyH_take (i := 1) (v := ?vP1) rfl (by kernel_rfl) (by kernel_rfl) (by kernel_rfl) (fun _ _ _ h => h) (Or.inl ⟨by rfl, fun w' _ => ?yP1⟩) HH.out ?_
  case yP1 => (go_simp; try with_reducible rfl)
  try simp only [List.getElem_toArray, List.getElem_cons_succ, List.getElem_cons_zero, Act.put, List.setIfInBounds_toArray, List.set_cons_zero, List.set_cons_succ]
  refine wpAnyH_ready (rs := [2]) (by kernel_rfl) (by simp) (AllReadyH.cons rfl (fun K hK => ?_) AllReadyH.nil)
  go_simp
  refine (Wi.wput_in (gen : Int) 8 _ (by omega) HG.out.int (by omega) (by omega)).mono ?_
  rintro e w3 ⟨A3, n3, c3, rfl, ho3, hb3⟩
  rw [show ((gen : Int)).toNat = gen from Int.toNat_natCast gen, show (8 : Int).toNat = 8 from rfl] at ho3
  obtain rfl : 8 = n3 := by have := own_blen ho3; rw [Wi.putL_length] at this; exact this
  have O3 := Lib.hid ho3
  have X1 := Lib.hid (Blk.below (w := w2.drew) B1.out hb3)
  have X2 := Lib.hid (Blk.below (w := w2.drew) B2.out hb3)
  have XB := Lib.hid (BB.out.drew.trans (hb3.mono BB.out.size))
  have XX := Lib.hid (show Below w2.heap.size w2 w3 from (Below.refl _ _).drew.trans hb3)
  clear ho3 hb3
  go_simp
  refine hK.out _ _ ⟨XB.out, X1.out, z, HZ3.out, X2.out⟩ (fun hh => ?_)
  have HH' := Lib.hid hh
  clear hh hK K HH B1 B2 BB
  have HH := Lib.hid HH'.out
  clear HH'
  refine wpAnyH_ready (rs := [3]) (by kernel_rfl) (by simp) (AllReadyH.cons rfl (fun K hK => ?_) AllReadyH.nil)
  refine step_copy_splice (by rfl) (.tmp 28) (.tmp 30) 55 55 rfl 5 Tryz.underlying55 info5S (some ⟨w.heap.size + 1, 16, none⟩) A3 8 112 8 c3 rfl rfl (w.heap.size + 1) 16 (bv z) 101 X2.out (bv (Wi.putL gen 8)) (by rw [bv_length, Wi.putL_length]; rfl) (fun h => ⟨rfl, rd_srcS (Rd.own O3.out) h⟩) (by rw [bv_length, bv_length, Wi.putL_length, HZ3.out]; omega) (bv_one _) (w.heap.size + 1) w3 (Below.refl _ _) (Nat.le_refl _) ?_
  intro w4 hc4 hb4
  rw [splice_bv, HZ0.out] at hc4
  have Y1 := Lib.hid (blk_lt X1.out hb4 (by omega))
  have Y2 := Lib.hid (show Blk w4 (w.heap.size + 1) (bva (lay1 gen)) 101 from hc4.out)
  have YB := Lib.hid (XB.out.trans (hb4.mono (by omega)))
  clear hc4 hb4
  refine hK.out _ _ ?keep (fun hh => ?_)
  case keep => exact ⟨YB.out, Y1.out, lay1 gen, lay1_length gen, Y2.out⟩
  clear hh hK K HH X1 X2 XB XX O3
  try simp only [List.getElem_toArray, List.getElem_cons_succ, List.getElem_cons_zero, Act.put, List.setIfInBounds_toArray, List.set_cons_zero, List.set_cons_succ]
  refine wpAnyH_done (by kernel_rfl) ?_ _
  have Y24 := Lib.hid (Y2.out.cellb (k := 24) (by rw [lay1_length]; omega))
  have YF := Lib.hid (Y2.out.free 24)
  have y24 := Y24.out
  have yf := YF.out
  go_wp2_with (show wpList _ _ _ ({ dst := some 38, op := .call { callee := .builtin .copy, args := #[.tmp 36, .tmp 37], argTypes := _ }, type := _, pos := _, after := _, guard := _ } :: _) _ _; apply Classical.byContradiction; intro hneg)
  refine hneg ?_
  clear hneg
  obtain ⟨w5, hw5⟩ : ∃ w5, w5 = World.setCell w4 ⟨w.heap.size + 1, 24, none⟩ (.int .u8 (n : Int)) := ⟨_, rfl⟩
  rw [← hw5]
  have Z1 := Lib.hid (show Blk w5 w.heap.size (bva z) 101 from by rw [hw5]; exact Y1.out.other (by omega) _ _)
  have Z2 := Lib.hid (show Blk w5 (w.heap.size + 1) (bva (lay2 gen l)) 101 from by rw [hw5, ← HL2.out]; exact Y2.out.setb 24 _ (int_eq (by rw [UInt8.toNat_ofNat']; have := HN.out; omega)))
  have ZB := Lib.hid (show Below w.heap.size w w5 from by rw [hw5]; exact YB.out.setCell (by simp) _)
  clear y24 yf Y24 YF Y1 Y2 YB hw5
  refine wpList_copy_splice rfl (.tmp 36) (.tmp 37) 55 55 rfl 5 Tryz.underlying55 info5S (some ⟨w.heap.size + 1, 25, none⟩) A 103 103 n c rfl rfl (w.heap.size + 1) 25 (bv (lay2 gen l)) 101 Z2.out (bv l) (by rw [bv_length, HL.out]; exact (Nat.min_eq_left HN.out).symm) (fun h => ⟨rfl, rd_srcS (HR.out.below ZB.out) h⟩) (by rw [bv_length, bv_length, lay2_length, HL.out]; have := HN.out; omega) (bv_one _) (w.heap.size + 1) w5 (Below.refl _ _) (Nat.le_refl _) ?_
  intro w6 hc6 hb6
  rw [splice_bv, HM0.out] at hc6
  have V1 := Lib.hid (blk_lt Z1.out hb6 (by omega))
  have V2 := Lib.hid (show Blk w6 (w.heap.size + 1) (bva m) 101 from hc6.out)
  have VB := Lib.hid (ZB.out.trans (hb6.mono (by omega)))
  clear hc6 hb6 Z1 Z2 ZB
  go_wp2_with (refine wpList_load_row rfl 101 (.tmp 10) rfl (w.heap.size + 1) rfl 101 (bva m) (0, 0) _ V2.out Tryz.underlying101 rfl HIM.out ?_)
  refine (HCS.out _).mono ?_
  rintro e w7 ⟨rfl, bw⟩
  have U1 := Lib.hid (V1.out.below bw)
  have U2 := Lib.hid (V2.out.below bw)
  have UB := Lib.hid (VB.out.trans (bw.mono VB.out.size))
  have hlt7 : w.heap.size + 1 < w7.heap.size := U2.out.lt
  clear bw V1 V2 VB
  go_wp2_with (show wpList _ _ _ ({ dst := none, op := .store 135 (.tmp 11) (.tmp 42), type := _, pos := _, after := _, guard := _ } :: _) _ _; apply Classical.byContradiction; intro hneg)
  refine hneg ?_
  clear hneg
  refine wpList_store_row rfl 135 (.tmp 11) (.tmp 42) rfl w7.heap.size (bva O) rfl rfl 135 (bva y) (heap_alloc_new _ _) HIO.out (by rw [bva_size, bva_size, HO3.out, HY3.out]) (bva_one _) ?_
  obtain ⟨w8, hw8⟩ : ∃ w8, w8 = (w7.alloc (.cells (bva y) 135)).setRow w7.heap.size (bva O) := ⟨_, rfl⟩
  rw [← hw8]
  obtain ⟨g8, hg8⟩ : ∃ g8, g8 = w7.heap.size := ⟨_, rfl⟩
  have T1 := Lib.hid (show Blk w8 w.heap.size (bva z) 101 from by rw [hw8]; exact blk_past U1.out)
  have T2 := Lib.hid (show Blk w8 (w.heap.size + 1) (bva m) 101 from by rw [hw8]; exact blk_past U2.out)
  have T3 := Lib.hid (show Blk w8 g8 (bva O) 135 from by rw [hw8, hg8]; exact blk_new _)
  have TB := Lib.hid (show Below w.heap.size w w8 from by rw [hw8]; exact below_new UB.out UB.out.size)
  rw [← hg8]
  rw [← hg8] at hlt7
  have HLT := Lib.hid hlt7
  clear hw8 hg8 U1 U2 UB hlt7
  go_wp2_with fail
  refine wp_region_held_drew (S := (fun w' => Below w.heap.size w w' ∧ Blk w' w.heap.size (bva z) 101 ∧ ∃ l : List UInt8, l.length = 128 ∧ Blk w' (w.heap.size + 1) (bva l) 101)) (by kernel_rfl) ⟨TB.out.drew, (show Blk _ _ _ _ from T1.out), m, HM3.out, (show Blk _ _ _ _ from T2.out)⟩ (fun hh => ?_)
  have HH := Lib.hid hh
  clear hh
  refine wpAnyH_take (i := 0) (v := ?vQ0) rfl (by kernel_rfl) (by kernel_rfl) (by kernel_rfl) (fun _ _ _ h => h) (Or.inl ⟨by rfl, fun w' _ => ?yQ0⟩) HH.out ?_
  case yQ0 => (go_simp; try with_reducible rfl)
  refine wpAnyH_take (i := 1) (v := ?vQ1) rfl (by kernel_rfl) (by kernel_rfl) (by kernel_rfl) (fun _ _ _ h => h) (Or.inl ⟨by rfl, fun w' _ => ?yQ1⟩) HH.out ?_
  case yQ1 => (go_simp; try with_reducible rfl)
  try simp only [List.getElem_toArray, List.getElem_cons_succ, List.getElem_cons_zero, Act.put, List.setIfInBounds_toArray, List.set_cons_zero, List.set_cons_succ]
  refine wpAnyH_ready (rs := [2]) (by kernel_rfl) (by simp) (AllReadyH.cons rfl (fun K hK => ?_) AllReadyH.nil)
  refine step_copy_splice (by rfl) (.tmp 43) (.tmp 44) 55 55 rfl 5 Tryz.underlying55 info5S (some ⟨w.heap.size + 1, 0, none⟩) (some ⟨g8, 0, none⟩) 16 128 16 16 rfl rfl (w.heap.size + 1) 0 (bv m) 101 (show Blk _ _ _ _ from T2.out) (bv O) (by rw [bv_length, HO3.out]; rfl) (fun h => ⟨rfl, rd_srcS (rd_bvS (show Blk w8.drew _ _ _ from T3.out)) h⟩) (by rw [bv_length, bv_length, HO3.out, HM3.out]; omega) (bv_one _) (w.heap.size + 1) w8.drew (Below.refl _ _) (Nat.le_refl _) ?_
  intro w9 hc9 hb9
  rw [splice_bv, HR0.out] at hc9
  have P1 := Lib.hid (blk_lt (show Blk w8.drew _ _ _ from T1.out) hb9 (by omega))
  have P2 := Lib.hid (show Blk w9 (w.heap.size + 1) (bva R) 101 from hc9.out)
  have PB := Lib.hid (TB.out.drew.trans (hb9.mono (by omega)))
  clear hc9 hb9
  refine hK.out _ _ ?keep2 (fun hh => ?_)
  case keep2 => exact ⟨PB.out, P1.out, R, HR3.out, P2.out⟩
  clear hh hK K HH T1 T2 T3 TB
  try simp only [List.getElem_toArray, List.getElem_cons_succ, List.getElem_cons_zero, Act.put, List.setIfInBounds_toArray, List.set_cons_zero, List.set_cons_succ]
  refine wpAnyH_done (by kernel_rfl) ?_ _
  go_wp2_with (first
    | (refine wpList_load_row rfl 101 (.tmp 10) rfl (w.heap.size + 1) rfl 101 (bva R) (0, 0) _ P2.out Tryz.underlying101 rfl HIR.out ?_)
    | (refine wpList_store_row rfl 101 (.tmp 8) (.tmp 46) rfl w.heap.size (bva R) rfl rfl 101 (bva z) P1.out HIR.out (by rw [bva_size, bva_size, HR3.out, HZ3.out]) (bva_one _) ?_))
  exact bodyPost_ret (v := .tuple #[.agg (bva R), .bool true]) (results_ct8 Tryz.results47 _ _ w.heap.size 101 (bva R) _ rfl (setRow_heap _ _ _ _ _ _ P1.out) Tryz.underlying101 rfl HIR.out) rfl ⟨rfl, below_setRow PB.out (Nat.le_refl _) _⟩
/-- What Pack tells of any place, number and body. -/
theorem pack_any (ci : SCiph) (a : Int) (gen : Nat) (hg : gen < 18446744073709551616) (A : Option Addr) (n c : Nat) (l : List UInt8) (w : World) (hl : l.length = n) (hr : Rd w.heap.size w A (bv l)) :
    Calls Tryz.prog 47 #[ci.v, .int .i64 a, .int .u64 gen, .slice A n c] w (RetB (.tuple #[.agg (bva (packS ci.f a gen l)), .bool (mayS a l)]) w) := by
  by_cases h : 0 ≤ a ∧ a < 4096 ∧ l.length ≤ 103
  · obtain ⟨k, rfl⟩ := Int.eq_ofNat_of_zero_le h.1
    have hm : mayS (k : Int) l = true := decide_eq_true h
    rw [packS, hm, if_pos rfl]
    exact pack_yes ci k (by omega) gen hg A n c l w hl (by omega) hr
  · have hm : mayS a l = false := decide_eq_false h
    rw [packS, hm, if_neg (by simp)]
    by_cases h0 : 0 ≤ a
    · by_cases h1 : a < 4096
      · exact pack_no2 a gen A n c w ci.T ci.x h0 h1 (by omega)
      · exact pack_no1 a gen A n c w ci.T ci.x h0 (by omega)
    · exact pack_no0 a gen A n c w ci.T ci.x (by omega)
end Go.Proofs.YtnplhagfmfggcaaGreat.Sx
/-
  The contract of bytes.Clone: a row of the same bytes in new memory.
-/
namespace Go.Proofs.YtnplhagfmfggcaaGreat.Sx
open Go.RowKit
set_option maxHeartbeats 800000 in
theorem clone_some {B : Nat} (ad : Addr) (n c : Nat) (l : List UInt8) (w : World) (hn : l.length = n) (hB : B ≤ w.heap.size) (ha : Rd B w (some ad) (bv l)) (hs : n ≤ 140737488355328) :
    Calls Tryz.prog 67 #[.slice (some ad) n c] w (RetRow 5 (bv l) w) := by
  have hnil := fun W => Lib.run_eql_slice_nil (P := Tryz.prog) W 55 5 (some ad) n c 0 0 Tryz.underlying55
  simp only [Option.isNone_some] at hnil
  have HN := Lib.hid hn
  clear hn
  go_enter Tryz.func67, Tryz.ntmps67
  go_wp2_with (at_builtin; refine wpList_app _ rfl (.tmp 5) (.tmp 6) _ rfl Wi.bytesElt (base := w.heap.size) (v := .slice (some ⟨w.heap.size, 0, none⟩) 0 0) rfl (World.ownsRow_lit w #[] 0 (Nat.le_refl _) (Nat.zero_le _) rfl) (m := n) rfl ((ha.more hB).below ((Below.refl _ _).alloc (Nat.le_refl _) _)) ((bv_length l).trans HN.out) (bv_one _) ?_ ?_ ?_; omega; (simp); intro A2 c2 w2 ho2 hg2 _; have hb2 := app_below ((Below.refl w.heap.size w).alloc (Nat.le_refl _) _) (World.ownsRow_lit w #[] 0 (Nat.le_refl _) (Nat.zero_le _) rfl) hg2 (Nat.le_refl _) (by simp))
  go_ret
  exact RetRow.mk rfl (own_eq ho2 (by omega) rfl) hb2

set_option maxHeartbeats 800000 in
theorem clone_none (n c : Nat) (w : World) :
    Calls Tryz.prog 67 #[.slice none n c] w fun e w' => e = .returned (.slice none 0 0) ∧ w = w' := by
  have hnil := fun W => Lib.run_eql_slice_nil (P := Tryz.prog) W 55 5 none n c 0 0 Tryz.underlying55
  simp only [Option.isNone_none] at hnil
  go_enter Tryz.func67, Tryz.ntmps67
  go_wp2_with fail
  go_ret
  exact ⟨rfl, rfl⟩

theorem clone_any {B : Nat} (A : Option Addr) (n c : Nat) (l : List UInt8) (w : World) (hn : l.length = n) (hB : B ≤ w.heap.size) (ha : Rd B w A (bv l)) (hs : n ≤ 140737488355328) :
    Calls Tryz.prog 67 #[.slice A n c] w (RetRow 5 (bv l) w) := by
  rcases A with _ | ad
  · have hl : l = [] := by
      rcases l with _ | ⟨x, l⟩
      · rfl
      · obtain ⟨_, h, _⟩ := ha.at_ (k := 0) (by simp)
        cases h
    subst hl
    refine (clone_none n c w).mono ?_
    rintro e w' ⟨rfl, rfl⟩
    exact RetRow.mk rfl (World.ownsRow_nil _ _ _ _) (Below.refl _ _)
  · exact clone_some ad n c l w hn hB ha hs
end Go.Proofs.YtnplhagfmfggcaaGreat.Sx
/-
  A part of a sector, cut out by two numbers.
-/
namespace Go.Proofs.YtnplhagfmfggcaaGreat.Sx
open Go.RowKit
theorem sec_under : Tryz.prog.underlying 101 = some (.array (Tryz.prog.arrayLen 101) (Tryz.prog.elem 101)) := by kernel_rfl
theorem sec_len : Tryz.prog.arrayLen 101 = 128 := by kernel_rfl
theorem sec_elem (W : World) : (sizeOf (Tryz.prog.elem 101)).run Tryz.prog W = .ok 1 W := by kernel_rfl
theorem slice_sec (W : World) (g l h : Nat) (h1 : l ≤ h) (h2 : h ≤ 128) (h3 : l < 128) :
    (Instr.sliceAt 101 (.pointer (some ⟨g, 0, none⟩)) (some (.int .i64 (l : Int))) (some (.int .i64 (h : Int))) none).run Tryz.prog W = .ok (.slice (some ⟨g, l, none⟩) (h - l) (128 - l)) W := by
  rw [run_sliceAt_array_lh W 101 ⟨g, 0, none⟩ sec_under .i64 .i64 (l : Int) (h : Int) (by omega) (by omega) (by rw [sec_len]; omega), sec_elem]
  show Result.ok _ _ = _
  rw [sec_len, slicedAt, if_neg (by omega), Int.toNat_natCast, Int.toNat_natCast, Nat.mul_one]
  have e : (⟨g, 0, none⟩ : Addr).add l = ⟨g, l, none⟩ := by
    unfold Addr.add; split
    · rename_i h; rw [h]
    · simp
  rw [e]
end Go.Proofs.YtnplhagfmfggcaaGreat.Sx
/-
  The contract of sector.Unpack, by any cipher, and by none.
-/
namespace Go.Proofs.YtnplhagfmfggcaaGreat.Sx
open Go.RowKit Kd
attribute [local go_sem ↓] Go.wp_at_zero Go.wp_at_succ
/-- It tells a generation, a body in new memory, and whether they are right. -/
def RetU (g : Nat) (l : List UInt8) (ok : Bool) (w : World) (e : Ending) (w' : World) : Prop :=
  ∃ A n c, e = .returned (.tuple #[.int .u64 (g : Int), .slice A n c, .bool ok]) ∧ w'.ownsRow w.heap.size 5 1 (.slice A n c) n (bv l) ∧ Below w.heap.size w w'
theorem RetU.none {w w' : World} (h : Below w.heap.size w w') : RetU 0 [] false w (.returned (.tuple #[.int .u64 0, .slice none 0 0, .bool false])) w' :=
  ⟨_, _, _, rfl, World.ownsRow_nil _ _ _ _, h⟩
theorem ok_long {f : List UInt8 → List UInt8 → List UInt8} {a : Int} {s : List UInt8} (h : 103 < sizeS s) : okS f a s = false := by
  rw [okS, decide_eq_false (by omega)]; rfl
theorem ok_not {f : List UInt8 → List UInt8 → List UInt8} {a : Int} {s : List UInt8} (h : mayS a (bodyS s) = false) : okS f a s = false := by
  rw [okS, h]; simp
theorem ok_pack {f : List UInt8 → List UInt8 → List UInt8} {a : Int} {s : List UInt8} (h0 : sizeS s ≤ 103) (h : mayS a (bodyS s) = true) : okS f a s = decide (packS f a (genS s) (bodyS s) = s) := by
  rw [okS, h, decide_eq_true h0, packS, h, if_pos rfl]; rfl
theorem rd_takeS {B : Nat} {w : World} {A : Option Addr} {l : List UInt8} (h : Rd B w A (bv l)) (n : Nat) : Rd B w A (bv (l.take n)) := fun k u hu => h k u (bv_take_get hu)
set_option maxRecDepth 100000 in
set_option maxHeartbeats 6400000 in
theorem unpack_nil  (a : Int) (s : List UInt8) (hs : s.length = 128) (w : World) :
    Calls Tryz.prog 43 #[.nilIface, .int .i64 a, .agg (bva s)] w (RetU 0 [] false w) := by
  have HS := Lib.hid hs
  obtain ⟨w2, hw2⟩ : ∃ w2, w2 = w.alloc (.cells (bva s) 101) := ⟨_, rfl⟩
  have b1 : Blk w2 w.heap.size (bva s) 101 := by rw [hw2]; exact heap_alloc_new _ _
  have B1 := Lib.hid b1
  have BB := Lib.hid (show Below w.heap.size w w2 from by rw [hw2]; exact (Below.refl _ _).alloc (Nat.le_refl _) _)
  have HIS : Hid ((Tryz.prog.info? 101).map (·.size) = some (bva s).size) := by rw [bva_size, hs]; exact info_sec
  obtain ⟨q, hq0⟩ : ∃ q, q = s.getD 24 0 := ⟨_, rfl⟩
  have hqn : sizeS s = q.toNat := by rw [sizeS, hq0]
  obtain ⟨n, hn⟩ : ∃ n : Nat, n = q.toNat := ⟨_, rfl⟩
  have hnb : n < 256 := by rw [hn]; exact UInt8.toNat_lt q
  have c24 := b1.cellb (k := 24) (by rw [hs]; omega)
  rw [← hq0, ← hn, hw2] at c24
  have HN := Lib.hid (show sizeS s = n by rw [hqn, hn])
  by_cases hlong : 103 < n
  · have hd : decide ((103 : Int) < (n : Int)) = true := by simp; omega
    have HL := Lib.hid hlong
    clear b1 hs hq0 hqn hn hlong
    go_enter Tryz.func43, Tryz.ntmps43
    go_wp2_with fail
    rw [← hw2]
    go_ret3
    exact RetU.none BB.out
  · have hd : decide ((103 : Int) < (n : Int)) = false := by simp; omega
    have wn2 : IntKind.i64.wrap (25 + (n : Int)) = 25 + (n : Int) := IntWalk.i64_in _ (by omega)
    have hsl : ∀ W, (Instr.sliceAt 101 (.pointer (some ⟨w.heap.size, 0, none⟩)) (some (.int .i64 25)) (some (.int .i64 (25 + (n : Int)))) none).run Tryz.prog W = .ok (.slice (some ⟨w.heap.size, 25, none⟩) n 103) W := fun W => by
      have h := slice_sec W w.heap.size 25 (25 + n) (by omega) (by omega) (by omega)
      rw [show 25 + n - 25 = n by omega, Int.natCast_add] at h
      exact h
    have h25 : n ≤ 103 := by omega
    have HNL := Lib.hid h25
    obtain ⟨g, hg⟩ : ∃ g, g = genS s := ⟨_, rfl⟩
    obtain ⟨b, hb⟩ : ∃ b, b = bodyS s := ⟨_, rfl⟩
    have HG := Lib.hid (show U64 g from by rw [hg]; exact genS_lt s)
    have HB3 := Lib.hid (show b.length = n by rw [hb, bodyS_length hs (by omega), HN.out])
    have HGW := Lib.hid (show ∀ W, Blk W w.heap.size (bva s) 101 → Calls Tryz.prog 66 #[.slice (some ⟨w.heap.size, 16, none⟩) 8 112] W fun e w' => e = .returned (.tuple #[.int .u64 (g : Int), .bool true]) ∧ W = w' from fun W hW => by
      rw [hg]
      exact Wi.wget_in (some ⟨w.heap.size, 16, none⟩) 8 112 ((s.drop 16).take 8) W (by rw [List.length_take, List.length_drop, hs]; rfl) (rd_takeS (rd_part hW 16) 8) (by omega) (by omega))
    have HBR := Lib.hid (show ∀ W, Blk W w.heap.size (bva s) 101 → Rd W.heap.size W (some ⟨w.heap.size, 25, none⟩) (bv b) from fun W hW => by
      rw [hb, bodyS]; exact rd_takeS (rd_part hW 25) _)
    obtain ⟨p, hp⟩ : ∃ p, p = zeroS := ⟨_, rfl⟩
    have HP3 := Lib.hid (show p.length = 128 by rw [hp]; exact zeroS_length)
    have HIP : Hid ((Tryz.prog.info? 101).map (·.size) = some (bva p).size) := by rw [bva_size, HP3.out]; exact info_sec
    have HCP := Lib.hid (show ∀ W A c, Rd W.heap.size W A (bv b) → Calls Tryz.prog 47 #[.nilIface, .int .i64 a, .int .u64 g, .slice A n c] W (RetB (.tuple #[.agg (bva p), .bool false]) W) from fun W A c hr => by
      rw [hp]; exact pack_nil a g A n c W)
    clear hp
    obtain ⟨z, hz0⟩ : ∃ z : List UInt8, z = zeroS := ⟨_, rfl⟩
    have hz : ∀ W, (zeroValue 101).run Tryz.prog W = .ok (.agg (bva z)) W := fun _ => by rw [hz0]; kernel_rfl
    have HZ3 := Lib.hid (show z.length = 128 by rw [hz0]; exact zeroS_length)
    clear b1 hs hq0 hqn hn hlong hg hb hz0
    go_enter Tryz.func43, Tryz.ntmps43
    go_wp2_with fail
    rw [← hw2]
    clear hw2 c24
    refine (HGW.out _ B1.out).mono ?_
    rintro e w3 ⟨rfl, rfl⟩
    go_wp2_with fail
    refine (clone_any (B := w2.heap.size) (some ⟨w.heap.size, 25, none⟩) n _ b _ HB3.out (Nat.le_refl _) (HBR.out _ B1.out) (by omega)).mono ?_
    rintro e w4 ⟨A4, n4, c4, rfl, ho, hb4⟩
    obtain rfl : n = n4 := by have := own_blen ho; have := HB3.out; omega
    have O4 := Lib.hid (own_more ho BB.out.size)
    have C1 := Lib.hid (B1.out.below hb4)
    have CB := Lib.hid (BB.out.trans (hb4.mono BB.out.size))
    clear ho hb4 B1 BB
    go_wp2_with fail
    refine (HCP.out _ A4 c4 (Rd.own O4.out)).mono ?_
    rintro e w5 ⟨rfl, bw⟩
    have O5 := Lib.hid (own_below O4.out bw)
    have D1 := Lib.hid (C1.out.below bw)
    have DB := Lib.hid (CB.out.trans (bw.mono CB.out.size))
    clear bw C1 CB O4
    go_wp2_with (show wpList _ _ _ ({ dst := none, op := .store 101 (.tmp 10) (.tmp 32), type := _, pos := _, after := _, guard := _ } :: _) _ _; apply Classical.byContradiction; intro hneg)
    refine hneg ?_
    clear hneg
    refine wpList_store_row rfl 101 (.tmp 10) (.tmp 32) rfl w5.heap.size (bva p) rfl rfl 101 (bva z) (heap_alloc_new _ _) HIP.out (by rw [bva_size, bva_size, HP3.out, HZ3.out]) (bva_one _) ?_
    obtain ⟨w6, hw6⟩ : ∃ w6, w6 = (w5.alloc (.cells (bva z) 101)).setRow w5.heap.size (bva p) := ⟨_, rfl⟩
    rw [← hw6]
    obtain ⟨g6, hg6⟩ : ∃ g6, g6 = w5.heap.size := ⟨_, rfl⟩
    have hb6 : Below w5.heap.size w5 w6 := by rw [hw6]; exact below_new (Below.refl _ _) (Nat.le_refl _)
    have E1 := Lib.hid (D1.out.below hb6)
    have E2 := Lib.hid (show Blk w6 g6 (bva p) 101 from by rw [hw6, hg6]; exact blk_new _)
    have O6 := Lib.hid (own_below O5.out hb6)
    have EB := Lib.hid (DB.out.trans (hb6.mono DB.out.size))
    rw [← hg6]
    clear hw6 hg6 hb6 D1 DB O5
    go_wp2_with fail
    go_ret3
    exact RetU.none EB.out
set_option maxRecDepth 100000 in
set_option maxHeartbeats 6400000 in
theorem unpack_any (ci : SCiph) (a : Int) (s : List UInt8) (hs : s.length = 128) (w : World) :
    Calls Tryz.prog 43 #[ci.v, .int .i64 a, .agg (bva s)] w (RetU (unpackS ci.f a s).1 (unpackS ci.f a s).2 (okS ci.f a s) w) := by
  have HS := Lib.hid hs
  obtain ⟨w2, hw2⟩ : ∃ w2, w2 = w.alloc (.cells (bva s) 101) := ⟨_, rfl⟩
  have b1 : Blk w2 w.heap.size (bva s) 101 := by rw [hw2]; exact heap_alloc_new _ _
  have B1 := Lib.hid b1
  have BB := Lib.hid (show Below w.heap.size w w2 from by rw [hw2]; exact (Below.refl _ _).alloc (Nat.le_refl _) _)
  have HIS : Hid ((Tryz.prog.info? 101).map (·.size) = some (bva s).size) := by rw [bva_size, hs]; exact info_sec
  obtain ⟨q, hq0⟩ : ∃ q, q = s.getD 24 0 := ⟨_, rfl⟩
  have hqn : sizeS s = q.toNat := by rw [sizeS, hq0]
  obtain ⟨n, hn⟩ : ∃ n : Nat, n = q.toNat := ⟨_, rfl⟩
  have hnb : n < 256 := by rw [hn]; exact UInt8.toNat_lt q
  have c24 := b1.cellb (k := 24) (by rw [hs]; omega)
  rw [← hq0, ← hn, hw2] at c24
  have HN := Lib.hid (show sizeS s = n by rw [hqn, hn])
  obtain ⟨v, hv⟩ : ∃ v, v = ci.v := ⟨_, rfl⟩
  have HV := Lib.hid hv
  obtain ⟨U1, hU1⟩ : ∃ x, x = (unpackS ci.f a s).1 := ⟨_, rfl⟩
  obtain ⟨U2, hU2⟩ : ∃ x, x = (unpackS ci.f a s).2 := ⟨_, rfl⟩
  obtain ⟨U3, hU3⟩ : ∃ x, x = okS ci.f a s := ⟨_, rfl⟩
  rw [← hv, ← hU1, ← hU2, ← hU3]
  by_cases hlong : 103 < n
  · have hd : decide ((103 : Int) < (n : Int)) = true := by simp; omega
    have HL := Lib.hid hlong
    have ho := ok_long (f := ci.f) (a := a) (by rw [HN.out]; exact hlong)
    obtain rfl : U3 = false := by rw [hU3, ho]
    obtain rfl : U1 = 0 := by rw [hU1, unpackS, ho, if_neg (by simp)]
    obtain rfl : U2 = [] := by rw [hU2, unpackS, ho, if_neg (by simp)]
    clear hv hU1 hU2 hU3 ho
    clear b1 hs hq0 hqn hn hlong
    go_enter Tryz.func43, Tryz.ntmps43
    go_wp2_with fail
    rw [← hw2]
    go_ret3
    exact RetU.none BB.out
  · have hd : decide ((103 : Int) < (n : Int)) = false := by simp; omega
    have wn2 : IntKind.i64.wrap (25 + (n : Int)) = 25 + (n : Int) := IntWalk.i64_in _ (by omega)
    have hsl : ∀ W, (Instr.sliceAt 101 (.pointer (some ⟨w.heap.size, 0, none⟩)) (some (.int .i64 25)) (some (.int .i64 (25 + (n : Int)))) none).run Tryz.prog W = .ok (.slice (some ⟨w.heap.size, 25, none⟩) n 103) W := fun W => by
      have h := slice_sec W w.heap.size 25 (25 + n) (by omega) (by omega) (by omega)
      rw [show 25 + n - 25 = n by omega, Int.natCast_add] at h
      exact h
    have h25 : n ≤ 103 := by omega
    have HNL := Lib.hid h25
    obtain ⟨g, hg⟩ : ∃ g, g = genS s := ⟨_, rfl⟩
    obtain ⟨b, hb⟩ : ∃ b, b = bodyS s := ⟨_, rfl⟩
    have HG := Lib.hid (show U64 g from by rw [hg]; exact genS_lt s)
    have HB3 := Lib.hid (show b.length = n by rw [hb, bodyS_length hs (by omega), HN.out])
    have HGW := Lib.hid (show ∀ W, Blk W w.heap.size (bva s) 101 → Calls Tryz.prog 66 #[.slice (some ⟨w.heap.size, 16, none⟩) 8 112] W fun e w' => e = .returned (.tuple #[.int .u64 (g : Int), .bool true]) ∧ W = w' from fun W hW => by
      rw [hg]
      exact Wi.wget_in (some ⟨w.heap.size, 16, none⟩) 8 112 ((s.drop 16).take 8) W (by rw [List.length_take, List.length_drop, hs]; rfl) (rd_takeS (rd_part hW 16) 8) (by omega) (by omega))
    have HBR := Lib.hid (show ∀ W, Blk W w.heap.size (bva s) 101 → Rd W.heap.size W (some ⟨w.heap.size, 25, none⟩) (bv b) from fun W hW => by
      rw [hb, bodyS]; exact rd_takeS (rd_part hW 25) _)
    have hu : unpackS ci.f a s = if okS ci.f a s then (g, b) else (0, []) := by rw [unpackS, hg, hb]
    have hu0 : okS ci.f a s = false → U1 = 0 ∧ U2 = [] ∧ U3 = false := fun h => by rw [hU1, hU2, hU3, hu, h, if_neg (by simp)]; exact ⟨rfl, rfl, rfl⟩
    have hu1 : okS ci.f a s = true → U1 = g ∧ U2 = b ∧ U3 = true := fun h => by rw [hU1, hU2, hU3, hu, h, if_pos rfl]; exact ⟨rfl, rfl, rfl⟩
    obtain ⟨p, hp⟩ : ∃ p, p = packS ci.f a g b := ⟨_, rfl⟩
    have HP3 := Lib.hid (show p.length = 128 by rw [hp]; exact packS_length ci.len)
    have HIP : Hid ((Tryz.prog.info? 101).map (·.size) = some (bva p).size) := by rw [bva_size, HP3.out]; exact info_sec
    obtain ⟨may, hmay⟩ : ∃ may, may = mayS a b := ⟨_, rfl⟩
    have HCP := Lib.hid (show ∀ W A c, Rd W.heap.size W A (bv b) → Calls Tryz.prog 47 #[v, .int .i64 a, .int .u64 g, .slice A n c] W (RetB (.tuple #[.agg (bva p), .bool may]) W) from fun W A c hr => by
      rw [hp, hmay, HV.out]; exact pack_any ci a g HG.out A n c b W HB3.out hr)
    have hok2 : may = true → okS ci.f a s = decide (p = s) := fun h => by rw [ok_pack (by rw [HN.out]; exact HNL.out) (by rw [← hb, ← hmay, h]), hp, hg, hb]
    have HE0 := Lib.hid (show may = false → U1 = 0 ∧ U2 = [] ∧ U3 = false from fun h => hu0 (ok_not (by rw [← hb, ← hmay, h])))
    have HE1 := Lib.hid (show may = true → p = s → U1 = g ∧ U2 = b ∧ U3 = true from fun h h' => hu1 (by rw [hok2 h, decide_eq_true h']))
    have HE2 := Lib.hid (show may = true → ¬ p = s → U1 = 0 ∧ U2 = [] ∧ U3 = false from fun h h' => hu0 (by rw [hok2 h, decide_eq_false h']))
    clear hp hmay hv hu hu0 hu1 hok2 hU1 hU2 hU3
    obtain ⟨z, hz0⟩ : ∃ z : List UInt8, z = zeroS := ⟨_, rfl⟩
    have hz : ∀ W, (zeroValue 101).run Tryz.prog W = .ok (.agg (bva z)) W := fun _ => by rw [hz0]; kernel_rfl
    have HZ3 := Lib.hid (show z.length = 128 by rw [hz0]; exact zeroS_length)
    clear b1 hs hq0 hqn hn hlong hg hb hz0
    go_enter Tryz.func43, Tryz.ntmps43
    go_wp2_with fail
    rw [← hw2]
    clear hw2 c24
    refine (HGW.out _ B1.out).mono ?_
    rintro e w3 ⟨rfl, rfl⟩
    go_wp2_with fail
    refine (clone_any (B := w2.heap.size) (some ⟨w.heap.size, 25, none⟩) n _ b _ HB3.out (Nat.le_refl _) (HBR.out _ B1.out) (by omega)).mono ?_
    rintro e w4 ⟨A4, n4, c4, rfl, ho, hb4⟩
    obtain rfl : n = n4 := by have := own_blen ho; have := HB3.out; omega
    have O4 := Lib.hid (own_more ho BB.out.size)
    have C1 := Lib.hid (B1.out.below hb4)
    have CB := Lib.hid (BB.out.trans (hb4.mono BB.out.size))
    clear ho hb4 B1 BB
    go_wp2_with fail
    refine (HCP.out _ A4 c4 (Rd.own O4.out)).mono ?_
    rintro e w5 ⟨rfl, bw⟩
    have O5 := Lib.hid (own_below O4.out bw)
    have D1 := Lib.hid (C1.out.below bw)
    have DB := Lib.hid (CB.out.trans (bw.mono CB.out.size))
    clear bw C1 CB O4
    go_wp2_with (show wpList _ _ _ ({ dst := none, op := .store 101 (.tmp 10) (.tmp 32), type := _, pos := _, after := _, guard := _ } :: _) _ _; apply Classical.byContradiction; intro hneg)
    refine hneg ?_
    clear hneg
    refine wpList_store_row rfl 101 (.tmp 10) (.tmp 32) rfl w5.heap.size (bva p) rfl rfl 101 (bva z) (heap_alloc_new _ _) HIP.out (by rw [bva_size, bva_size, HP3.out, HZ3.out]) (bva_one _) ?_
    obtain ⟨w6, hw6⟩ : ∃ w6, w6 = (w5.alloc (.cells (bva z) 101)).setRow w5.heap.size (bva p) := ⟨_, rfl⟩
    rw [← hw6]
    obtain ⟨g6, hg6⟩ : ∃ g6, g6 = w5.heap.size := ⟨_, rfl⟩
    have hb6 : Below w5.heap.size w5 w6 := by rw [hw6]; exact below_new (Below.refl _ _) (Nat.le_refl _)
    have E1 := Lib.hid (D1.out.below hb6)
    have E2 := Lib.hid (show Blk w6 g6 (bva p) 101 from by rw [hw6, hg6]; exact blk_new _)
    have O6 := Lib.hid (own_below O5.out hb6)
    have EB := Lib.hid (DB.out.trans (hb6.mono DB.out.size))
    rw [← hg6]
    clear hw6 hg6 hb6 D1 DB O5
    cases may
    · go_wp2_with fail
      go_ret3
      obtain ⟨h1, h2, h3⟩ := HE0.out (by first | rfl | trivial)
      rw [h1, h2, h3]
      exact RetU.none EB.out
    · by_cases hps : p = s
      · have HEQ := Lib.hid (show ∀ W, (Op.equalIn 10000 101 (.agg (bva p)) (.agg (bva s))).run Tryz.prog W = .ok true W from fun W => by rw [eq_sec p s HP3.out HS.out, decide_eq_true hps])
        have heq := HEQ.out
        have HPS := Lib.hid hps
        clear hps
        go_wp2_with (first
          | (refine wpList_execg8 (o := { dst := some 37, op := .load 101 (.tmp 10), type := _, pos := _, after := _, guard := _ }) (v := .agg (bva p)) (w' := w6) rfl ?hl1 ?_; case hl1 => exact exec_load 101 (.tmp 10) rfl rfl E2.out Tryz.underlying101 rfl HIP.out)
          | (refine wpList_execg8 (o := { dst := some 38, op := .load 101 (.tmp 5), type := _, pos := _, after := _, guard := _ }) (v := .agg (bva s)) (w' := w6) rfl ?hl2 ?_; case hl2 => exact exec_load 101 (.tmp 5) rfl rfl E1.out Tryz.underlying101 rfl HIS.out))
        go_ret3
        obtain ⟨h1, h2, h3⟩ := HE1.out (by first | rfl | trivial) HPS.out
        rw [h1, h2, h3]
        exact ⟨A4, n, c4, rfl, O6.out, EB.out⟩
      · have HEQ := Lib.hid (show ∀ W, (Op.equalIn 10000 101 (.agg (bva p)) (.agg (bva s))).run Tryz.prog W = .ok false W from fun W => by rw [eq_sec p s HP3.out HS.out, decide_eq_false hps])
        have heq := HEQ.out
        have HPS := Lib.hid hps
        clear hps
        go_wp2_with (first
          | (refine wpList_execg8 (o := { dst := some 37, op := .load 101 (.tmp 10), type := _, pos := _, after := _, guard := _ }) (v := .agg (bva p)) (w' := w6) rfl ?hl1 ?_; case hl1 => exact exec_load 101 (.tmp 10) rfl rfl E2.out Tryz.underlying101 rfl HIP.out)
          | (refine wpList_execg8 (o := { dst := some 38, op := .load 101 (.tmp 5), type := _, pos := _, after := _, guard := _ }) (v := .agg (bva s)) (w' := w6) rfl ?hl2 ?_; case hl2 => exact exec_load 101 (.tmp 5) rfl rfl E1.out Tryz.underlying101 rfl HIS.out))
        go_ret3
        obtain ⟨h1, h2, h3⟩ := HE2.out (by first | rfl | trivial) HPS.out
        rw [h1, h2, h3]
        exact RetU.none EB.out
end Go.Proofs.YtnplhagfmfggcaaGreat.Sx
