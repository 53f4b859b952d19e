/-
  A load of a region that draws its order may be taken first where all that does not wait for it only looks, or makes new memory.
-/
import Derived.Test.YtolbffcbamfbeaaHere
import Derived.ProofKit
namespace Go.Proofs.Ytolbffcbamfbeaa
open Go.RowKit
/-- It ends in a world in which all that there was is as it was, or it halts. -/
def Grows {α : Type} (P : Program) (s : Sem α) : Prop := ∀ w, match s.run P w with | .ok _ w' => Below w.heap.size w w' | .halt .. => True
section
variable {P : Program} {α β : Type}
theorem grows_of_looks {s : Sem α} (h : s.Looks) : Grows P s := fun w => by
  cases hr : s.run P w with
  | ok v w1 =>
    have := h.ok hr
    subst this
    exact Below.refl _ _
  | halt x w1 => trivial
theorem grows_bind {s : Sem α} {f : α → Sem β} (h : Grows P s) (hf : ∀ a, Grows P (f a)) : Grows P (s >>= f) := fun w => by
  rw [Sem.run_bind]
  have h1 := h w
  cases hr : s.run P w with
  | ok v w1 =>
    rw [hr] at h1
    have h1' : Below w.heap.size w w1 := h1
    have h2 := hf v w1
    simp only [Result.andThen]
    cases hr2 : (f v).run P w1 with
    | ok u w2 =>
      rw [hr2] at h2
      have h2' : Below w1.heap.size w1 w2 := h2
      exact h1'.trans (h2'.mono h1'.size)
    | halt x w2 => trivial
  | halt x w1 => trivial
theorem grows_newRow (e : TypeId) (cs : Array Value) : Grows P (newRow e cs) := fun w => by
  have h : (newRow e cs).run P w = .ok ⟨w.heap.size, 0, none⟩ (w.alloc (.cells cs e)) := rfl
  rw [h]
  exact (Below.refl _ _).alloc (Nat.le_refl _) _
theorem zeroValue_looks (t : TypeId) : (zeroValue t).Looks := by
  unfold zeroValue
  refine Sem.Looks.bind (typeInfo_looks t) fun i => ?_
  split
  · exact pure_looks _
  · exact unsupported_looks _
theorem mapM_arr_looks {f : α → Sem β} (hf : ∀ a, (f a).Looks) (l : Array α) : (l.mapM f).Looks := by
  rw [Array.mapM_eq_mapM_toList]
  exact Sem.Looks.bind (mapM_looks f hf _) fun _ => pure_looks _
theorem build_looks (t : TypeId) (ps : Array (Nat × Value)) : (Instr.build t ps).Looks := by
  unfold Instr.build
  refine Sem.Looks.bind (zeroValue_looks t) fun z => ?_
  refine Sem.Looks.bind (underlying_looks t) fun d => ?_
  split
  · refine Sem.Looks.bind (mapM_arr_looks (fun f => Sem.Looks.bind (sizeOf_looks _) fun _ => pure_looks _) _) fun pl => ?_
    split
    · exact pure_looks _
    · exact stuck_looks _
  · refine Sem.Looks.bind (sizeOf_looks _) fun n => ?_
    split
    · exact pure_looks _
    · exact stuck_looks _
  · exact stuck_looks _
theorem buildSlice_grows (t : TypeId) (n : Nat) (ps : Array (Nat × Value)) : Grows P (Instr.buildSlice t n ps) := by
  unfold Instr.buildSlice
  refine grows_bind (grows_of_looks (underlying_looks t)) fun d => ?_
  split
  · refine grows_bind (grows_of_looks (sizeOf_looks _)) fun sz => ?_
    dsimp only
    repeat' first
      | exact grows_of_looks (pure_looks _)
      | exact grows_of_looks (stuck_looks _)
      | exact grows_of_looks (unsupported_looks _)
      | exact grows_of_looks (zeroValue_looks _)
      | exact grows_newRow _ _
      | split
      | refine grows_bind ?_ (fun _ => ?_)
  · exact grows_of_looks (stuck_looks _)
/-- It yields a value and leaves what there was as it was, or ends. -/
def mild (o : Oper) : Bool := match o.op with
  | .load .. | .move _ | .assign _ | .extract .. | .build .. | .buildSlice .. => true
  | _ => false
theorem mild_run {o : Oper} (h : mild o = true) (r : Operand → Value) (w : World) :
    (∃ v w', (execOp r o).run P w = .ok (.value v) w' ∧ Below w.heap.size w w') ∨ ∃ x w', (execOp r o).run P w = .halt x w' := by
  have val : ∀ s : Sem Value, Grows P s → (∃ v w', (do pure (Next.value (← s)) : Sem Next).run P w = .ok (.value v) w' ∧ Below w.heap.size w w') ∨ ∃ x w', (do pure (Next.value (← s)) : Sem Next).run P w = .halt x w' := by
    intro s hs
    rw [Sem.run_bind]
    have h1 := hs w
    cases hr : s.run P w with
    | ok v w1 => rw [hr] at h1; exact .inl ⟨v, w1, rfl, h1⟩
    | halt x w1 => exact .inr ⟨x, w1, rfl⟩
  unfold mild at h
  split at h
  · rename_i t x ho
    unfold execOp
    simp only [ho]
    exact val _ (grows_of_looks (loadAt_looks _ _))
  · rename_i x ho
    unfold execOp
    simp only [ho]
    exact .inl ⟨_, _, rfl, Below.refl _ _⟩
  · rename_i x ho
    unfold execOp
    simp only [ho]
    exact .inl ⟨_, _, rfl, Below.refl _ _⟩
  · rename_i x k ho
    unfold execOp
    simp only [ho]
    refine val _ (grows_of_looks ?_)
    unfold Instr.extract
    repeat (first | exact pure_looks _ | exact stuck_looks _ | split)
  · rename_i t ps ho
    unfold execOp
    simp only [ho]
    exact val _ (grows_of_looks (build_looks _ _))
  · rename_i t n ps ho
    unfold execOp
    simp only [ho]
    exact val _ (buildSlice_grows _ _ _)
  · cases h
variable {ops : Array Oper} {Q : Exit → Act → World → Prop} {md : Region.Mode}
theorem wpOp_mild {j : Nat} {o : Oper} (hj : ops[j]? = some o) (h : mild o = true) {K : Act → World → Prop} {a : Act} {w : World} (hh : wpOp P ops Q j K a w) :
    wpOp P ops Q j (fun a' w' => Below w.heap.size w w' ∧ K a' w') a w := by
  unfold wpOp at *
  simp only [hj] at *
  split
  · rename_i hw
    simp only [hw, if_true] at hh
    rcases hh with hh | hh
    · refine .inl ?_
      unfold Oper.wp at *
      rcases mild_run (P := P) h a.eval w with ⟨v, w', hr, hb⟩ | ⟨x, w', hr⟩
      · rw [hr] at hh ⊢
        exact ⟨hb, hh⟩
      · rw [hr] at hh ⊢
        cases x <;> exact hh
    · exact .inr hh
  · rename_i hw
    simp only [hw] at hh
    exact ⟨Below.refl _ _, hh⟩
/-- .. where it yields its value in whatever world grows from this one. -/
def YieldsOn (P : Program) (ops : Array Oper) (w : World) (o : Oper) (v : Value) (a : Act) : Prop := YieldsIf P ops (fun w' => Below w.heap.size w w') o v a
theorem wpAny_herem {i : Nat} {oi : Oper} {v : Value} (hi : ops[i]? = some oi) (hsel : ∀ (j : Nat) (o : Oper) cs b, ops[j]? = some o → o.op ≠ .select cs b)
    (hQ : ∀ c a w, Q (.panic c) (a.put oi.dst v) w → Q (.panic c) a w) (w0 : World) (ds : List Nat) (hds : ∀ k ok, k ∈ ds → ops[k]? = some ok → ∃ e ∈ ok.after, Region.binds md e = true ∧ (e.on = i ∨ e.on ∈ ds)) :
    ∀ (fuel : Nat) (listed : Array Bool) (a : Act) (w : World), Below w0.heap.size w0 w →
      (∀ k ∈ ds, listed.getD k true = false) → (∀ j oj, ops[j]? = some oj → j ≠ i → listed.getD j true = false → (∀ e ∈ oj.after, Region.binds md e = true → e.on ≠ i ∧ e.on ∉ ds) → oi.apart ops oj = true ∧ mild oj = true) →
      i ∈ Region.ready md ops listed → YieldsIf P ops (fun w' => Below w0.heap.size w0 w') oi v a →
      wpAny P md ops Q fuel (listed.setIfInBounds i true) (a.put oi.dst v) w → wpAny P md ops Q (fuel + 1) listed a w := by
  intro fuel
  induction fuel with
  | zero =>
    intro listed a w hb0 _ _ hr hy H
    refine ⟨fun h => (by rw [h] at hr; cases hr), fun j hj => ?_⟩
    by_cases hji : j = i
    · subst hji; exact hy.wpOp hi hb0 H
    · have := ready_mono hj hji
      rw [H.1] at this
      cases this
  | succ fuel ih =>
    intro listed a w hb0 hld hfree hr hy H
    refine ⟨fun h => (by rw [h] at hr; cases hr), fun j hj => ?_⟩
    by_cases hji : j = i
    · subst hji; exact hy.wpOp hi hb0 H
    · obtain ⟨hun, oj, hoj, hall⟩ := mem_ready.1 hj
      have no1 : ∀ k, listed.getD k true = false → listed.getD k false = true → False := fun k h0 h1 => by
        by_cases h' : k < listed.size
        · simp [h'] at h0 h1; rw [h0] at h1; cases h1
        · simp [Array.getElem?_eq_none (Nat.le_of_not_lt h')] at h1
      have hno : ∀ e ∈ oj.after, Region.binds md e = true → e.on ≠ i ∧ e.on ∉ ds := fun e he hb =>
        ⟨fun heq => no1 i (mem_ready.1 hr).1 (heq ▸ hall e he hb), fun hmem => no1 _ (hld _ hmem) (hall e he hb)⟩
      have hjd : j ∉ ds := fun hmem => by
        obtain ⟨e, he, hb, h1 | h1⟩ := hds j oj hmem hoj
        · exact (hno e he hb).1 h1
        · exact (hno e he hb).2 h1
      obtain ⟨hap, hpk⟩ := hfree j oj hoj hji hun hno
      have h2 := wpOp_mild hoj hpk (wpOp_putIf hoj hap (fun cs b => hsel i oi cs b hi) (fun cs b => hsel j oj cs b hoj) hQ hy (H.2 j (ready_mono hj hji)))
      refine wpOp_mono (fun a' w' h3 => ?_) h2
      obtain ⟨hbl, hy', h4⟩ := h3
      refine ih (listed.setIfInBounds j true) a' w' (hb0.trans (hbl.mono hb0.size)) (fun k hk => by
        have hne : j ≠ k := fun e => hjd (by rw [e]; exact hk)
        rw [getD_set_ne true hne]; exact hld k hk) (fun k ok hk hki hunk hnk => hfree k ok hk hki ?_ hnk) (ready_mono hr (Ne.symm hji)) hy' ?_
      · by_cases hjk : j = k
        · subst hjk; exact hun
        · rw [getD_set_ne true hjk] at hunk; exact hunk
      · rw [Array.setIfInBounds_comm _ _ hji]
        exact h4
/-- What does not wait for number i (nor for one of ds, which do), and has not come up, is apart from it and mild. -/
def mildB (md : Region.Mode) (ops : Array Oper) (listed : Array Bool) (i : Nat) (ds : List Nat) : Bool :=
  match ops[i]? with
  | none => false
  | some oi => ((List.range ops.size).all fun j => j == i || listed.getD j true || match ops[j]? with
      | some oj => oj.after.any (fun e => Region.binds md e && (e.on == i || ds.contains e.on)) || (oi.apart ops oj && mild oj)
      | none => true) && ds.all (fun k => !listed.getD k true && match ops[k]? with
      | some ok => ok.after.any (fun e => Region.binds md e && (e.on == i || ds.contains e.on))
      | none => true)
/-- Number i, which looks at what there was, is taken first. -/
theorem wpAny_mild {i : Nat} {oi : Oper} {v : Value} {fuel : Nat} {listed : Array Bool} {a : Act} {w : World} (ds : List Nat) (hi : ops[i]? = some oi)
    (hs : Region.noSelect ops = true) (hf : mildB md ops listed i ds = true) (hr : (Region.ready md ops listed).contains i = true)
    (hQ : ∀ c a w, Q (.panic c) (a.put oi.dst v) w → Q (.panic c) a w) (hw : Region.wanted oi (yielded ops a.tmps) = true) (hy : ∀ w', Below w.heap.size w w' → (execOp a.eval oi).run P w' = .ok (.value v) w')
    (h : wpAny P md ops Q fuel (listed.setIfInBounds i true) (a.put oi.dst v) w) : wpAny P md ops Q (fuel + 1) listed a w := by
  simp only [mildB, hi, Bool.and_eq_true, List.all_eq_true, List.mem_range] at hf
  obtain ⟨hf, hd⟩ := hf
  refine wpAny_herem hi (Region.noSelect_spec hs) hQ w ds (fun k ok hk hok => ?_) fuel listed a w (Below.refl _ _) (fun k hk => by simpa using (hd k hk).1) (fun j oj hj hji hun hno => ?_) (by simpa using hr) (.inl ⟨hw, hy⟩) h
  · have h1 := (hd k hk).2
    simp only [hok] at h1
    obtain ⟨e, he, hb⟩ := Array.any_eq_true'.1 h1
    simp only [Bool.and_eq_true, Bool.or_eq_true, beq_iff_eq, List.contains_iff_mem] at hb
    exact ⟨e, he, hb.1, hb.2⟩
  · have h1 := hf j (Array.getElem?_eq_some_iff.1 hj).1
    simp only [hj, Bool.or_eq_true, beq_iff_eq, hji, false_or, hun, Bool.false_eq_true, Bool.and_eq_true] at h1
    rcases h1 with h1 | h1
    · obtain ⟨e, he, hb⟩ := Array.any_eq_true'.1 h1
      simp only [Bool.and_eq_true, Bool.or_eq_true, beq_iff_eq, List.contains_iff_mem] at hb
      rcases hb.2 with h2 | h2
      · exact absurd h2 (hno e he hb.1).1
      · exact absurd h2 (hno e he hb.1).2
    · exact h1
end
end Go.Proofs.Ytolbffcbamfbeaa
