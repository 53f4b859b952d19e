/-
  A load of a region that draws its order may be taken first where all that does not wait for it only looks at memory: whatever the region does behind.
-/
import Derived.OrdersHeld
import Derived.Stop.Looks
namespace Go.Proofs.Ytolbffcbamfbeaa

theorem loadAt_looks (t : TypeId) (x : Value) : (Instr.loadAt t x).Looks := by
  unfold Instr.loadAt
  refine Sem.Looks.bind ?_ fun a => ?_
  · unfold Instr.sureAddr
    split
    · exact pure_looks _
    · exact stuck_looks _
  · unfold loadVar isAgg
    refine Sem.Looks.bind (Sem.Looks.bind (underlying_looks t) fun d => ?_) fun b => ?_
    · split <;> exact pure_looks _
    · split
      · exact Sem.Looks.bind (sizeOf_looks t) fun n => Sem.Looks.bind (loadCells_looks a n) fun c => pure_looks _
      · exact load_looks _ _

/-- It yields a value, or ends, and leaves the world as it is. -/
def peeks (o : Oper) : Bool := match o.op with
  | .load .. | .move _ | .assign _ | .extract .. => true
  | _ => false

theorem peeks_run {P : Program} {o : Oper} (h : peeks o = true) (r : Operand → Value) (w : World) :
    (∃ v, (execOp r o).run P w = .ok (.value v) w) ∨ ∃ x w', (execOp r o).run P w = .halt x w' := by
  have val : ∀ s : Sem Value, s.Looks → (∃ v, (do pure (Next.value (← s)) : Sem Next).run P w = .ok (.value v) w) ∨ ∃ x w', (do pure (Next.value (← s)) : Sem Next).run P w = .halt x w' := by
    intro s hs
    rw [Sem.run_bind]
    cases hr : s.run P w with
    | ok v w1 =>
      have := hs.ok hr
      subst this
      exact .inl ⟨v, rfl⟩
    | halt x w1 => exact .inr ⟨x, w1, rfl⟩
  unfold peeks at h
  split at h
  · rename_i t x ho
    unfold execOp
    simp only [ho]
    exact val _ (loadAt_looks _ _)
  · rename_i x ho
    unfold execOp
    simp only [ho]
    exact .inl ⟨_, rfl⟩
  · rename_i x ho
    unfold execOp
    simp only [ho]
    exact .inl ⟨_, rfl⟩
  · rename_i x k ho
    unfold execOp
    simp only [ho]
    refine val _ ?_
    unfold Instr.extract
    repeat (first | exact pure_looks _ | exact stuck_looks _ | split)
  · cases h

section
variable {P : Program} {ops : Array Oper} {Q : Exit → Act → World → Prop} {md : Region.Mode}

theorem wpOp_peeks {j : Nat} {o : Oper} (hj : ops[j]? = some o) (h : peeks o = true) {K : Act → World → Prop} {a : Act} {w : World} (hh : wpOp P ops Q j K a w) :
    wpOp P ops Q j (fun a' w' => w' = w ∧ K a' w') a w := by
  unfold wpOp at *
  simp only [hj] at *
  split
  · rename_i hw
    simp only [hw, if_true] at hh
    rcases hh with hh | hh
    · refine .inl ?_
      unfold Oper.wp at *
      rcases peeks_run (P := P) h a.eval w with ⟨v, hr⟩ | ⟨x, w', hr⟩
      · rw [hr] at hh ⊢
        exact ⟨rfl, hh⟩
      · rw [hr] at hh ⊢
        cases x <;> exact hh
    · exact .inr hh
  · rename_i hw
    simp only [hw] at hh
    exact ⟨trivial, hh⟩

theorem wpAny_here {i : Nat} {oi : Oper} {v : Value} (hi : ops[i]? = some oi) (hsel : ∀ (j : Nat) (o : Oper) cs b, ops[j]? = some o → o.op ≠ .select cs b)
    (hQ : ∀ c a w, Q (.panic c) (a.put oi.dst v) w → Q (.panic c) a w) :
    ∀ (fuel : Nat) (listed : Array Bool) (a : Act) (w : World),
      (∀ j oj, ops[j]? = some oj → j ≠ i → listed.getD j true = false → (∀ e ∈ oj.after, Region.binds md e = true → e.on ≠ i) → oi.apart ops oj = true ∧ peeks oj = true) →
      i ∈ Region.ready md ops listed → YieldsIf P ops (· = w) oi v a →
      wpAny P md ops Q fuel (listed.setIfInBounds i true) (a.put oi.dst v) w → wpAny P md ops Q (fuel + 1) listed a w := by
  intro fuel
  induction fuel with
  | zero =>
    intro listed a w _ hr hy H
    refine ⟨fun h => (by rw [h] at hr; cases hr), fun j hj => ?_⟩
    by_cases hji : j = i
    · subst hji; exact hy.wpOp hi rfl H
    · have := ready_mono hj hji
      rw [H.1] at this
      cases this
  | succ fuel ih =>
    intro listed a w hfree hr hy H
    refine ⟨fun h => (by rw [h] at hr; cases hr), fun j hj => ?_⟩
    by_cases hji : j = i
    · subst hji; exact hy.wpOp hi rfl H
    · obtain ⟨hun, oj, hoj, hall⟩ := mem_ready.1 hj
      have hno : ∀ e ∈ oj.after, Region.binds md e = true → e.on ≠ i := fun e he hb heq => by
        have h1 := hall e he hb
        have h0 := (mem_ready.1 hr).1
        rw [heq] at h1
        by_cases h' : i < listed.size
        · simp [h'] at h0 h1; rw [h0] at h1; cases h1
        · simp [Array.getElem?_eq_none (Nat.le_of_not_lt h')] at h1
      obtain ⟨hap, hpk⟩ := hfree j oj hoj hji hun hno
      have h2 := wpOp_peeks hoj hpk (wpOp_putIf hoj hap (fun cs b => hsel i oi cs b hi) (fun cs b => hsel j oj cs b hoj) hQ hy (H.2 j (ready_mono hj hji)))
      refine wpOp_mono (fun a' w' h3 => ?_) h2
      obtain ⟨rfl, hy', h4⟩ := h3
      refine ih (listed.setIfInBounds j true) a' w' (fun k ok hk hki hunk hnk => hfree k ok hk hki ?_ hnk) (ready_mono hr (Ne.symm hji)) hy' ?_
      · by_cases hjk : j = k
        · subst hjk; exact hun
        · rw [getD_set_ne true hjk] at hunk; exact hunk
      · rw [Array.setIfInBounds_comm _ _ hji]
        exact h4

/-- What does not wait for number i, and has not come up, is apart from it and only looks. -/
def hereB (md : Region.Mode) (ops : Array Oper) (listed : Array Bool) (i : Nat) : Bool :=
  match ops[i]? with
  | none => false
  | some oi => (List.range ops.size).all fun j => j == i || listed.getD j true || match ops[j]? with
      | some oj => oj.after.any (fun e => Region.binds md e && e.on == i) || (oi.apart ops oj && peeks oj)
      | none => true

/-- Number i, which looks at memory, is taken first. -/
theorem wpAny_look {i : Nat} {oi : Oper} {v : Value} {fuel : Nat} {listed : Array Bool} {a : Act} {w : World} (hi : ops[i]? = some oi)
    (hs : Region.noSelect ops = true) (hf : hereB md ops listed i = true) (hr : (Region.ready md ops listed).contains i = true)
    (hQ : ∀ c a w, Q (.panic c) (a.put oi.dst v) w → Q (.panic c) a w) (hw : Region.wanted oi (yielded ops a.tmps) = true) (hy : (execOp a.eval oi).run P w = .ok (.value v) w)
    (h : wpAny P md ops Q fuel (listed.setIfInBounds i true) (a.put oi.dst v) w) : wpAny P md ops Q (fuel + 1) listed a w := by
  refine wpAny_here hi (Region.noSelect_spec hs) hQ fuel listed a w (fun j oj hj hji hun hno => ?_) (by simpa using hr) (.inl ⟨hw, fun w' hw' => by subst hw'; exact hy⟩) h
  simp only [hereB, hi, List.all_eq_true, List.mem_range] at hf
  have h1 := hf j (Array.getElem?_eq_some_iff.1 hj).1
  simp only [hj, Bool.or_eq_true, beq_iff_eq, hji, false_or, hun, Bool.false_eq_true, Bool.and_eq_true] at h1
  rcases h1 with h1 | h1
  · obtain ⟨e, he, hb⟩ := Array.any_eq_true'.1 h1
    simp only [Bool.and_eq_true, beq_iff_eq] at hb
    exact absurd hb.2 (hno e he hb.1)
  · exact h1
end
end Go.Proofs.Ytolbffcbamfbeaa
