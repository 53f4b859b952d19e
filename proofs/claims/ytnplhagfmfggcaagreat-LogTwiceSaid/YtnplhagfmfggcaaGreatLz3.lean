/-
  Texts of this seat, one behind the other: LateHeld, LoOwn, Open, KdDeed, KdLieP, MiBoth, LoPure, LoNewest, LoRef, LoFound, LoLearn, MiChoose, MiUno, KdRotP, MiSee, MuSee, MiHeal.
-/
import Derived.OrdersHeld
import Derived.Deep.RegionHeld
import Derived.Deep.Slices
import Derived.OpenShut
import Derived.Test.YtnplhagfmfggcaaGreatProg
import Derived.Test.YtnplhagfmfggcaaGreatLz2
/-
  A region that draws its order, of which the last operations WRITE what the first ones read: the condition S on the world is wanted only as long as none of the late operations W has come up (a load that each of them waits for is taken first under it), the condition S0 always.
-/
namespace Go.Proofs.YtnplhagfmfggcaaGreat
section
variable {P : Program} {ops : Array Oper} {Q : Exit → Act → World → Prop} {md : Region.Mode} {S S0 : World → Prop} {W : List Nat}
/-- Has a late one come up? -/
def Late (W : List Nat) (l : Array Bool) : Prop := ∃ k ∈ W, l.getD k true = true
def wpAnyL (P : Program) (md : Region.Mode) (ops : Array Oper) (Q : Exit → Act → World → Prop) (S0 S : World → Prop) (W : List Nat) : Nat → Array Bool → Act → World → Prop
  | 0, listed, a, w => Region.ready md ops listed = [] ∧ Q .normal a w
  | fuel + 1, listed, a, w =>
    (Region.ready md ops listed = [] → Q .normal a w) ∧
    ∀ i ∈ Region.ready md ops listed, wpOp P ops Q i (fun a' w' => (S0 w' ∧ (Late W (listed.setIfInBounds i true) ∨ S w')) ∧ wpAnyL P md ops Q S0 S W fuel (listed.setIfInBounds i true) a' w') a w
theorem wpAny_of_late : ∀ (fuel : Nat) (listed : Array Bool) (a : Act) (w : World), wpAnyL P md ops Q S0 S W fuel listed a w → wpAny P md ops Q fuel listed a w
  | 0, _, _, _, h => h
  | fuel + 1, _, _, _, h => ⟨h.1, fun i hi => wpOp_mono (fun a' w' h' => wpAny_of_late fuel _ a' w' h'.2) (h.2 i hi)⟩
theorem wpAnyL_first {i : Nat} {oi : Oper} {v : Value} (hi : ops[i]? = some oi) (hsel : ∀ (j : Nat) (o : Oper) cs b, ops[j]? = some o → o.op ≠ .select cs b)
    (hQ : ∀ c a w, Q (.panic c) (a.put oi.dst v) w → Q (.panic c) a w) (hW : ∀ k ∈ W, ∃ o e, ops[k]? = some o ∧ e ∈ o.after ∧ Region.binds md e = true ∧ e.on = i) (hiW : i ∉ W) :
    ∀ (fuel : Nat) (listed : Array Bool) (a : Act) (w : World),
      (∀ j oj, ops[j]? = some oj → j ≠ i → listed.getD j true = false → (∀ e ∈ oj.after, Region.binds md e = true → e.on ≠ i) → oi.apart ops oj = true) →
      (∀ k ∈ W, listed.getD k true = false) →
      i ∈ Region.ready md ops listed → YieldsIf P ops (fun w => S0 w ∧ S w) oi v a → S0 w ∧ S w →
      wpAnyL P md ops Q S0 S W fuel (listed.setIfInBounds i true) (a.put oi.dst v) w → wpAnyL P md ops Q S0 S W (fuel + 1) listed a w := by
  intro fuel
  induction fuel with
  | zero =>
    intro listed a w _ _ hr hy hS H
    refine ⟨fun h => (by rw [h] at hr; cases hr), fun j hj => ?_⟩
    by_cases hji : j = i
    · subst hji; exact hy.wpOp hi hS ⟨⟨hS.1, .inr hS.2⟩, H⟩
    · have := ready_mono hj hji
      rw [H.1] at this
      cases this
  | succ fuel ih =>
    intro listed a w hfree hwl hr hy hS H
    refine ⟨fun h => (by rw [h] at hr; cases hr), fun j hj => ?_⟩
    by_cases hji : j = i
    · subst hji; exact hy.wpOp hi hS ⟨⟨hS.1, .inr hS.2⟩, H⟩
    · have h1 := H.2 j (ready_mono hj hji)
      obtain ⟨hjun, oj, hoj, hall⟩ := mem_ready.1 hj
      have hnot : ∀ e ∈ oj.after, Region.binds md e = true → e.on ≠ i := fun e he hb heq => by
        have h1 := hall e he hb
        have h0 := (mem_ready.1 hr).1
        rw [heq] at h1
        rcases Nat.lt_or_ge i listed.size with h' | h'
        · simp [h'] at h0 h1; rw [h0] at h1; cases h1
        · simp [Array.getElem?_eq_none h'] at h1
      have hjW : j ∉ W := fun hm => by
        obtain ⟨o, e, ho, he, hb, hon⟩ := hW j hm
        rw [hoj] at ho; injection ho with ho; subst ho
        exact hnot e he hb hon
      have hwl' : ∀ k ∈ W, (listed.setIfInBounds j true).getD k true = false := fun k hk => by
        have hjk : j ≠ k := fun e => hjW (e ▸ hk)
        rw [getD_set_ne true hjk]; exact hwl k hk
      have hnl : ∀ w', (S0 w' ∧ (Late W ((listed.setIfInBounds i true).setIfInBounds j true) ∨ S w')) → S0 w' ∧ S w' := fun w' h => ⟨h.1, h.2.elim (fun ⟨k, hk, h2⟩ => by
        have hjk : j ≠ k := fun e => hjW (e ▸ hk)
        have hik : i ≠ k := fun e => hiW (e ▸ hk)
        rw [getD_set_ne true hjk, getD_set_ne true hik, hwl k hk] at h2; cases h2) id⟩
      have h2 := wpOp_putIf hoj (hfree j oj hoj hji hjun hnot) (fun cs b => hsel i oi cs b hi) (fun cs b => hsel j oj cs b hoj) hQ hy h1
      have hfree' : ∀ k ok, ops[k]? = some ok → k ≠ i → (listed.setIfInBounds j true).getD k true = false →
          (∀ e ∈ ok.after, Region.binds md e = true → e.on ≠ i) → oi.apart ops ok = true := fun k ok hk hki hun hno => by
        refine hfree k ok hk hki ?_ hno
        by_cases hjk : j = k
        · subst hjk; exact hjun
        · rw [getD_set_ne true hjk] at hun; exact hun
      refine wpOp_mono (fun a' w' h3 => ⟨⟨h3.2.1.1, .inr (hnl w' h3.2.1).2⟩, ih (listed.setIfInBounds j true) a' w' hfree' hwl' (ready_mono hr (Ne.symm hji)) h3.1 (hnl w' h3.2.1) ?_⟩) h2
      rw [Array.setIfInBounds_comm _ _ hji]
      exact h3.2.2
theorem wpAnyL_first0 {i : Nat} {oi : Oper} {v : Value} (hi : ops[i]? = some oi) (hsel : ∀ (j : Nat) (o : Oper) cs b, ops[j]? = some o → o.op ≠ .select cs b)
    (hQ : ∀ c a w, Q (.panic c) (a.put oi.dst v) w → Q (.panic c) a w) (hiW : i ∉ W) :
    ∀ (fuel : Nat) (listed : Array Bool) (a : Act) (w : World),
      (∀ j oj, ops[j]? = some oj → j ≠ i → listed.getD j true = false → (∀ e ∈ oj.after, Region.binds md e = true → e.on ≠ i) → oi.apart ops oj = true) →
      i ∈ Region.ready md ops listed → YieldsIf P ops S0 oi v a → S0 w → (Late W listed ∨ S w) →
      wpAnyL P md ops Q S0 S W fuel (listed.setIfInBounds i true) (a.put oi.dst v) w → wpAnyL P md ops Q S0 S W (fuel + 1) listed a w := by
  have hlate : ∀ {listed : Array Bool} {w : World}, i ∈ Region.ready md ops listed → (Late W listed ∨ S w) → (Late W (listed.setIfInBounds i true) ∨ S w) := fun {listed w} hr h => h.imp (fun ⟨k, hk, h2⟩ => ⟨k, hk, by
    by_cases hik : i = k
    · subst hik; have h0 := (mem_ready.1 hr).1; rw [h2] at h0; cases h0
    · rw [getD_set_ne true hik]; exact h2⟩) id
  have hback : ∀ {listed : Array Bool} {w : World} {j : Nat}, j ≠ i → (Late W ((listed.setIfInBounds i true).setIfInBounds j true) ∨ S w) → (Late W (listed.setIfInBounds j true) ∨ S w) := fun {listed w j} hji h => h.imp (fun ⟨k, hk, h2⟩ => by
    by_cases hik : i = k
    · exact absurd (hik ▸ hk) hiW
    · exact ⟨k, hk, by rw [Array.setIfInBounds_comm _ _ (Ne.symm hji), getD_set_ne true hik] at h2; exact h2⟩) id
  intro fuel
  induction fuel with
  | zero =>
    intro listed a w _ hr hy hS hSS H
    refine ⟨fun h => (by rw [h] at hr; cases hr), fun j hj => ?_⟩
    by_cases hji : j = i
    · subst hji; exact hy.wpOp hi hS ⟨⟨hS, hlate hr hSS⟩, H⟩
    · have := ready_mono hj hji
      rw [H.1] at this
      cases this
  | succ fuel ih =>
    intro listed a w hfree hr hy hS hSS H
    refine ⟨fun h => (by rw [h] at hr; cases hr), fun j hj => ?_⟩
    by_cases hji : j = i
    · subst hji; exact hy.wpOp hi hS ⟨⟨hS, hlate hr hSS⟩, H⟩
    · have h1 := H.2 j (ready_mono hj hji)
      obtain ⟨hjun, oj, hoj, hall⟩ := mem_ready.1 hj
      have hnot : ∀ e ∈ oj.after, Region.binds md e = true → e.on ≠ i := fun e he hb heq => by
        have h1 := hall e he hb
        have h0 := (mem_ready.1 hr).1
        rw [heq] at h1
        rcases Nat.lt_or_ge i listed.size with h' | h'
        · simp [h'] at h0 h1; rw [h0] at h1; cases h1
        · simp [Array.getElem?_eq_none h'] at h1
      have h2 := wpOp_putIf hoj (hfree j oj hoj hji hjun hnot) (fun cs b => hsel i oi cs b hi) (fun cs b => hsel j oj cs b hoj) hQ hy h1
      have hfree' : ∀ k ok, ops[k]? = some ok → k ≠ i → (listed.setIfInBounds j true).getD k true = false →
          (∀ e ∈ ok.after, Region.binds md e = true → e.on ≠ i) → oi.apart ops ok = true := fun k ok hk hki hun hno => by
        refine hfree k ok hk hki ?_ hno
        by_cases hjk : j = k
        · subst hjk; exact hjun
        · rw [getD_set_ne true hjk] at hun; exact hun
      refine wpOp_mono (fun a' w' h3 => ⟨⟨h3.2.1.1, hback hji h3.2.1.2⟩, ih (listed.setIfInBounds j true) a' w' hfree' (ready_mono hr (Ne.symm hji)) h3.1 h3.2.1.1 (hback hji h3.2.1.2) ?_⟩) h2
      rw [Array.setIfInBounds_comm _ _ hji]
      exact h3.2.2
/-- Do all of W wait for i? -/
def lateOf (md : Region.Mode) (ops : Array Oper) (W : List Nat) (i : Nat) : Bool := W.all fun k => match ops[k]? with
  | some o => o.after.any fun e => Region.binds md e && e.on == i
  | none => false
theorem lateOf_spec {i : Nat} (h : lateOf md ops W i = true) : ∀ k ∈ W, ∃ o e, ops[k]? = some o ∧ e ∈ o.after ∧ Region.binds md e = true ∧ e.on = i := fun k hk => by
  have h1 := List.all_eq_true.1 h k hk
  cases ho : ops[k]? with
  | none => simp [ho] at h1
  | some o =>
    simp only [ho] at h1
    obtain ⟨e, he, h2⟩ := Array.any_eq_true'.1 h1
    simp only [Bool.and_eq_true, beq_iff_eq] at h2
    exact ⟨o, e, rfl, he, h2.1, h2.2⟩
theorem wpAnyL_take {i : Nat} {oi : Oper} {v : Value} {fuel : Nat} {listed : Array Bool} {a : Act} {w : World} (hi : ops[i]? = some oi)
    (hs : Region.noSelect ops = true) (hf : Region.free md ops listed i = true) (hr : (Region.ready md ops listed).contains i = true)
    (hQ : ∀ c a w, Q (.panic c) (a.put oi.dst v) w → Q (.panic c) a w) (hW : lateOf md ops W i = true) (hiW : W.contains i = false) (hwl : (W.all fun k => listed.getD k true == false) = true) (hy : YieldsIf P ops (fun w => S0 w ∧ S w) oi v a) (hS : S0 w ∧ S w)
    (h : wpAnyL P md ops Q S0 S W fuel (listed.setIfInBounds i true) (a.put oi.dst v) w) : wpAnyL P md ops Q S0 S W (fuel + 1) listed a w :=
  wpAnyL_first hi (Region.noSelect_spec hs) hQ (lateOf_spec hW) (by simpa using hiW) fuel listed a w (Region.free_spec hi hf) (fun k hk => by simpa using List.all_eq_true.1 hwl k hk) (by simpa using hr) hy hS h
theorem wpAnyL_take0 {i : Nat} {oi : Oper} {v : Value} {fuel : Nat} {listed : Array Bool} {a : Act} {w : World} (hi : ops[i]? = some oi)
    (hs : Region.noSelect ops = true) (hf : Region.free md ops listed i = true) (hr : (Region.ready md ops listed).contains i = true)
    (hQ : ∀ c a w, Q (.panic c) (a.put oi.dst v) w → Q (.panic c) a w) (hiW : W.contains i = false) (hy : YieldsIf P ops S0 oi v a) (hS : S0 w) (hSS : Late W listed ∨ S w)
    (h : wpAnyL P md ops Q S0 S W fuel (listed.setIfInBounds i true) (a.put oi.dst v) w) : wpAnyL P md ops Q S0 S W (fuel + 1) listed a w :=
  wpAnyL_first0 hi (Region.noSelect_spec hs) hQ (by simpa using hiW) fuel listed a w (Region.free_spec hi hf) (by simpa using hr) hy hS hSS h
/-- Behind the last load no S is wanted. -/
def AllReadyL (P : Program) (md : Region.Mode) (ops : Array Oper) (Q : Exit → Act → World → Prop) (S0 S : World → Prop) (W : List Nat) (fuel : Nat) (listed : Array Bool) (a : Act) (w : World) (rs : List Nat) : Prop :=
  ∀ i ∈ rs, wpOp P ops Q i (fun a' w' => (S0 w' ∧ (Late W (listed.setIfInBounds i true) ∨ S w')) ∧ wpAnyL P md ops Q S0 S W fuel (listed.setIfInBounds i true) a' w') a w
theorem AllReadyL.nil {fuel : Nat} {listed : Array Bool} {a : Act} {w : World} : AllReadyL P md ops Q S0 S W fuel listed a w [] := fun _ h => by cases h
theorem AllReadyL.cons {fuel : Nat} {listed : Array Bool} {a : Act} {w : World} {i : Nat} {o : Oper} {rs : List Nat} (ho : ops[i]? = some o)
    (h : ∀ K' : Act → World → Prop, Shut (∀ a w, (S0 w ∧ (Late W (listed.setIfInBounds i true) ∨ S w)) → wpAnyL P md ops Q S0 S W fuel (listed.setIfInBounds i true) a w → K' a w) → if Region.wanted o (yielded ops a.tmps) = true then Oper.wp P o a w K' Q else K' (a.put o.dst undef) w)
    (hs : AllReadyL P md ops Q S0 S W fuel listed a w rs) : AllReadyL P md ops Q S0 S W fuel listed a w (i :: rs) := fun j hj => by
  rcases List.mem_cons.1 hj with rfl | hj
  · exact wpOp_step ho (fun K' hK => h K' (fun a w hS hW => hK a w ⟨hS, hW⟩))
  · exact hs j hj
theorem wpAnyL_ready {rs : List Nat} {fuel : Nat} {listed : Array Bool} {a : Act} {w : World} (hr : Region.ready md ops listed = rs) (hne : rs ≠ [])
    (h : AllReadyL P md ops Q S0 S W fuel listed a w rs) : wpAnyL P md ops Q S0 S W (fuel + 1) listed a w := ⟨fun h0 => absurd (hr ▸ h0) hne, hr ▸ h⟩
theorem wpAnyL_done {listed : Array Bool} {a : Act} {w : World} (hr : Region.ready md ops listed = []) (h : Q .normal a w) :
    ∀ fuel, wpAnyL P md ops Q S0 S W fuel listed a w
  | 0 => ⟨hr, h⟩
  | _ + 1 => ⟨fun _ => h, by rw [hr]; simp⟩
theorem wp_region_late {id : Nat} {a : Act} {w : World} (hm : P.follows .mixedOrders = true)
    (h : wpAnyL P .any ops Q S0 S W ops.size (Array.replicate ops.size false) a w.drew) : (Code.region id ops true).wp P Q a w :=
  wp_region_any hm (wpAny_of_late _ _ _ _ h)
end
end Go.Proofs.YtnplhagfmfggcaaGreat
/-
  A log, and the mirror that it has, as they are laid: what Free, Flush, Append and Read tell, and make of it.
-/
namespace Go.Proofs.YtnplhagfmfggcaaGreat.Lo
open Go.RowKit Go.Maps Kd Mi Sx Sg
open Go.ChangeMaps (setBlock heap_setBlock_same heap_setBlock_other)
attribute [local go_sem ↓] Go.wp_at_zero Go.wp_at_succ
theorem but_grown {w w' : World} {b : Nat} (hg : w.grownBy w' (some b)) : But (fun k => k = b) w w' := (But.refl w).grown hg (fun _ hk => .inl (Option.some.inj hk).symm)
/-- A log's own memory, as it is laid. -/
def OwnR (g q : Nat) (ci : SCiph) : Laid where
  St := Rl
  At w r F := ∃ bm, RlO g q bm ci w r ∧ F q ∧ F bm ∧ ∀ k, F k → k < w.heap.size
  but := fun ⟨bm, h, h1, h2, h3⟩ hb hd => ⟨bm, h.but hb (hd q h1) (hd bm h2), h1, h2, fun k hk => Nat.lt_of_lt_of_le (h3 k hk) hb.size⟩
  lt := fun ⟨_, _, _, _, h3⟩ => h3
/-- A log, and the mirror that it has, as they are laid. -/
def LogR (C : Duo) (G : Gd) (g q : Nat) (ci : SCiph) : Laid where
  St := Mr C × Rl
  At w x F := ∃ F1 F2, (ML C G g).At w x.1 F1 ∧ (OwnR g q ci).At w x.2 F2 ∧ (∀ k, F1 k → F2 k → False) ∧ (∀ k, F k ↔ F1 k ∨ F2 k)
  but := fun ⟨F1, F2, h1, h2, hd, hF⟩ hb hT => ⟨F1, F2, (ML C G g).but h1 hb (fun k hk => hT k ((hF k).2 (.inl hk))), (OwnR g q ci).but h2 hb (fun k hk => hT k ((hF k).2 (.inr hk))), hd, hF⟩
  lt := fun ⟨_, _, h1, h2, _, hF⟩ k hk => ((hF k).1 hk).elim ((ML C G g).lt h1 k) ((OwnR g q ci).lt h2 k)
section
variable {C : Duo} {G : Gd} {g q bm : Nat} {ci : SCiph} {w w' w5 w8 : World} {s s' : Mr C} {r r' : Rl} {F1 F2 F5 F T : Nat → Prop}
/-- The mirror went on, the log's own memory then. -/
theorem fin_own (h2 : F2 q ∧ F2 bm ∧ (∀ k, F2 k → k < w.heap.size) ∧ (∀ k, F1 k → F2 k → False) ∧ (∀ k, F k ↔ F1 k ∨ F2 k)) (M : Mv (ML C G g) w F1 w5 s' F5) (ho : RlO g q bm ci w8 r') (hb : But (fun k => k = q ∨ k = bm) w5 w8) :
    Mv (LogR C G g q ci) w F w8 (s', r') (fun k => F5 k ∨ F2 k) := by
  obtain ⟨hq, hbm, h3, hd, hF⟩ := h2
  have hd5 : ∀ k, F5 k → F2 k → False := fun k h5 h2 => (M.new k h5).elim (fun h => hd k h h2) (fun h => by have := h3 k h2; omega)
  refine ⟨⟨F5, F2, (ML C G g).but M.at_ hb (fun k hk hT => hT.elim (fun e => hd5 k hk (e ▸ hq)) (fun e => hd5 k hk (e ▸ hbm))), ⟨bm, ho, hq, hbm, fun k hk => Nat.lt_of_lt_of_le (h3 k hk) (Nat.le_trans M.but.size hb.size)⟩, hd5, fun k => Iff.rfl⟩, ?_, ?_⟩
  · rintro k (hk | hk)
    · exact (M.new k hk).imp (fun h => (hF k).2 (.inl h)) id
    · exact .inl ((hF k).2 (.inr hk))
  · exact Mi.but_step (M.but.mono (fun k hk => (hF k).2 (.inl hk))) hb (fun k hk => .inl ((hF k).2 (.inr (hk.elim (fun e => e ▸ hq) (fun e => e ▸ hbm)))))
/-- What is done to the mirror, or its devices, alone. -/
theorem logr_ml (h : (LogR C G g q ci).At w (s, r) F) : ∃ F1, (ML C G g).At w s F1 ∧ (∀ k, F1 k → F k) ∧ ∀ {v : Value} {e : Ending}, RetA (ML C G g) v s' F1 w e w' → RetA (LogR C G g q ci) v (s', r) F w e w' := by
  obtain ⟨F1, F2, h1, ⟨bm, ho, hq, hbm, h3⟩, hd, hF⟩ := h
  refine ⟨F1, h1, fun k hk => (hF k).2 (.inl hk), ?_⟩
  rintro v e ⟨rfl, F', hm⟩
  exact ⟨rfl, _, fin_own ⟨hq, hbm, h3, hd, hF⟩ hm (ho.but hm.but (fun h => hd q h hq) (fun h => hd bm h hbm)) (But.refl _)⟩
theorem logr_own (h : (LogR C G g q ci).At w (s, r) F) : ∃ bm, RlO g q bm ci w r := by
  obtain ⟨_, _, _, ⟨bm, ho, _⟩, _, _⟩ := h
  exact ⟨bm, ho⟩
/-! ### Free -/
def Rl.freeE (r : Rl) (z : Int) : Int := if z < 0 ∨ (r.segs : Int) ≤ z then 2 else if usedG r.gens z = false then 7 else if z = r.seg then 12 else 0
def Rl.free (r : Rl) (k : Nat) : Rl := { r with gens := r.gens.set k none }
theorem Rl.Ok.free (h : r.Ok) (k : Nat) : (r.free k).Ok :=
  ⟨h.shape, by rw [Rl.free, List.length_set]; exact h.gn, h.seg, h.slot, h.known, fun j x hx => by
    by_cases hj : j = k
    · subst hj
      by_cases hl : j < r.gens.length
      · rw [show (r.free j).gens = r.gens.set j none from rfl, getD_set_eq _ hl] at hx; cases hx
      · rw [show (r.free j).gens = r.gens.set j none from rfl, List.getD_eq_getElem?_getD, List.getElem?_eq_none (by rw [List.length_set]; omega)] at hx; cases hx
    · rw [show (r.free k).gens = r.gens.set k none from rfl, getD_set_ne _ hj] at hx; exact h.lt j x hx⟩
set_option maxRecDepth 100000 in
set_option maxHeartbeats 1600000 in
theorem free_own (ho : RlO g q bm ci w r) {z : Int} (z1 : -9223372036854775808 ≤ z) (z2 : z ≤ 9223372036854775807) :
    Calls Tryz.prog 24 #[.pointer (some ⟨q, 0, none⟩), .int .i64 z] w (fun e w' => e = .returned (.int .i64 (r.freeE z)) ∧ RlO g q bm ci w' (if r.freeE z = 0 then r.free z.toNat else r) ∧ But (fun k => k = q ∨ k = bm) w w') := by
  have H := Lib.hid ho
  have c2 : w.cell? ⟨q, 2, none⟩ = some (.int .i64 (r.segs : Int)) := ho.blk.cell 2
  have HZ := Lib.hid (And.intro z1 z2)
  have hs := ho.ok.small
  have hu := used_any ho z1 z2
  obtain ⟨u, hu0⟩ : ∃ u, u = usedG r.gens z := ⟨_, rfl⟩
  rw [← hu0] at hu
  have HU := Lib.hid hu
  have HU0 := Lib.hid hu0
  obtain ⟨E, hE⟩ : ∃ E, E = r.freeE z := ⟨_, rfl⟩
  have HE := Lib.hid (show E = if z < 0 ∨ (r.segs : Int) ≤ z then 2 else if u = false then 7 else if z = r.seg then 12 else 0 by rw [hE, hu0]; rfl)
  rw [← hE]
  clear hE hu hu0 ho z1 z2
  have same : ∀ E : Int, E ≠ 0 → ∀ {w4 : World}, Below w.heap.size w w4 → RlO g q bm ci w4 (if E = 0 then r.free z.toNat else r) ∧ But (fun k => k = q ∨ k = bm) w w4 := fun E hE w4 hb => ⟨by rw [if_neg hE]; exact H.out.below hb, but_below hb⟩
  have SM := Lib.hid same
  clear same
  by_cases h0 : z < 0
  · have d0 : decide (z < 0) = true := decide_eq_true h0
    rw [HE.out, if_pos (.inl h0)]
    clear h0 HE
    go_enter Tryz.func24, Tryz.ntmps24
    go_wp2_with fail
    go_ret
    exact ⟨rfl, SM.out 2 (by omega) (Below.refl _ _)⟩
  · have d0 : decide (z < 0) = false := decide_eq_false h0
    by_cases h1 : (r.segs : Int) ≤ z
    · have d1 : decide (z ≥ (r.segs : Int)) = true := decide_eq_true h1
      have d2 : decide ((r.segs : Int) ≤ z) = true := decide_eq_true h1
      rw [HE.out, if_pos (.inr h1)]
      clear h0 h1 HE
      go_enter Tryz.func24, Tryz.ntmps24
      go_wp2_with fail
      go_ret
      exact ⟨rfl, SM.out 2 (by omega) (Below.refl _ _)⟩
    · have d1 : decide (z ≥ (r.segs : Int)) = false := decide_eq_false h1
      have d2 : decide ((r.segs : Int) ≤ z) = false := decide_eq_false h1
      have HZ0 := Lib.hid (show 0 ≤ z ∧ z < (r.segs : Int) by omega)
      rw [HE.out, if_neg (by omega)]
      clear h0 h1 HE
      cases u with
      | false =>
        rw [if_pos rfl]
        go_enter Tryz.func24, Tryz.ntmps24
        go_wp2_with fail
        refine HU.out.mono ?_
        rintro e w2 ⟨rfl, bw⟩
        have BW := Lib.hid bw
        clear bw
        go_wp2_with fail
        go_ret
        exact ⟨rfl, SM.out 7 (by omega) BW.out⟩
      | true =>
        rw [if_neg (by simp)]
        have c6h : ∀ W, Below w.heap.size w W → W.cell? ⟨q, 6, none⟩ = some (.int .i64 r.seg) := fun W hb => (H.out.below hb).blk.cell 6
        have C6 := Lib.hid c6h
        clear c6h
        by_cases h2 : z = r.seg
        · have e2 : (z == r.seg) = true := by rw [h2]; exact beq_self_eq_true _
          rw [if_pos h2]
          clear h2
          go_enter Tryz.func24, Tryz.ntmps24
          go_wp2_with fail
          refine HU.out.mono ?_
          rintro e w2 ⟨rfl, bw⟩
          have BW := Lib.hid bw
          clear bw
          have c6 := C6.out _ BW.out
          go_wp2_with fail
          go_ret
          exact ⟨rfl, SM.out 12 (by omega) BW.out⟩
        · have e2 : (z == r.seg) = false := beq_eq_false_iff_ne.2 h2
          rw [if_neg h2]
          clear h2
          go_enter Tryz.func24, Tryz.ntmps24
          go_wp2_with fail
          refine HU.out.mono ?_
          rintro e w2 ⟨rfl, bw⟩
          have BW := Lib.hid bw
          have H2 := Lib.hid (H.out.below bw)
          clear bw
          have c6 := C6.out _ BW.out
          have c4 : w2.cell? ⟨q, 4, none⟩ = some (.map (some bm)) := H2.out.blk.cell 4
          obtain ⟨D, hD, hg⟩ := H2.out.map
          have HD := Lib.hid hD
          have HG := Lib.hid hg
          clear hD hg
          go_wp2_with (at_delete; refine wpList_delete_own _ rfl _ _ 104 3 rfl 50 lawI Tryz.underlying104 _ bm 4096 D rfl HD.out _ _ rfl (keyI HZ.out.1 HZ.out.2) ?_; intro w4 hown4 hturn4)
          have HB := Lib.hid (show But (fun k => k = q ∨ k = bm) w2 w4 from (but_grown hturn4.grown).mono (fun _ h => .inr h))
          have HO4 := Lib.hid hown4
          have HGR := Lib.hid hturn4.grown
          clear hown4 hturn4
          go_wp2_with fail
          go_ret
          obtain ⟨k, rfl⟩ := Int.eq_ofNat_of_zero_le HZ0.out.1
          have hk : k < r.gens.length := by have := HZ0.out.2; rw [H2.out.ok.gn]; omega
          refine ⟨rfl, ?_, Mi.but_step (but_below BW.out) HB.out (fun _ h => .inl h)⟩
          rw [Int.toNat_natCast]
          have hne := H2.out.ne
          exact ⟨H2.out.blk.but (but_grown HGR.out) hne, ⟨_, gmap_room HO4.out (HG.out.del hk) (by rw [List.length_set, H2.out.ok.gn]; have := H2.out.ok.small; omega), HG.out.del hk⟩, hne, H2.out.ok.free k⟩
theorem blk_setBlock {w : World} {q b : Nat} {cs : Array Value} {t : TypeId} (h : Blk w q cs t) (hb : ∃ a c, w.heap[b]? = some (.map a c)) (hne : q ≠ b) (o : Obj) : Blk (setBlock w b o) q cs t := by
  obtain ⟨a, c, hb⟩ := hb
  exact (heap_setBlock_other hb o hne).trans h
theorem but_setBlock {w : World} {b : Nat} (hb : ∃ a c, w.heap[b]? = some (.map a c)) (o : Obj) : But (fun k => k = b) w (setBlock w b o) := by
  obtain ⟨a, c, hb⟩ := hb
  exact but_grown ⟨rfl, rfl, rfl, by simp [setBlock], fun i _ hi => heap_setBlock_other hb _ (fun e => hi (by rw [e]))⟩
/-! ### Append -/
def Rl.put (r : Rl) (sg sl : Int) (gn : Nat) : Rl := ⟨r.segs, r.size, r.gens.set sg.toNat (some gn), max r.known gn, sg, sl + 1⟩
/-- The sector of the next body. -/
def Rl.at_ (r : Rl) (sg sl : Int) : Int := 2 + sg * (r.size : Int) + sl
theorem Rl.Ok.gen (h : r.Ok) (z : Int) : genG r.gens z < 18446744073709551616 := by
  unfold genG
  split
  · cases hx : r.gens.getD z.toNat none with
    | none => show 0 < _; omega
    | some x => exact h.lt _ _ hx
  · omega
theorem next_in (h : r.Ok) (hk : r.known < 18446744073709551615) {sg sl : Int} {gn : Nat} (hn : r.next = (sg, sl, gn, true)) : inS (r.segs : Int) (r.size : Int) sg sl ∧ gn < 18446744073709551616 := by
  have hs := h.small
  have hg := h.seg
  have hsl := h.slot
  unfold Rl.next at hn
  split at hn
  · rename_i hl
    simp only [Prod.mk.injEq] at hn
    obtain ⟨rfl, rfl, rfl, _⟩ := hn
    unfold Rl.left at hl
    split at hl
    · omega
    · exact ⟨⟨h.shape, by omega⟩, h.gen _⟩
  · split at hn
    · rename_i k hf
      simp only [Prod.mk.injEq] at hn
      obtain ⟨rfl, rfl, rfl, _⟩ := hn
      have hk2 := (freeG_lt hf).1
      rw [h.gn] at hk2
      exact ⟨⟨h.shape, by omega⟩, by omega⟩
    · simp only [Prod.mk.injEq] at hn
      exact absurd hn.2.2.2 (by simp)
theorem Rl.Ok.put (h : r.Ok) {sg sl : Int} {gn : Nat} (hi : inS (r.segs : Int) (r.size : Int) sg sl) (hg : gn < 18446744073709551616) : (r.put sg sl gn).Ok := by
  have hi2 := hi.2
  refine ⟨h.shape, by rw [Rl.put, List.length_set]; exact h.gn, by show -1 ≤ sg ∧ sg < (r.segs : Int); omega, by show 0 ≤ sl + 1 ∧ sl + 1 ≤ (r.size : Int); omega, ?_, fun j x hx => ?_⟩
  · have := h.known
    show max r.known gn < _
    omega
  · by_cases hj : j = sg.toNat
    · subst hj
      rw [show (r.put sg sl gn).gens = r.gens.set sg.toNat (some gn) from rfl, getD_set_eq _ (by rw [h.gn]; omega)] at hx
      injection hx with hx
      omega
    · rw [show (r.put sg sl gn).gens = r.gens.set sg.toNat (some gn) from rfl, getD_set_ne _ hj] at hx; exact h.lt j x hx
/-- What Append tells, and makes of it. -/
def apR (ci : SCiph) (s : Mr C) (r : Rl) (b : List UInt8) : (Int × Int) × Mr C × Rl :=
  if 103 < b.length then ((0, 3), s, r) else if r.next.2.2.2 = false then ((0, 6), s, r) else
    if (s.write (r.at_ r.next.1 r.next.2.1) (sealedS ci.f (r.at_ r.next.1 r.next.2.1) r.next.2.2.1 b)).1 = 0 then
      ((r.at_ r.next.1 r.next.2.1, 0), (s.write (r.at_ r.next.1 r.next.2.1) (sealedS ci.f (r.at_ r.next.1 r.next.2.1) r.next.2.2.1 b)).2, r.put r.next.1 r.next.2.1 r.next.2.2.1)
    else ((0, (s.write (r.at_ r.next.1 r.next.2.1) (sealedS ci.f (r.at_ r.next.1 r.next.2.1) r.next.2.2.1 b)).1), (s.write (r.at_ r.next.1 r.next.2.1) (sealedS ci.f (r.at_ r.next.1 r.next.2.1) r.next.2.2.1 b)).2, r)
theorem wp_run {P : Program} {o : Oper} {a : Act} {w w' : World} {K : Act → World → Prop} {Q : Exit → Act → World → Prop} {v : Value} (h : (execOp a.eval o).run P w = .ok (.value v) w') (hk : K (a.put o.dst v) w') : o.wp P a w K Q := by
  unfold Oper.wp
  rw [h]
  exact hk
theorem wp_skip {P : Program} {o : Oper} {a : Act} {w w' : World} {K : Act → World → Prop} {Q : Exit → Act → World → Prop} (h : (execOp a.eval o).run P w = .ok .skip w') (hk : K (a.put o.dst undef) w') : o.wp P a w K Q := by
  unfold Oper.wp
  rw [h]
  exact hk
section
variable {k : Nat} {A : Option Addr} {n c : Nat} {b : List UInt8}
set_option maxRecDepth 100000 in
set_option maxHeartbeats 1600000 in
theorem append_long (h : (LogR C G g q ci).At w (s, r) F) (hb : 103 < n) : Calls Tryz.prog 17 #[.pointer (some ⟨q, 0, none⟩), .slice A n c] w (RetA (LogR C G g q ci) (.tuple #[.int .i64 0, .int .i64 3]) (s, r) F w) := by
  have d1 : decide ((n : Int) > 103) = true := decide_eq_true (by omega)
  have d2 : decide (103 < (n : Int)) = true := decide_eq_true (by omega)
  have H := Lib.hid h
  clear h hb
  go_enter Tryz.func17, Tryz.ntmps17
  go_wp2_with fail
  exact bodyPost_ret (results_tmp2 Tryz.results17 _ _ _) rfl ⟨rfl, F, Mv.start H.out⟩
set_option maxRecDepth 100000 in
set_option maxHeartbeats 1600000 in
theorem append_full (h : (LogR C G g q ci).At w (s, r) F) (hb : n ≤ 103) (hk : r.known < 18446744073709551615) (hn : r.next.2.2.2 = false) : Calls Tryz.prog 17 #[.pointer (some ⟨q, 0, none⟩), .slice A n c] w (RetA (LogR C G g q ci) (.tuple #[.int .i64 0, .int .i64 6]) (s, r) F w) := by
  have d1 : decide ((n : Int) > 103) = false := decide_eq_false (by omega)
  have d2 : decide (103 < (n : Int)) = false := decide_eq_false (by omega)
  obtain ⟨bm, ho⟩ := logr_own h
  have hc := next_any ho hk
  obtain ⟨x1, h1⟩ : ∃ x, x = r.next.1 := ⟨_, rfl⟩
  obtain ⟨x2, h2⟩ : ∃ x, x = r.next.2.1 := ⟨_, rfl⟩
  obtain ⟨x3, h3⟩ : ∃ x, x = r.next.2.2.1 := ⟨_, rfl⟩
  unfold fourV at hc
  rw [← h1, ← h2, ← h3, hn] at hc
  have H := Lib.hid h
  have HC := Lib.hid hc
  clear h hb ho hk hn hc h1 h2 h3
  go_enter Tryz.func17, Tryz.ntmps17
  go_wp2_with fail
  refine HC.out.mono ?_
  rintro e w1 ⟨rfl, bw⟩
  have BW := Lib.hid bw
  clear bw
  go_wp2_with fail
  exact bodyPost_ret (results_tmp2 Tryz.results17 _ _ _) rfl ⟨rfl, F, (Mv.start H.out).below BW.out⟩
set_option maxRecDepth 100000 in
set_option maxHeartbeats 6400000 in
theorem append_raw (h : (LogR C G g q ci).At w (s, r) F) (hk : s.ok k) (hm : C.most s.d < 900000) (hkn : r.known < 18446744073709551615) (hb : b.length = n) (hr : Rd w.heap.size w A (bv b)) :
    Calls Tryz.prog 17 #[.pointer (some ⟨q, 0, none⟩), .slice A n c] w (RetA (LogR C G g q ci) (.tuple #[.int .i64 (apR ci s r b).1.1, .int .i64 (apR ci s r b).1.2]) (apR ci s r b).2 F w) := by
  by_cases hl : 103 < b.length
  · rw [apR, if_pos hl]; exact append_long h (by omega)
  by_cases hnx : r.next.2.2.2 = false
  · rw [apR, if_neg hl, if_pos hnx]; exact append_full h (by omega) hkn hnx
  have hnx' : r.next.2.2.2 = true := by cases hx : r.next.2.2.2; exact absurd hx hnx; rfl
  have d1 : decide ((n : Int) > 103) = false := decide_eq_false (by omega)
  have d2 : decide (103 < (n : Int)) = false := decide_eq_false (by omega)
  obtain ⟨RV, hRV⟩ : ∃ RV, RV = apR ci s r b := ⟨_, rfl⟩
  rw [← hRV]
  rw [apR, if_neg hl, if_neg hnx] at hRV
  obtain ⟨F1, F2, hm1, ⟨bm, ho, hq, hbm, h3⟩, hd, hF⟩ := h
  have ho : RlO g q bm ci w r := ho
  have hm1 : (ML C G g).At w s F1 := hm1
  have hc := next_any ho hkn
  obtain ⟨sg, h1⟩ : ∃ x, x = r.next.1 := ⟨_, rfl⟩
  obtain ⟨sl, h2⟩ : ∃ x, x = r.next.2.1 := ⟨_, rfl⟩
  obtain ⟨gn, h4⟩ : ∃ x, x = r.next.2.2.1 := ⟨_, rfl⟩
  unfold fourV at hc
  rw [← h1, ← h2, ← h4, hnx'] at hc
  rw [← h1, ← h2, ← h4] at hRV
  have hin := next_in ho.ok hkn (sg := sg) (sl := sl) (gn := gn) (by rw [h1, h2, h4, ← hnx'])
  clear h1 h2 h4 hnx hnx'
  obtain ⟨⟨i1, i2⟩, i3, i4⟩ := hin.1.2
  have hsm := ho.ok.small
  have him := in_mul hin.1
  obtain ⟨at_, hat⟩ : ∃ a, a = r.at_ sg sl := ⟨_, rfl⟩
  have hat2 : at_ = 2 + sg * (r.size : Int) + sl := hat
  have hat3 : 0 ≤ at_ ∧ at_ < 4096 := by
    have j3 : (0 : Int) ≤ sl := i3
    have j4 : sl < (r.size : Int) := i4
    have j5 := him.1
    have j6 := him.2.1
    have j7 := him.2.2.2
    rw [hat2]; omega
  rw [← hat] at hRV
  have hmay : mayS at_ b = true := decide_eq_true ⟨hat3.1, hat3.2, by omega⟩
  obtain ⟨y, hy⟩ : ∃ y, y = packS ci.f at_ gn b := ⟨_, rfl⟩
  have HY3 := Lib.hid (show y.length = 128 by rw [hy]; exact packS_length ci.len)
  have hpk := fun W (hR : Rd W.heap.size W A (bv b)) => pack_any ci at_ gn hin.2 A n c b W hb hR
  simp only [← hy, hmay] at hpk
  rw [packS, if_pos hmay] at hy
  rw [← hy] at hRV
  obtain ⟨ev, hev⟩ : ∃ e, e = (s.write at_ y).1 := ⟨_, rfl⟩
  obtain ⟨s2, hs2⟩ : ∃ e, e = (s.write at_ y).2 := ⟨_, rfl⟩
  rw [← hev, ← hs2] at hRV
  have hwr := fun W (h : (ML C G g).At W s F1) => mwrite_any h hk at_ y HY3.out hm
  simp only [← hev, ← hs2] at hwr
  have hse := fun W => sector_yes (r.segs : Int) (r.size : Int) sg sl hin.1 W
  simp only [← hat2] at hse
  obtain ⟨z, hz0⟩ : ∃ z : List UInt8, z = zeroS := ⟨_, rfl⟩
  have hz : ∀ W, (zeroValue 101).run Tryz.prog W = .ok (.agg (bva z)) W := fun _ => by rw [hz0]; kernel_rfl
  have HZ3 := Lib.hid (show z.length = 128 by rw [hz0]; exact zeroS_length)
  have HIY : Hid ((Tryz.prog.info? 101).map (·.size) = some (bva y).size) := by rw [bva_size, HY3.out]; exact info_sec
  have HC := Lib.hid hc
  have HSE := Lib.hid hse
  have HPK := Lib.hid hpk
  have HWR := Lib.hid hwr
  have HRV := Lib.hid hRV
  have HR := Lib.hid hr
  have HIN := Lib.hid hin
  have HO := Lib.hid ho
  have HM := Lib.hid hm1
  have H2F := Lib.hid (show F2 q ∧ F2 bm ∧ (∀ k, F2 k → k < w.heap.size) ∧ (∀ k, F1 k → F2 k → False) ∧ (∀ k, F k ↔ F1 k ∨ F2 k) from ⟨hq, hbm, h3, hd, hF⟩)
  have HKN := Lib.hid hkn
  have wsl : IntKind.i64.wrap (sl + 1) = sl + 1 := IntWalk.i64_in _ (by omega)
  clear hc hse hpk hwr hRV hr hin ho hm1 hq hbm h3 hd hF hz0 hev hs2 hy hmay hat3 hat2 hat him hsm i1 i2 i3 i4 hl hk hm hb hkn
  go_enter Tryz.func17, Tryz.ntmps17
  go_wp2_with fail
  refine HC.out.mono ?_
  rintro e w1 ⟨rfl, bw⟩
  have O1 := Lib.hid (HO.out.below bw)
  have M1 := Lib.hid ((Mv.start HM.out).below bw)
  have R1 := Lib.hid ((HR.out.below bw).more bw.size)
  clear bw HO HM HR
  have c2 : w1.cell? ⟨q, 2, none⟩ = some (.int .i64 (r.segs : Int)) := O1.out.blk.cell 2
  have c3 : w1.cell? ⟨q, 3, none⟩ = some (.int .i64 (r.size : Int)) := O1.out.blk.cell 3
  go_wp2_with fail
  refine (HSE.out w1).mono ?_
  rintro e w2 ⟨rfl, bw⟩
  have O2 := Lib.hid (O1.out.below bw)
  have M2 := Lib.hid (M1.out.below bw)
  have R2 := Lib.hid ((R1.out.below bw).more bw.size)
  clear bw O1 M1 R1 c2 c3
  have c1 : w2.cell? ⟨q, 1, none⟩ = some ci.v := O2.out.blk.cell 1
  go_wp2_with fail
  refine (HPK.out w2 R2.out).mono ?_
  rintro e w3 ⟨rfl, bw⟩
  have O3 := Lib.hid (O2.out.below bw)
  have M3 := Lib.hid (M2.out.below bw)
  clear bw O2 M2 R2 c1
  go_wp2_with (show wpList _ _ _ ({ dst := none, op := .store 101 (.tmp 12) (.tmp 50), type := _, pos := _, after := _, guard := _ } :: _) _ _; apply Classical.byContradiction; intro hneg)
  refine hneg ?_
  clear hneg
  refine wpList_store_row rfl 101 (.tmp 12) (.tmp 50) rfl w3.heap.size (bva y) rfl rfl 101 (bva z) (heap_alloc_new _ _) HIY.out (by rw [bva_size, bva_size, HY3.out, HZ3.out]) (bva_one _) ?_
  obtain ⟨w4, hw4⟩ : ∃ w4, w4 = (w3.alloc (.cells (bva z) 101)).setRow w3.heap.size (bva y) := ⟨_, rfl⟩
  have bw : Below w3.heap.size w3 w4 := by rw [hw4]; exact below_setRow ((Below.refl _ _).alloc (Nat.le_refl _) _) (Nat.le_refl _) _
  have X4 := Lib.hid (show Bx w w4 F1 w3.heap.size (bva y) 101 from Bx.new M3.out (by rw [hw4]; exact setRow_heap _ _ _ _ _ _ (heap_alloc_new _ _)) (Nat.le_refl _))
  have O4 := Lib.hid (O3.out.below bw)
  have M4 := Lib.hid (M3.out.below bw)
  rw [← hw4]
  clear hw4 bw O3 M3
  obtain ⟨b3, hb3⟩ : ∃ b3, b3 = w3.heap.size := ⟨_, rfl⟩
  rw [← hb3] at X4
  rw [← hb3]
  clear hb3
  go_wp2_with fail
  refine wp_region_held_drew (S := (fun w' => Blk w' q (rwC g ci bm r) 106 ∧ Blk w' b3 (bva y) 101)) (by kernel_rfl) ⟨O4.out.drew.blk, (X4.out.below (Below.refl _ _).drew).1⟩ (fun hh => ?_)
  have HH := Lib.hid hh
  clear hh
  refine wpAnyH_take (i := 0) (v := ?vw0) rfl (by kernel_rfl) (by kernel_rfl) (by kernel_rfl) (fun _ _ _ h => h) (Or.inl ⟨by rfl, fun w' _ => ?yw0⟩) HH.out ?_
  case yw0 => (go_simp; try with_reducible rfl)
  refine wpAnyH_take (i := 1) (v := ?vw1) rfl (by kernel_rfl) (by kernel_rfl) (by kernel_rfl) (fun _ _ _ h => h) (Or.inl ⟨by rfl, fun w' _ => ?yw1⟩) HH.out ?_
  case yw1 => (go_simp; try with_reducible rfl)
  try simp only [List.getElem_toArray, List.getElem_cons_succ, List.getElem_cons_zero, Act.put, List.setIfInBounds_toArray, List.set_cons_zero, List.set_cons_succ]
  refine wpAnyH_take (i := 2) (v := ?vw2) rfl (by kernel_rfl) (by kernel_rfl) (by kernel_rfl) (fun _ _ _ h => h) (Or.inl ⟨by rfl, fun w' _ => ?yw2⟩) HH.out ?_
  case yw2 => (go_simp; try with_reducible rfl)
  refine wpAnyH_take (i := 3) (v := .pointer (some ⟨g, 0, none⟩)) rfl (by kernel_rfl) (by kernel_rfl) (by kernel_rfl) (fun _ _ _ h => h) (Or.inl ⟨by rfl, fun w' hw' => ?lw3⟩) HH.out ?_
  case lw3 => (have hc : w'.cell? ⟨q, 0, none⟩ = some (.pointer (some ⟨g, 0, none⟩)) := hw'.1.cell 0; go_simp; try with_reducible rfl)
  try simp only [List.getElem_toArray, List.getElem_cons_succ, List.getElem_cons_zero, Act.put, List.setIfInBounds_toArray, List.set_cons_zero, List.set_cons_succ]
  refine wpAnyH_take (i := 4) (v := ?vw4) rfl (by kernel_rfl) (by kernel_rfl) (by kernel_rfl) (fun _ _ _ h => h) (Or.inl ⟨by rfl, fun w' _ => ?yw4⟩) HH.out ?_
  case yw4 => (go_simp; try with_reducible rfl)
  try simp only [List.getElem_toArray, List.getElem_cons_succ, List.getElem_cons_zero, Act.put, List.setIfInBounds_toArray, List.set_cons_zero, List.set_cons_succ]
  refine wpAnyH_take (i := 5) (v := .agg (bva y)) rfl (by kernel_rfl) (by kernel_rfl) (by kernel_rfl) (fun _ _ _ h => h) (Or.inl ⟨by rfl, fun w' hw' => ?yw5⟩) HH.out ?_
  case yw5 => exact exec_load 101 (.tmp 12) rfl rfl hw'.2 Tryz.underlying101 rfl HIY.out
  try simp only [List.getElem_toArray, List.getElem_cons_succ, List.getElem_cons_zero, Act.put, List.setIfInBounds_toArray, List.set_cons_zero, List.set_cons_succ]
  refine wpAnyH_ready (rs := [6]) (by kernel_rfl) (by simp) (AllReadyH.cons rfl (fun K hK => ?_) AllReadyH.nil)
  go_simp
  refine (HWR.out _ (M4.out.below (Below.refl _ _).drew).at_).mono ?_
  rintro e w5 ⟨rfl, F5, hmv⟩
  have M5 := Lib.hid ((M4.out.below (Below.refl _ _).drew).trans hmv)
  have O5 := Lib.hid (O4.out.drew.but hmv.but (fun h => H2F.out.2.2.2.1 q h H2F.out.1) (fun h => H2F.out.2.2.2.1 bm h H2F.out.2.1))
  have X5 := Lib.hid ((X4.out.below (Below.refl _ _).drew).step hmv)
  clear hmv
  go_simp
  refine hK.out _ _ ⟨O5.out.blk, X5.out.1⟩ (fun hh => ?_)
  have HH' := Lib.hid hh
  clear hh hK K HH O4 M4 X4
  have HH := Lib.hid HH'.out
  clear HH'
  refine wpAnyH_take (i := 7) (v := ?vw7) rfl (by kernel_rfl) (by kernel_rfl) (by kernel_rfl) (fun _ _ _ h => h) (Or.inl ⟨by rfl, fun w' _ => ?yw7⟩) HH.out ?_
  case yw7 => (go_simp; try with_reducible rfl)
  try simp only [List.getElem_toArray, List.getElem_cons_succ, List.getElem_cons_zero, Act.put, List.setIfInBounds_toArray, List.set_cons_zero, List.set_cons_succ]
  refine wpAnyH_done (by kernel_rfl) ?_ _
  clear HH X5 HWR HPK HSE HC
  by_cases he : ev = 0
  · subst he
    rw [if_pos rfl] at HRV
    go_wp2_with fail
    have S0P : w5.drew.cell? ⟨q, 4, none⟩ = some (.map (some bm)) := O5.out.drew.blk.cell 4
    have SP : w5.drew.cell? ⟨q, 5, none⟩ = some (.int .u64 (r.known : Int)) := O5.out.drew.blk.cell 5
    refine wp_region_late (S0 := fun w' => w'.cell? ⟨q, 4, none⟩ = some (.map (some bm))) (S := fun w' => w'.cell? ⟨q, 5, none⟩ = some (.int .u64 (r.known : Int))) (W := [18]) (by kernel_rfl) ?_
    refine wpAnyL_take0 (i := 0) (v := ?vL0) rfl (by kernel_rfl) (by kernel_rfl) (by kernel_rfl) (fun _ _ _ h => h) (by rfl) (Or.inl ⟨by rfl, fun w' hw' => ?yL0⟩) S0P (.inr SP) ?_
    case yL0 => (go_simp; try with_reducible rfl)
    refine wpAnyL_take0 (i := 1) (v := ?vL1) rfl (by kernel_rfl) (by kernel_rfl) (by kernel_rfl) (fun _ _ _ h => h) (by rfl) (Or.inl ⟨by rfl, fun w' hw' => ?yL1⟩) S0P (.inr SP) ?_
    case yL1 => (go_simp; try with_reducible rfl)
    refine wpAnyL_take0 (i := 2) (v := ?vL2) rfl (by kernel_rfl) (by kernel_rfl) (by kernel_rfl) (fun _ _ _ h => h) (by rfl) (Or.inl ⟨by rfl, fun w' hw' => ?yL2⟩) S0P (.inr SP) ?_
    case yL2 => (go_simp; try with_reducible rfl)
    refine wpAnyL_take0 (i := 3) (v := .map (some bm)) rfl (by kernel_rfl) (by kernel_rfl) (by kernel_rfl) (fun _ _ _ h => h) (by rfl) (Or.inl ⟨by rfl, fun w' hw' => ?yL3⟩) S0P (.inr SP) ?_
    case yL3 => (have hc : w'.cell? ⟨q, 4, none⟩ = some (.map (some bm)) := hw'; go_simp; try with_reducible rfl)
    refine wpAnyL_take0 (i := 4) (v := ?vL4) rfl (by kernel_rfl) (by kernel_rfl) (by kernel_rfl) (fun _ _ _ h => h) (by rfl) (Or.inl ⟨by rfl, fun w' hw' => ?yL4⟩) S0P (.inr SP) ?_
    case yL4 => (go_simp; try with_reducible rfl)
    refine wpAnyL_take0 (i := 5) (v := ?vL5) rfl (by kernel_rfl) (by kernel_rfl) (by kernel_rfl) (fun _ _ _ h => h) (by rfl) (Or.inl ⟨by rfl, fun w' hw' => ?yL5⟩) S0P (.inr SP) ?_
    case yL5 => (go_simp; try with_reducible rfl)
    refine wpAnyL_take0 (i := 6) (v := ?vL6) rfl (by kernel_rfl) (by kernel_rfl) (by kernel_rfl) (fun _ _ _ h => h) (by rfl) (Or.inl ⟨by rfl, fun w' hw' => ?yL6⟩) S0P (.inr SP) ?_
    case yL6 => (go_simp; try with_reducible rfl)
    refine wpAnyL_take0 (i := 7) (v := ?vL7) rfl (by kernel_rfl) (by kernel_rfl) (by kernel_rfl) (fun _ _ _ h => h) (by rfl) (Or.inl ⟨by rfl, fun w' hw' => ?yL7⟩) S0P (.inr SP) ?_
    case yL7 => (go_simp; try with_reducible rfl)
    refine wpAnyL_take0 (i := 8) (v := ?vL8) rfl (by kernel_rfl) (by kernel_rfl) (by kernel_rfl) (fun _ _ _ h => h) (by rfl) (Or.inl ⟨by rfl, fun w' hw' => ?yL8⟩) S0P (.inr SP) ?_
    case yL8 => (go_simp; try with_reducible rfl)
    refine wpAnyL_take0 (i := 9) (v := ?vL9) rfl (by kernel_rfl) (by kernel_rfl) (by kernel_rfl) (fun _ _ _ h => h) (by rfl) (Or.inl ⟨by rfl, fun w' hw' => ?yL9⟩) S0P (.inr SP) ?_
    case yL9 => (go_simp; try with_reducible rfl)
    refine wpAnyL_take (i := 10) (v := .int .u64 (r.known : Int)) rfl (by kernel_rfl) (by kernel_rfl) (by kernel_rfl) (fun _ _ _ h => h) (by kernel_rfl) (by rfl) (by rfl) (Or.inl ⟨by rfl, fun w' hw' => ?yL10⟩) ⟨S0P, SP⟩ ?_
    case yL10 => (have hc : w'.cell? ⟨q, 5, none⟩ = some (.int .u64 (r.known : Int)) := hw'.2; go_simp; try with_reducible rfl)
    refine wpAnyL_take0 (i := 11) (v := ?vL11) rfl (by kernel_rfl) (by kernel_rfl) (by kernel_rfl) (fun _ _ _ h => h) (by rfl) (Or.inl ⟨by rfl, fun w' hw' => ?yL11⟩) S0P (.inr SP) ?_
    case yL11 => (go_simp; try with_reducible rfl)
    refine wpAnyL_take0 (i := 12) (v := ?vL12) rfl (by kernel_rfl) (by kernel_rfl) (by kernel_rfl) (fun _ _ _ h => h) (by rfl) (Or.inl ⟨by rfl, fun w' hw' => ?yL12⟩) S0P (.inr SP) ?_
    case yL12 => (go_simp; try with_reducible rfl)
    try simp only [List.getElem_toArray, List.getElem_cons_succ, List.getElem_cons_zero, Act.put, List.setIfInBounds_toArray, List.set_cons_zero, List.set_cons_succ]
    refine wpAnyL_ready (rs := [13]) (by kernel_rfl) (by simp) (AllReadyL.cons rfl (fun K hK => ?_) AllReadyL.nil)
    rw [if_pos (by rfl)]
    obtain ⟨D, hD, hg⟩ := O5.out.drew.map
    have HG := Lib.hid hg
    have hu : u64P (.int .u64 (gn : Int)) = some (.lit (.int .u64 (gn : Int)), []) := u64_mk HIN.out.2
    obtain ⟨v, st, es1, cl1, hme, hst⟩ := place_store (t := 104) (e := 50) lawI Tryz.underlying104 (z := .int .u64 0) (by kernel_rfl) hD (by unfold maxLen; omega) (keyI (z := sg) (by have := HIN.out.1.2.1; omega) (by have := HIN.out.1.2.1; have := O5.out.ok.small; omega)) hu
    have hbm5 : ∃ a c, w5.drew.heap[bm]? = some (.map a c) := by obtain ⟨a, c, ha, _⟩ := hD; exact ⟨a, c, ha⟩
    clear hD hg hu
    refine wp_run (v := .tuple #[v, goInt st]) (w' := setBlock w5.drew bm (.map es1 cl1)) ?hme ?_
    case hme =>
      go_simp
    have X6 := Lib.hid (blk_setBlock O5.out.drew.blk hbm5 O5.out.ne (.map es1 cl1))
    have B6 := Lib.hid (but_setBlock hbm5 (.map es1 cl1))
    have N6 := Lib.hid (show (setBlock w5.drew bm (.map es1 cl1)).heap[bm]? = some (.map es1 cl1) by obtain ⟨a, c, ha⟩ := hbm5; exact heap_setBlock_same ha _)
    obtain ⟨w6, hw6⟩ : ∃ W, W = setBlock w5.drew bm (.map es1 cl1) := ⟨_, rfl⟩
    rw [← hw6] at X6 B6 N6
    rw [← hw6]
    clear hw6 hme hbm5 S0P SP
    obtain ⟨es2, cl2, hes, hown⟩ := hst w6 N6.out
    clear hst
    refine hK.out _ _ ⟨X6.out.cell 4, .inr (X6.out.cell 5)⟩ ?_
    clear hK K

    try simp only [List.getElem_toArray, List.getElem_cons_succ, List.getElem_cons_zero, Act.put, List.setIfInBounds_toArray, List.set_cons_zero, List.set_cons_succ]
    refine wpAnyL_take0 (i := 14) (v := ?vL14) rfl (by kernel_rfl) (by kernel_rfl) (by kernel_rfl) (fun _ _ _ h => h) (by rfl) (Or.inl ⟨by rfl, fun w' hw' => ?yL14⟩) (X6.out.cell 4) (.inr (X6.out.cell 5)) ?_
    case yL14 => (go_simp; try with_reducible rfl)
    try simp only [List.getElem_toArray, List.getElem_cons_succ, List.getElem_cons_zero, Act.put, List.setIfInBounds_toArray, List.set_cons_zero, List.set_cons_succ]
    refine wpAnyL_ready (rs := [15]) (by kernel_rfl) (by simp) (AllReadyL.cons rfl (fun K hK => ?_) AllReadyL.nil)
    rw [if_pos (by rfl)]
    have hes' : (Instr.entryStore 104 (.map (some bm)) (.int .i64 st) (.int .u64 (gn : Int))).run Tryz.prog w6 = .ok () (setBlock w6 bm (.map es2 cl2)) := hes
    refine wp_skip (w' := setBlock w6 bm (.map es2 cl2)) ?hes ?_
    case hes =>
      go_simp
    have X7 := Lib.hid (blk_setBlock X6.out ⟨_, _, N6.out⟩ O5.out.ne (.map es2 cl2))
    have B7 := Lib.hid (B6.out.trans (but_setBlock ⟨_, _, N6.out⟩ (.map es2 cl2)))
    have MP7 := Lib.hid hown
    obtain ⟨w7, hw7⟩ : ∃ W, W = setBlock w6 bm (.map es2 cl2) := ⟨_, rfl⟩
    rw [← hw7] at X7 B7 MP7
    rw [← hw7]
    clear hw7 hes hes' hown X6 B6 N6
    refine hK.out _ _ ⟨X7.out.cell 4, .inr (X7.out.cell 5)⟩ ?_
    clear hK K
    try simp only [List.getElem_toArray, List.getElem_cons_succ, List.getElem_cons_zero, Act.put]
    refine wpAnyL_take0 (i := 16) (v := ?vL16) rfl (by kernel_rfl) (by kernel_rfl) (by kernel_rfl) (fun _ _ _ h => h) (by rfl) (Or.inl ⟨by rfl, fun w' hw' => ?yL16⟩) (X7.out.cell 4) (.inr (X7.out.cell 5)) ?_
    case yL16 => (go_simp; try with_reducible rfl)
    refine wpAnyL_take0 (i := 17) (v := ?vL17) rfl (by kernel_rfl) (by kernel_rfl) (by kernel_rfl) (fun _ _ _ h => h) (by rfl) (Or.inl ⟨by rfl, fun w' hw' => ?yL17⟩) (X7.out.cell 4) (.inr (X7.out.cell 5)) ?_
    case yL17 => (go_simp; try with_reducible rfl)
    try simp only [List.getElem_toArray, List.getElem_cons_succ, List.getElem_cons_zero, Act.put]
    refine wpAnyL_ready (rs := [18]) (by kernel_rfl) (by simp) (AllReadyL.cons rfl (fun K hK => ?_) AllReadyL.nil)
    have y1 : w7.cell? ⟨q, 5, none⟩ = some (.int .u64 (r.known : Int)) := X7.out.cell 5
    have y2 := X7.out.free 5
    go_simp
    have hmx : (if r.known < gn then (gn : Int) else (r.known : Int)) = ((max r.known gn : Nat) : Int) := by split <;> omega
    rw [hmx]
    obtain ⟨w8, hw8⟩ : ∃ W, W = World.setCell w7 ⟨q, 5, none⟩ (.int .u64 ((max r.known gn : Nat) : Int)) := ⟨_, rfl⟩
    rw [← hw8]
    have X8 := Lib.hid (show Blk w8 q #[.pointer (some ⟨g, 0, none⟩), ci.v, .int .i64 (r.segs : Int), .int .i64 (r.size : Int), .map (some bm), .int .u64 ((max r.known gn : Nat) : Int), .int .i64 r.seg, .int .i64 r.slot] 106 by rw [hw8]; exact heap_setCell_same _ _ _ _ _ _ X7.out)
    have b8 : But (fun k => k = q) w7 w8 := by rw [hw8]; exact But.setCell (S := fun k => k = q) (But.refl _) (Or.inl rfl) _
    have MP8 := Lib.hid (gmap_but MP7.out b8 (fun e => O5.out.ne e.symm))
    have B8 := Lib.hid ((B7.out.mono (fun _ h => .inr h)).trans (b8.mono (T := fun k => k = q ∨ k = bm) (fun _ h => .inl h)))
    clear hw8 b8 y1 y2 hmx X7 MP7 B7
    refine hK.out _ _ ⟨X8.out.cell 4, .inl ⟨18, by simp, by kernel_rfl⟩⟩ ?_
    clear hK K
    try simp only [List.getElem_toArray, List.getElem_cons_succ, List.getElem_cons_zero, Act.put, List.setIfInBounds_toArray, List.set_cons_zero, List.set_cons_succ]
    refine wpAnyL_done (by kernel_rfl) ?_ _
    have y1 : w8.cell? ⟨q, 6, none⟩ = some (.int .i64 r.seg) := X8.out.cell 6
    have y2 : w8.cell? ⟨q, 7, none⟩ = some (.int .i64 r.slot) := X8.out.cell 7
    have y3 := X8.out.free 6
    have y4 := X8.out.free 7
    go_wp2_with fail
    obtain ⟨w9, hw9⟩ : ∃ W, W = World.setCell (World.setCell w8 ⟨q, 6, none⟩ (.int .i64 sg)) ⟨q, 7, none⟩ (.int .i64 (sl + 1)) := ⟨_, rfl⟩
    rw [← hw9]
    have X9 : Blk w9 q (rwC g ci bm (r.put sg sl gn)) 106 := by rw [hw9]; exact heap_setCell_same _ _ _ _ _ _ (heap_setCell_same _ _ _ _ _ _ X8.out)
    have b9 : But (fun k => k = q) w8 w9 := by rw [hw9]; exact But.setCell (S := fun k => k = q) (But.setCell (S := fun k => k = q) (But.refl _) (Or.inl rfl) _) (Or.inl rfl) _
    have hne := O5.out.ne
    have hkk : sg.toNat < r.gens.length := by have := HIN.out.1.2.1; rw [O5.out.ok.gn]; omega
    have hss : ((sg.toNat : Nat) : Int) = sg := by have := HIN.out.1.2.1; omega
    have hgp := HG.out.put hkk gn
    rw [hss] at hgp
    rw [HRV.out]
    exact bodyPost_ret (results_tmp2 Tryz.results17 _ _ _) rfl ⟨rfl, _, fin_own H2F.out (M5.out.below (Below.refl _ _).drew) ⟨X9, ⟨_, gmap_room (gmap_but MP8.out b9 (fun e => hne e.symm)) hgp (by rw [List.length_set, O5.out.ok.gn]; have := O5.out.ok.small; omega), hgp⟩, hne, O5.out.ok.put HIN.out.1 HIN.out.2⟩ (B8.out.trans (b9.mono (fun _ h => .inl h)))⟩
  · have he2 : (ev != 0) = true := bne_iff_ne.2 he
    rw [if_neg he] at HRV
    go_wp2_with fail
    rw [HRV.out]
    exact bodyPost_ret (results_tmp2 Tryz.results17 _ _ _) rfl ⟨rfl, _, fin_own H2F.out M5.out O5.out (But.refl _)⟩
end
end
end Go.Proofs.YtnplhagfmfggcaaGreat.Lo
/-
  How arguments that came in are opened: a []byte, a slice of them, and so on, as what my words say of them.
-/
namespace Go.Proofs.YtnplhagfmfggcaaGreat
open Go.RowKit Go.ChangeShapes Go.WideShapes

/-- The byte of a number. -/
def byteOf (n : Int) : UInt8 := UInt8.ofNat n.toNat
theorem byteOf_val {n : Int} (h : (Lit.int .u8 n).wf = true) : ((byteOf n).toNat : Int) = n := by
  have hb := bounds_u8 h
  unfold byteOf
  rw [UInt8.toNat_ofNat']
  omega

section
variable {H : Type} {enc : TypeId × Value → H} {P : Program} {w : World} {base : Nat} {spare : Nat → Bool} {held : Bool}

theorem isB_of_trod {t e fuel : Nat} {v : Value} {x : DataW H × List MemPlace} (ht : P.underlying t = some (.slice e)) (he : P.underlying e = some (.int .u8)) (hc : P.cellsOf e = 1)
    (h : DataW.trod enc P w base spare held fuel t [v] = some x) : ∃ l, IsB w.heap.size w v l := by
  rcases open_ints ht he hc h with ⟨hcs, _⟩ | ⟨a, len, cap, zs, hcs, _, hl, hm, hz, _, hcell, hwz⟩
  · simp only [List.cons.injEq, and_true] at hcs
    subst hcs
    exact ⟨[], none, 0, rfl, Nat.le_refl _, Nat.zero_le _, Rd.none⟩
  · simp only [List.cons.injEq, and_true] at hcs
    subst hcs
    have hlz : len ≤ zs.length := by rw [hz]; split <;> omega
    have hlen : ((zs.take len).map byteOf).length = len := by simp; omega
    refine ⟨(zs.take len).map byteOf, some a, cap, by rw [hlen], by omega, hm, fun k u hu => ?_⟩
    have hk : k < len := by
      have := (List.getElem?_eq_some_iff.1 hu).1
      rw [bv_length, hlen] at this
      exact this
    have hkz : k < zs.length := by omega
    have hg := hcell k hkz
    have hd : zs.getD k 0 = zs[k] := by simp [List.getD, hkz]
    have hw := hwz _ (List.getElem_mem hkz)
    have hb := World.block_lt_of_cell? _ _ hg
    rw [add_block] at hb
    refine ⟨a, rfl, hb, ?_⟩
    rw [hg, hd]
    have e2 : (bv ((zs.take len).map byteOf))[k]? = some (.int .u8 zs[k]) := by
      rw [bv_get (by rw [hlen]; exact hk)]
      simp only [List.getElem_map, List.getElem_take]
      rw [byteOf_val hw]
    rw [← hu, e2]

theorem isL_of_trod {α : Type} {R : Value → α → Prop} {t e fuel : Nat} {v : Value} {x : DataW H × List MemPlace} (ht : P.underlying t = some (.slice e)) (hc : P.cellsOf e = 1)
    (each : ∀ (n : Nat) (u : Value) (y : DataW H × List MemPlace), DataW.trod enc P w base spare held n e [u] = some y → ∃ l, R u l)
    (h : DataW.trod enc P w base spare held fuel t [v] = some x) : ∃ ls, IsL w.heap.size w R v ls := by
  rcases Go.Deep.open_slice1 ht hc h with ⟨hcs, _⟩ | ⟨a, len, cap, m, n, V, D, Pl, hcs, _, hl, hm, hmm, _, hx⟩
  · simp only [List.cons.injEq, and_true] at hcs
    subst hcs
    exact ⟨[], none, 0, rfl, Nat.le_refl _, Nat.zero_le _, RdL.none⟩
  · simp only [List.cons.injEq, and_true] at hcs
    subst hcs
    have hlm : len ≤ m := by rw [hmm]; split <;> omega
    have hall : ∀ j, j ≤ len → ∃ ls : List α, ls.length = j ∧ ∀ (k : Nat) (l : α), ls[k]? = some l → R (V k) l := by
      intro j
      induction j with
      | zero => exact fun _ => ⟨[], rfl, fun k l hk => by simp at hk⟩
      | succ j ih =>
        intro hj
        obtain ⟨ls, hls, hR⟩ := ih (by omega)
        obtain ⟨l, hl'⟩ := each n (V j) _ (hx j (by omega)).2
        refine ⟨ls ++ [l], by simp [hls], fun k l' hk => ?_⟩
        rcases Nat.lt_trichotomy k j with hlt | rfl | hgt
        · rw [List.getElem?_append_left (by omega)] at hk
          exact hR k l' hk
        · rw [List.getElem?_append_right (by omega), hls, Nat.sub_self] at hk
          injection hk with hk
          subst hk
          exact hl'
        · rw [List.getElem?_eq_none (by simp; omega)] at hk
          cases hk
    obtain ⟨ls, hls, hR⟩ := hall len (Nat.le_refl _)
    refine ⟨ls, some a, cap, by rw [hls], by omega, hm, (List.range len).map V, by simp [hls], fun k u hu => ?_, fun k u l hu hl' => ?_⟩
    · have hk : k < len := by have := (List.getElem?_eq_some_iff.1 hu).1; simpa using this
      have hg := (hx k (by omega)).1
      have hb := World.block_lt_of_cell? _ _ hg
      rw [add_block] at hb
      have e2 : ((List.range len).map V)[k]? = some (V k) := by simp [hk]
      exact ⟨a, rfl, hb, by rw [hg, ← hu, e2]⟩
    · have hk : k < len := by have := (List.getElem?_eq_some_iff.1 hu).1; simpa using this
      have e2 : ((List.range len).map V)[k]? = some (V k) := by simp [hk]
      rw [e2] at hu
      injection hu with hu
      subst hu
      exact hR k l hl'

/-- A []byte that came in. -/
theorem open_bytes {t e : Nat} {a : Option Addr} {len cap : Nat} {d : DataW H} {ps : List MemPlace} (ht : P.underlying t = some (.slice e)) (he : P.underlying e = some (.int .u8)) (hc : P.cellsOf e = 1)
    (h : DataW.Trod enc P w base spare held t (.slice a len cap) d ps) : ∃ l : List UInt8, l.length = len ∧ len ≤ cap ∧ cap ≤ maxLen ∧ Rd w.heap.size w a (bv l) := by
  obtain ⟨fuel, hf⟩ := h
  obtain ⟨l, A, c, hv, h1, h2, h3⟩ := isB_of_trod ht he hc hf
  injection hv with e1 e2 e3
  subst e1; subst e2; subst e3
  exact ⟨l, rfl, h1, h2, h3⟩
/-- A [][]byte that came in. -/
theorem open_rows {t s e : Nat} {a : Option Addr} {len cap : Nat} {d : DataW H} {ps : List MemPlace} (ht : P.underlying t = some (.slice s)) (hs : P.underlying s = some (.slice e)) (he : P.underlying e = some (.int .u8))
    (hcs : P.cellsOf s = 1) (hc : P.cellsOf e = 1)
    (h : DataW.Trod enc P w base spare held t (.slice a len cap) d ps) : ∃ ls : List (List UInt8), ls.length = len ∧ len ≤ cap ∧ cap ≤ maxLen ∧ RdB w.heap.size w a ls := by
  obtain ⟨fuel, hf⟩ := h
  obtain ⟨ls, A, c, hv, h1, h2, h3⟩ := isL_of_trod (R := IsB w.heap.size w) ht hcs (fun _ _ _ hy => isB_of_trod hs he hc hy) hf
  injection hv with e1 e2 e3
  subst e1; subst e2; subst e3
  exact ⟨ls, rfl, h1, h2, h3⟩
/-- A [][][]byte that came in. -/
theorem open_rows3 {t r s e : Nat} {a : Option Addr} {len cap : Nat} {d : DataW H} {ps : List MemPlace} (ht : P.underlying t = some (.slice r)) (hr : P.underlying r = some (.slice s)) (hs : P.underlying s = some (.slice e)) (he : P.underlying e = some (.int .u8))
    (hcr : P.cellsOf r = 1) (hcs : P.cellsOf s = 1) (hc : P.cellsOf e = 1)
    (h : DataW.Trod enc P w base spare held t (.slice a len cap) d ps) : ∃ ls : List (List (List UInt8)), ls.length = len ∧ len ≤ cap ∧ cap ≤ maxLen ∧ RdL w.heap.size w (IsL w.heap.size w (IsB w.heap.size w)) a ls := by
  obtain ⟨fuel, hf⟩ := h
  obtain ⟨ls, A, c, hv, h1, h2, h3⟩ := isL_of_trod (R := IsL w.heap.size w (IsB w.heap.size w)) ht hcr (fun _ _ _ hy => isL_of_trod hr hcs (fun _ _ _ hz => isB_of_trod hs he hc hz) hy) hf
  injection hv with e1 e2 e3
  subst e1; subst e2; subst e3
  exact ⟨ls, rfl, h1, h2, h3⟩
end

end Go.Proofs.YtnplhagfmfggcaaGreat
/-
  Deeds: how a row of them that came in is opened, and how one is read.
-/
namespace Go.Proofs.YtnplhagfmfggcaaGreat.Kd
open Go.RowKit
/-- A deed: On, Kind, N, M, C. -/
structure Dd where
  on : Int
  kind : Int
  n : Int
  m : Int
  c : UInt8
def ddV (x : Dd) : List Value := [.int .i64 x.on, .int .i64 x.kind, .int .i64 x.n, .int .i64 x.m, .int .u8 (x.c.toNat : Int)]
def ddN : Dd := ⟨0, 0, 0, 0, 0⟩
def dds : List Dd → List Value
  | [] => []
  | x :: l => ddV x ++ dds l
theorem dds_append (a b : List Dd) : dds (a ++ b) = dds a ++ dds b := by
  induction a with
  | nil => rfl
  | cons x l ih => simp [dds, ih]
theorem ddV_length (x : Dd) : (ddV x).length = 5 := rfl
theorem dds_length (l : List Dd) : (dds l).length = l.length * 5 := by
  induction l with
  | nil => rfl
  | cons x l ih => rw [dds, List.length_append, ddV_length, ih, List.length_cons]; omega
theorem dds_get {l : List Dd} {k : Nat} (hk : k < l.length) {j : Nat} {v : Value} (hv : (ddV l[k])[j]? = some v) : (dds l)[5 * k + j]? = some v := by
  induction l generalizing k with
  | nil => simp at hk
  | cons x l ih =>
    cases k with
    | zero =>
      have hj : j < 5 := (List.getElem?_eq_some_iff.1 hv).1
      rw [dds, Nat.mul_zero, Nat.zero_add, List.getElem?_append_left (by rw [ddV_length]; omega)]
      exact hv
    | succ k =>
      rw [dds, List.getElem?_append_right (by rw [ddV_length]; omega), ddV_length, show 5 * (k + 1) + j - 5 = 5 * k + j by omega]
      exact ih (by simpa using hk) (by simpa using hv)
/-- All of a deed's numbers are numbers. -/
def Dd.ok (x : Dd) : Prop := (-9223372036854775808 ≤ x.on ∧ x.on ≤ 9223372036854775807) ∧ (-9223372036854775808 ≤ x.kind ∧ x.kind ≤ 9223372036854775807) ∧ (-9223372036854775808 ≤ x.n ∧ x.n ≤ 9223372036854775807) ∧ (-9223372036854775808 ≤ x.m ∧ x.m ≤ 9223372036854775807)
/-- A deed of a row, read. -/
theorem rd_deed {B : Nat} {w : World} {A : Option Addr} {l : List Dd} (h : Rd B w A (dds l)) {k : Nat} (hk : k < l.length) :
    ∃ ad, A = some ad ∧ ad.block < B ∧ ∀ j v, (ddV l[k])[j]? = some v → w.cell? ((ad.add (k * 5)).add j) = some v := by
  obtain ⟨ad, hA, hb, _⟩ := h _ _ (dds_get hk (j := 0) (v := .int .i64 l[k].on) rfl)
  refine ⟨ad, hA, hb, fun j v hv => ?_⟩
  obtain ⟨ad', hA', _, hc⟩ := h _ _ (dds_get hk hv)
  rw [hA] at hA'; injection hA' with hA'
  rw [hA', add_twice8, Nat.mul_comm k 5]
  exact hc
section
open Go.ChangeShapes Go.WideShapes
variable {H : Type} {enc : TypeId × Value → H} {w : World} {base : Nat} {spare : Nat → Bool} {held : Bool}
end
end Go.Proofs.YtnplhagfmfggcaaGreat.Kd
/-
  A device that lies; a row of sectors that is appended to. The rows of deeds in the laws.
-/
namespace Go.Proofs.YtnplhagfmfggcaaGreat.Kd
open Go.RowKit Go.Maps
/-- One device of L empty sectors, of which these writes wait; does it lie? -/
def lieS (L : Nat) (b : Bool) (wt : List (Nat × List UInt8)) : Sy := ⟨⟨false, -1⟩, [⟨List.replicate L zeroS, wt, 0, 0, b, false⟩]⟩
variable {L : Nat} {b : Bool} {wt : List (Nat × List UInt8)} {i : Int} {s : List UInt8}
theorem lie_refuse (h : 0 ≤ i ∧ i < (L : Int)) : refuseN (lieS L b wt).p ((lieS L b wt).at 0) i = 0 := by
  show (if (false || false) = true then (13 : Int) else if i < 0 ∨ ((List.replicate L zeroS).length : Int) ≤ i then 2 else 0) = 0
  rw [if_neg (by simp), if_neg (by rw [List.length_replicate]; omega)]
theorem lie_wy (h : 0 ≤ i ∧ i < (L : Int)) : (lieS L b wt).write 0 i s = (0, lieS L b (wt ++ [(i.toNat, s)])) := by
  obtain ⟨n, rfl⟩ := Int.eq_ofNat_of_zero_le h.1
  rw [write_yes (lie_refuse h)]; rfl
theorem lie_wn (h : ¬ (0 ≤ i ∧ i < (L : Int))) : (lieS L b wt).write 0 i s = (2, lieS L b wt) := by
  have hr : refuseN (lieS L b wt).p ((lieS L b wt).at 0) i = 2 := by
    show (if (false || false) = true then (13 : Int) else if i < 0 ∨ ((List.replicate L zeroS).length : Int) ≤ i then 2 else 0) = 2
    rw [if_neg (by simp), if_pos (by rw [List.length_replicate]; omega)]
  rw [write_no (by rw [hr]; decide), hr]
theorem lie_f : (lieS L true wt).flush 0 = (0, lieS L true wt) := rfl
theorem lie_off : (lieS L true wt).put 0 (((lieS L true wt).at 0).lie false) = lieS L false wt := rfl
theorem lie_on : (S0.new (20 : Int)).put 0 (((S0.new 20).at 0).lie true) = lieS 20 true [] := by kernel_rfl
/-- .. when all is flushed. -/
def lieE (L : Nat) (wt : List (Nat × List UInt8)) : Sy := ⟨⟨false, -1⟩, [⟨flushL (List.replicate L zeroS) wt, [], 0, 0, false, false⟩]⟩
theorem lie_e : (lieS L false wt).flush 0 = (0, lieE L wt) := rfl
theorem lie_len : ((lieS L b wt).at 0).st.length = L := by show (List.replicate L zeroS).length = L; rw [List.length_replicate]
theorem lie_secs : ∀ x ∈ List.replicate L zeroS, x.length = 128 := fun x hx => by rw [List.eq_of_mem_replicate hx]; exact zeroS_length
theorem lie_wait : (((lieS L b wt).at 0).wt.length : Int) = (wt.length : Int) := rfl
theorem lieE_st : ((lieE L wt).at 0).st = (List.range L).map (nowL (List.replicate L zeroS) wt) := by
  show flushL (List.replicate L zeroS) wt = _
  rw [flush_now, List.length_replicate]
theorem lieE_wait : (((lieE L wt).at 0).wt.length : Int) = 0 := rfl
theorem lie_read {k : Nat} (h : k < L) : readV (lieS L b wt).p ((lieS L b wt).at 0) (k : Int) = .tuple #[.agg (bva (nowL (List.replicate L zeroS) wt k)), .int .i64 0] := by
  rw [readV_yes (lie_refuse (by omega))]; rfl
/-- A row of sectors in new memory that is none of the devices'. -/
def RowN (w0 w : World) (F : Nat → Prop) (v : Value) (n : Nat) (l : List (List UInt8)) : Prop := w.ownsRow w0.heap.size 101 128 v n (svs l) ∧ ∀ q, v.ownBlock = some q → ¬ F q
section
variable {w0 w w' : World} {F F' : Nat → Prop} {v : Value} {n : Nat} {l : List (List UInt8)}
theorem RowN.step (h : RowN w0 w F v n l) (h1 : ∀ q, F' q → F q ∨ w.heap.size ≤ q) (h2 : But F w w') : RowN w0 w' F' v n l :=
  ⟨Own.but h.1 h2 h.2, fun q hq hf => by
    rcases h1 q hf with h3 | h3
    · exact h.2 q hq h3
    · have := (h.1.lt q hq).2; omega⟩
theorem RowN.below (h : RowN w0 w F v n l) (hb : Below w.heap.size w w') : RowN w0 w' F v n l := ⟨own_belowN h.1 hb, h.2⟩
theorem RowN.app {A' : Option Addr} {m c' : Nat} {y : List UInt8} (h : RowN w0 w F v n l) (hF : ∀ q, F q → q < w.heap.size) (ho : w'.ownsRow w0.heap.size 101 128 (.slice A' m c') m (svs l ++ bv y))
    (hor : (Value.slice A' m c').ownBlock = v.ownBlock ∨ (Value.slice A' m c').ownBlock = some w.heap.size) : RowN w0 w' F (.slice A' m c') m (l ++ [y]) :=
  ⟨by rw [svs_append, svs, svs, List.append_nil]; exact ho, fun q hq hf => by
    rcases hor with h1 | h1
    · exact h.2 q (h1 ▸ hq) hf
    · rw [h1] at hq; injection hq with hq; have := hF q hf; omega⟩
theorem rowN_nil : RowN w0 w F (.slice none 0 0) 0 [] := ⟨World.ownsRow_nil _ _ _ _, fun q hq => by cases hq⟩
/-- The devices behind an append to such a row. -/
theorem Live.app8 {p : Nat} {gs : List Nat} {S : Sy} (h : Live w0 w p gs S F) (hr : RowN w0 w F v n l) (hg : w.grownBy w' v.ownBlock) : Live w0 w' p gs S F :=
  h.but8 (T := fun q => v.ownBlock = some q) ((But.refl w).grown hg (fun _ hq => .inl hq)) (fun q hf hq => hr.2 q hq hf) (fun q hq => (hr.1.lt q hq).1)
end
end Go.Proofs.YtnplhagfmfggcaaGreat.Kd
/-
  The contract of the mirror's Both.
-/
namespace Go.Proofs.YtnplhagfmfggcaaGreat.Mi
open Go.RowKit Kd
attribute [local go_sem ↓] Go.wp_at_zero Go.wp_at_succ
section
variable {C : Duo} {G : Gd} {g : Nat} {w : World} {s : Mr C} {F : Nat → Prop}
/-- What the first p devices read of a place, as far as it may stand. -/
def bothTo (C : Duo) (G : Gd) (d : C.L.St) (n : Int) : Nat → List (List UInt8)
  | 0 => []
  | p + 1 => bothTo C G d n p ++ if rdOk C G d p n then [(C.rd d p n).2] else []
def bothL (G : Gd) (s : Mr C) (n : Int) : List (List UInt8) := if has s n then bothTo C G s.d n 2 else []
theorem bothTo_len (h : (ML C G g).At w s F) (n : Int) : ∀ p, p ≤ 2 → ∀ x ∈ bothTo C G s.d n p, x.length = 128
  | 0, _ => fun x hx => by cases hx
  | p + 1, hp => fun x hx => by
    rw [bothTo, List.mem_append] at hx
    rcases hx with hx | hx
    · exact bothTo_len h n p (by omega) x hx
    · split at hx
      · rw [List.mem_singleton] at hx
        subst hx
        obtain ⟨F1, hd, _⟩ := ml_dev h
        exact C.rd_len hd (by omega)
      · cases hx
theorem bothTo_few (d : C.L.St) (n : Int) : ∀ p, (bothTo C G d n p).length ≤ p
  | 0 => Nat.le_refl _
  | p + 1 => by
    rw [bothTo, List.length_append]
    have := bothTo_few d n p
    split <;> simp <;> omega
/-- It returns a new row of sectors. -/
def RetSec (l : List (List UInt8)) (w : World) (e : Ending) (w' : World) : Prop :=
  ∃ A n c, e = .returned (.slice A n c) ∧ l.length = n ∧ w'.ownsRow w.heap.size 101 128 (.slice A n c) n (svs l) ∧ Below w.heap.size w w'
set_option maxRecDepth 100000 in
set_option maxHeartbeats 3200000 in
theorem both_no {p : Option Addr} {n : Int} (hc : Calls Tryz.prog 70 #[.pointer p, .int .i64 n] w (RetB (.bool false) w)) : Calls Tryz.prog 76 #[.pointer p, .int .i64 n] w (RetSec [] w) := by
  have HC := Lib.hid hc
  clear hc
  go_enter Tryz.func76, Tryz.ntmps76
  go_wp2_with fail
  refine HC.out.mono ?_
  rintro e w1 ⟨rfl, bw⟩
  have B1 := Lib.hid bw
  clear bw
  go_wp2_with fail
  go_ret
  exact ⟨none, 0, 0, rfl, rfl, World.ownsRow_nil _ _ _ _, B1.out⟩
theorem both_nil (n : Int) : Calls Tryz.prog 76 #[.pointer none, .int .i64 n] w (RetSec [] w) := both_no (has_nil w n)
set_option maxRecDepth 100000 in
set_option maxHeartbeats 12800000 in
theorem both_any (h : (ML C G g).At w s F) (n : Int) : Calls Tryz.prog 76 #[.pointer (some ⟨g, 0, none⟩), .int .i64 n] w (RetSec (bothL G s n) w) := by
  cases hh : has s n with
  | false =>
    rw [bothL, hh, if_neg (by simp)]
    have := has_any h n
    rw [hh] at this
    exact both_no this
  | true =>
    obtain ⟨z, hz0⟩ : ∃ z : List UInt8, z = zeroS := ⟨_, rfl⟩
    have hz : ∀ W, (zeroValue 101).run Tryz.prog W = .ok (.agg (bva z)) W := fun _ => by rw [hz0]; kernel_rfl
    have HZ3 := Lib.hid (show z.length = 128 by rw [hz0]; exact zeroS_length)
    have hcc := has_any h n
    rw [hh] at hcc
    have HC := Lib.hid hcc
    have H := Lib.hid h
    rw [bothL, hh, if_pos rfl]
    clear hz0 hcc hh h
    go_enter Tryz.func76, Tryz.ntmps76
    go_wp2_with fail
    refine HC.out.mono ?_
    rintro e w1 ⟨rfl, bw⟩
    have B1 := Lib.hid bw
    clear bw HC
    go_wp2_with fail
    go_loopw [4, 12] (fun l x wr => ∃ (p : Nat) (A : Option Addr) (k c : Nat), p ≤ 2 ∧ x = .int .i64 p ∧ l = .slice A k c ∧ (bothTo C G s.d n p).length = k ∧ wr.ownsRow w.heap.size 101 128 (.slice A k c) k (svs (bothTo C G s.d n p)) ∧ Below w.heap.size w wr) (fun _ x _ => 2 - (intOf x).toNat)
    case atStart => exact ⟨0, none, 0, 0, by omega, rfl, rfl, rfl, World.ownsRow_nil _ _ _ _, B1.out⟩
    case round =>
      clear B1
      obtain ⟨p, A, k, c, hp, rfl, rfl, hk, ho, hb⟩ := hrel
      have HP := Lib.hid hp
      have HK := Lib.hid hk
      have O := Lib.hid ho
      have B := Lib.hid hb
      clear hp hk ho hb
      by_cases hlt : p < 2
      · have HPL := Lib.hid hlt
        have HR := Lib.hid (reads_any ((ML C G g).below H.out B.out) hlt n)
        have HS := Lib.hid (show bothTo C G s.d n (p + 1) = bothTo C G s.d n p ++ if rdOk C G s.d p n then [rdVal C G s.d p n] else [] by rw [bothTo, rdVal]; split <;> rfl)
        obtain ⟨y, hy⟩ : ∃ y, y = rdVal C G s.d p n := ⟨_, rfl⟩
        have HY3 := Lib.hid (show y.length = 128 by rw [hy, rdVal]; split; exact (ml_dev H.out).elim (fun F1 h => C.rd_len h.1 hlt); exact zeroS_length)
        have HIY : Hid ((Tryz.prog.info? 101).map (·.size) = some (bva y).size) := by rw [bva_size, HY3.out]; exact info_sec
        obtain ⟨o, ho⟩ : ∃ o, o = rdOk C G s.d p n := ⟨_, rfl⟩
        have HF := Lib.hid (bothTo_few (G := G) s.d n p)
        rw [← hy, ← ho] at HR HS
        have p0 : (0 : Int) ≤ (p : Int) := by omega
        have p1 : (p : Int) < 2 := by omega
        clear hy ho hlt
        go_wp2_with fail
        refine HR.out.mono ?_
        rintro e w2 ⟨rfl, bw⟩
        have O2 := Lib.hid (own_belowN O.out bw)
        have B2 := Lib.hid (B.out.trans (bw.mono B.out.size))
        clear bw O B HR
        go_wp2_with (show wpList _ _ _ ({ dst := none, op := .store 101 (.tmp 6) (.tmp 20), type := _, pos := _, after := _, guard := _ } :: _) _ _; apply Classical.byContradiction; intro hneg)
        refine hneg ?_
        clear hneg
        refine wpList_store_row rfl 101 (.tmp 6) (.tmp 20) rfl w2.heap.size (bva y) rfl rfl 101 (bva z) (heap_alloc_new _ _) HIY.out (by rw [bva_size, bva_size, HY3.out, HZ3.out]) (bva_one _) ?_
        obtain ⟨w3, hw3⟩ : ∃ w3, w3 = (w2.alloc (.cells (bva z) 101)).setRow w2.heap.size (bva y) := ⟨_, rfl⟩
        have hbw3 : Below w2.heap.size w2 w3 := by rw [hw3]; exact below_setRow ((Below.refl _ _).alloc (Nat.le_refl _) _) (Nat.le_refl _) _
        have BXw3 := Lib.hid (show Blk w3 w2.heap.size (bva y) 101 from by rw [hw3]; exact setRow_heap _ _ _ _ _ _ (heap_alloc_new _ _))
        rw [← hw3]
        clear hw3
        have O3 := Lib.hid (own_belowN O2.out hbw3)
        have B3 := Lib.hid (B2.out.trans (hbw3.mono B2.out.size))
        clear hbw3 O2 B2
        cases o
        · have HE := Lib.hid (show bothTo C G s.d n (p + 1) = bothTo C G s.d n p by rw [HS.out, if_neg (by simp), List.append_nil])
          go_wp2_with fail
          go_roundw
          case rel => exact ⟨p + 1, A, k, c, HPL.out, by go_num, rfl, by rw [HE.out]; exact HK.out, by rw [HE.out]; exact O3.out, B3.out⟩
          case measure => (have := HPL.out; simp [intOf]; omega)
        · have HE := Lib.hid (show bothTo C G s.d n (p + 1) = bothTo C G s.d n p ++ [y] by rw [HS.out, if_pos rfl])
          obtain ⟨L, hL⟩ : ∃ L, L = bothTo C G s.d n p := ⟨_, rfl⟩
          rw [← hL] at HE HK O3 HF
          have BA := Lib.hid (show Below w3.heap.size w3 (w3.alloc (.cells (bva y) 101)) from (Below.refl _ _).alloc (Nat.le_refl _) _)
          have RA := Lib.hid (show Rd (w3.alloc (.cells (bva y) 101)).heap.size (w3.alloc (.cells (bva y) 101)) (some ⟨w3.heap.size, 0, none⟩) (bv y) from by
            have hb5 : Blk (w3.alloc (.cells (bva y) 101)) w3.heap.size (bva y) 101 := heap_alloc_new _ _
            intro j v hv
            exact ⟨_, rfl, hb5.lt, by rw [Addr.add_mid, hb5.cell, Nat.zero_add]; simpa [bva] using hv⟩)
          clear hL HS
          go_wp2_with (show wpList _ _ _ ({ dst := some 24, op := .load 101 (.tmp 6), type := _, pos := _, after := _, guard := _ } :: _) _ _; apply Classical.byContradiction; intro hneg)
          refine hneg ?_
          clear hneg
          refine wpList_load_row rfl 101 (.tmp 6) rfl w2.heap.size rfl 101 (bva y) (0, 0) _ BXw3.out Tryz.underlying101 rfl HIY.out ?_
          go_wp2_with (show wpList _ _ _ ({ dst := some 25, op := .buildSlice 72 1 #[(0, .tmp 24)], type := _, pos := _, after := _, guard := _ } :: _) _ _; apply Classical.byContradiction; intro hneg)
          refine hneg ?_
          clear hneg
          refine wpList_execg8 (v := .slice (some ⟨w3.heap.size, 0, none⟩) 1 1) (w' := w3.alloc (.cells (bva y) 101)) rfl (exec_buildSlice 72 1 #[(0, .tmp 24)] rfl ?hbld) ?_
          case hbld =>
            simp only [List.map_toArray, List.map_cons, List.map_nil]
            exact run_oneN secsElt _ (.agg (bva y)) (by show (bva y).size = 128; rw [bva_size, HY3.out]) (by omega)
          go_wp2_with (at_builtin; apply Classical.byContradiction; intro hneg)
          refine hneg ?_
          clear hneg
          refine wpList_appN _ rfl (.tmp 23) (.tmp 25) 72 rfl secsElt (base := w.heap.size) (v := .slice A k c) (n := k) (xs := svs L) rfl (own_belowN O3.out BA.out) (m := 1) rfl RA.out (by rw [bv_length, HY3.out]) (bv_one _) (by have := HF.out; have := HK.out; omega) (Nat.le_trans B3.out.size BA.out.size) ?_
          intro A6 c6 w6 ho6 hg6 hl6
          have B6 := Lib.hid (app_belowN (B3.out.trans (BA.out.mono B3.out.size)) (own_belowN O3.out BA.out) hg6 (Nat.le_refl _) (Nat.le_trans B3.out.size BA.out.size))
          have O6 := Lib.hid (show World.ownsRow w6 w.heap.size 101 128 (.slice A6 (k + 1) c6) (k + 1) (svs (L ++ [y])) from by rw [svs_append, svs, svs, List.append_nil]; exact ho6)
          clear ho6 hg6 hl6 BXw3 O3 B3 BA RA
          go_wp2_with fail
          go_roundw
          case rel => exact ⟨p + 1, A6, k + 1, c6, HPL.out, by go_num, rfl, by rw [HE.out, List.length_append, HK.out]; rfl, by rw [HE.out]; exact O6.out, B6.out⟩
          case measure => (have := HPL.out; simp [intOf]; omega)
      · obtain rfl : p = 2 := by have := HP.out; omega
        clear hlt
        go_wp2_with fail
        go_ret
        exact ⟨A, k, c, rfl, HK.out, O.out, B.out⟩
end
end Go.Proofs.YtnplhagfmfggcaaGreat.Mi
/-
  A log, purely: what it knows, where the next body stands, what is found on two lists of sectors. No program.
-/
namespace Go.Proofs.YtnplhagfmfggcaaGreat.Lo
open Go.RowKit Kd Sx
/-- What a log knows: how many slots a segment has, of each segment its generation (0: it is free), the greatest one, the head and its next slot. -/
structure Lg where
  size : Nat
  gens : List Nat
  last : Nat
  h : Option (Nat × Nat)
/-- The free segment with the least number. -/
def freeK (gens : List Nat) : Option Nat := gens.findIdx? (· == 0)
/-- Where the next body stands: segment, slot, generation. -/
def Lg.next (l : Lg) : Option (Nat × Nat × Nat) :=
  match l.h with
  | some (s, j) => if j < l.size then some (s, j, l.gens.getD s 0) else (freeK l.gens).map fun k => (k, 0, l.last + 1)
  | none => (freeK l.gens).map fun k => (k, 0, l.last + 1)
/-- It stands there now. -/
def Lg.put (l : Lg) (p : Nat × Nat × Nat) : Lg := ⟨l.size, l.gens.set p.1 p.2.2, max l.last p.2.2, some (p.1, p.2.1 + 1)⟩
/-- The sector of a slot. -/
def Lg.at_ (l : Lg) (p : Nat × Nat × Nat) : Nat := 2 + p.1 * l.size + p.2.1
/-- How many slots the head has left. -/
def Lg.left (l : Lg) : Nat := match l.h with | some (_, j) => l.size - j | none => 0
def Lg.room (l : Lg) : Nat := l.left + (l.gens.filter (· == 0)).length * l.size
def Lg.headI (l : Lg) : Int := match l.h with | some (s, _) => s | none => -1
def Lg.slotI (l : Lg) : Int := match l.h with | some (_, j) => j | none => 0
def Lg.new (segs size : Nat) : Lg := ⟨size, List.replicate segs 0, 0, none⟩
/-- A segment is free from now on. -/
def Lg.free (l : Lg) (k : Nat) : Lg := { l with gens := l.gens.set k 0 }
def Lg.freeE (l : Lg) (k : Int) : Int :=
  if k < 0 ∨ (l.gens.length : Int) ≤ k then 2 else if l.gens.getD k.toNat 0 = 0 then 7 else if l.headI = k then 12 else 0
/-- What is so of every log: the head is a segment, and it has as many slots left as it has, or fewer; it is used. -/
structure Lg.Fine (l : Lg) : Prop where
  head : ∀ s j, l.h = some (s, j) → s < l.gens.length ∧ j ≤ l.size ∧ 0 < j ∧ l.gens.getD s 0 ≠ 0
  le : ∀ g ∈ l.gens, g ≤ l.last
theorem freeK_lt {gens : List Nat} {k : Nat} (h : freeK gens = some k) : k < gens.length ∧ gens.getD k 0 = 0 := by
  unfold freeK at h
  rw [List.findIdx?_eq_some_iff_getElem] at h
  obtain ⟨h1, h2, _⟩ := h
  refine ⟨h1, ?_⟩
  rw [List.getD_eq_getElem?_getD, List.getElem?_eq_getElem h1]
  simpa using h2
theorem freeK_some {gens : List Nat} {k : Nat} (hk : k < gens.length) (h0 : gens.getD k 0 = 0) (hb : ∀ j, j < k → gens.getD j 0 ≠ 0) : freeK gens = some k := by
  unfold freeK
  rw [List.findIdx?_eq_some_iff_getElem]
  refine ⟨hk, ?_, fun j hj => ?_⟩
  · rw [List.getD_eq_getElem?_getD, List.getElem?_eq_getElem hk] at h0
    simpa using h0
  · have := hb j hj
    rw [List.getD_eq_getElem?_getD, List.getElem?_eq_getElem (by omega)] at this
    simpa using this
theorem freeK_none {gens : List Nat} (hb : ∀ j, j < gens.length → gens.getD j 0 ≠ 0) : freeK gens = none := by
  unfold freeK
  rw [List.findIdx?_eq_none_iff]
  intro x hx
  obtain ⟨j, hj, rfl⟩ := List.mem_iff_getElem.1 hx
  have := hb j hj
  rw [List.getD_eq_getElem?_getD, List.getElem?_eq_getElem hj] at this
  simpa using this
/-- As a number: -1 where there is none. -/
def freeI (gens : List Nat) : Int := match freeK gens with | some k => (k : Int) | none => -1
theorem Lg.next_lt {l : Lg} (hf : l.Fine) {p : Nat × Nat × Nat} (h : l.next = some p) (h0 : 0 < l.size) : p.1 < l.gens.length ∧ p.2.1 < l.size ∧ 0 < p.2.2 := by
  have new : (freeK l.gens).map (fun k => (k, 0, l.last + 1)) = some p → p.1 < l.gens.length ∧ p.2.1 < l.size ∧ 0 < p.2.2 := by
    intro h
    cases hk : freeK l.gens with
    | none => rw [hk] at h; cases h
    | some k =>
      rw [hk] at h
      simp only [Option.map_some, Option.some.injEq] at h
      subst h
      exact ⟨(freeK_lt hk).1, h0, Nat.succ_pos _⟩
  unfold Lg.next at h
  split at h
  · rename_i s j hh
    split at h
    · rename_i hj
      simp only [Option.some.injEq] at h
      subst h
      obtain ⟨h1, _, _, h4⟩ := hf.head s j hh
      exact ⟨h1, hj, Nat.pos_of_ne_zero h4⟩
    · exact new h
  · exact new h
theorem Lg.put_fine {l : Lg} (hf : l.Fine) {p : Nat × Nat × Nat} (h : l.next = some p) (h0 : 0 < l.size) : (l.put p).Fine := by
  obtain ⟨h1, h2, h3⟩ := Lg.next_lt hf h h0
  constructor
  · intro s j hh
    simp only [Lg.put, Option.some.injEq, Prod.mk.injEq] at hh
    obtain ⟨rfl, rfl⟩ := hh
    refine ⟨by simp only [Lg.put, List.length_set]; exact h1, h2, Nat.succ_pos _, ?_⟩
    simp only [Lg.put, List.getD_eq_getElem?_getD, List.getElem?_set_self h1, Option.getD_some]
    omega
  · intro g hg
    simp only [Lg.put] at hg ⊢
    rcases List.mem_or_eq_of_mem_set hg with h4 | rfl
    · exact Nat.le_trans (hf.le g h4) (Nat.le_max_left _ _)
    · exact Nat.le_max_right _ _
theorem Lg.free_fine {l : Lg} (hf : l.Fine) {k : Int} (hk : l.freeE k = 0) : (l.free k.toNat).Fine := by
  constructor
  · intro s j hh
    obtain ⟨h1, h2, h3, h4⟩ := hf.head s j hh
    refine ⟨by simp only [Lg.free, List.length_set]; exact h1, h2, h3, ?_⟩
    have hne : k.toNat ≠ s := by
      intro e
      unfold Lg.freeE at hk
      split at hk
      · omega
      · split at hk
        · omega
        · split at hk
          · omega
          · rename_i a b c
            apply c
            rw [Lg.headI, show l.h = some (s, j) from hh]
            show (s : Int) = k
            omega
    simp only [Lg.free, List.getD_eq_getElem?_getD, List.getElem?_set_ne hne]
    simpa [List.getD_eq_getElem?_getD] using h4
  · intro g hg
    simp only [Lg.free] at hg ⊢
    rcases List.mem_or_eq_of_mem_set hg with h4 | rfl
    · exact hf.le g h4
    · exact Nat.zero_le _
theorem Lg.new_fine (segs size : Nat) : (Lg.new segs size).Fine :=
  by
  refine ⟨fun s j h => ?_, fun g hg => ?_⟩
  · have h' : (none : Option (Nat × Nat)) = some (s, j) := h
    cases h'
  · have h2 := (List.mem_replicate.1 (show g ∈ List.replicate segs 0 from hg)).2
    rw [h2]; exact Nat.zero_le _
/-! ### What is found -/
section
variable (f : List UInt8 → List UInt8 → List UInt8)
/-- What a list of sectors has at a place: the generation and the body, if it is a sealed sector of it. -/
def seenA (L : List (List UInt8)) (k : Nat) : Option (Nat × List UInt8) := if okS f k (L.getD k zeroS) then some (genS (L.getD k zeroS), bodyS (L.getD k zeroS)) else none
/-- Which sector of a place stands: the one with the greatest generation, of two alike the first one's. -/
def bestS (L0 L1 : List (List UInt8)) (k : Nat) : Option (List UInt8) :=
  if okS f k (L0.getD k zeroS) then (if okS f k (L1.getD k zeroS) && decide (genS (L0.getD k zeroS) < genS (L1.getD k zeroS)) then some (L1.getD k zeroS) else some (L0.getD k zeroS))
  else if okS f k (L1.getD k zeroS) then some (L1.getD k zeroS) else none
/-- What is found at a place. -/
def foundAt (L0 L1 : List (List UInt8)) (k : Nat) : Option (Nat × Nat × List UInt8) := (bestS f L0 L1 k).map fun s => (k, genS s, bodyS s)
/-- All that is found, in the order of the places from 2 up to N. -/
def baseF (L0 L1 : List (List UInt8)) (N : Nat) : List (Nat × Nat × List UInt8) := (List.range (N - 2)).filterMap fun i => foundAt f L0 L1 (i + 2)
/-- The one list, behind what was found was chosen, up to the place N. -/
def chosen (L0 L1 L : List (List UInt8)) : Nat → List (List UInt8)
  | 0 => L
  | k + 1 => match bestS f L0 L1 (k + 2) with
    | some s => (chosen L0 L1 L k).set (k + 2) s
    | none => chosen L0 L1 L k
theorem chosen_length (L0 L1 L : List (List UInt8)) (k : Nat) : (chosen f L0 L1 L k).length = L.length := by
  induction k with
  | zero => rfl
  | succ k ih =>
    rw [chosen]; split
    · rw [List.length_set]; exact ih
    · exact ih
/-- What stands there then. -/
theorem chosen_at (L0 L1 L : List (List UInt8)) {N j : Nat} (hN : N + 2 ≤ L.length) : (chosen f L0 L1 L N).getD j zeroS = if 2 ≤ j ∧ j < N + 2 then (bestS f L0 L1 j).getD (L.getD j zeroS) else L.getD j zeroS := by
  induction N with
  | zero => rw [chosen, if_neg (by omega)]
  | succ k ih =>
    have ih := ih (by omega)
    rw [chosen]
    by_cases hj : j = k + 2
    · subst hj
      rw [if_pos (by omega)]
      split
      · rename_i s hs
        rw [hs, List.getD_eq_getElem?_getD, List.getElem?_set_self (by rw [chosen_length]; omega)]; rfl
      · rename_i hs
        rw [hs, ih, if_neg (by omega)]; rfl
    · have e : (2 ≤ j ∧ j < k + 1 + 2) ↔ (2 ≤ j ∧ j < k + 2) := by omega
      split
      · rw [List.getD_eq_getElem?_getD, List.getElem?_set_ne (by omega), ← List.getD_eq_getElem?_getD, ih]
        simp only [e]
      · rw [ih]; simp only [e]
theorem best_ok {L0 L1 : List (List UInt8)} {k : Nat} {s : List UInt8} (h : bestS f L0 L1 k = some s) : okS f k s = true ∧ (s = L0.getD k zeroS ∨ s = L1.getD k zeroS) := by
  unfold bestS at h
  split at h
  · rename_i h0
    split at h
    · rename_i h1
      simp only [Option.some.injEq] at h; subst h
      exact ⟨(Bool.and_eq_true _ _ ▸ h1).1, .inr rfl⟩
    · simp only [Option.some.injEq] at h; subst h
      exact ⟨h0, .inl rfl⟩
  · split at h
    · rename_i h1
      simp only [Option.some.injEq] at h; subst h
      exact ⟨h1, .inr rfl⟩
    · cases h
theorem best_none {L0 L1 : List (List UInt8)} {k : Nat} (h : bestS f L0 L1 k = none) : okS f k (L0.getD k zeroS) = false ∧ okS f k (L1.getD k zeroS) = false := by
  unfold bestS at h
  split at h
  · split at h <;> cases h
  · rename_i h0
    split at h
    · cases h
    · rename_i h1
      exact ⟨by simpa using h0, by simpa using h1⟩
/-- Of one list. -/
theorem best_same {L : List (List UInt8)} {k : Nat} : bestS f L L k = if okS f k (L.getD k zeroS) then some (L.getD k zeroS) else none := by
  unfold bestS
  split
  · rename_i h
    rw [show decide (genS (L.getD k zeroS) < genS (L.getD k zeroS)) = false from decide_eq_false (Nat.lt_irrefl _), Bool.and_false]; rfl
  · rfl
/-- A second look finds the same. -/
theorem best_again (L0 L1 : List (List UInt8)) {N j : Nat} (h0 : N + 2 ≤ L0.length) (h1 : N + 2 ≤ L1.length) (hj : 2 ≤ j ∧ j < N + 2) : bestS f (chosen f L0 L1 L0 N) (chosen f L0 L1 L1 N) j = bestS f L0 L1 j := by
  cases hb : bestS f L0 L1 j with
  | some s =>
    have e0 : (chosen f L0 L1 L0 N).getD j zeroS = s := by rw [chosen_at f L0 L1 L0 h0, if_pos hj, hb]; rfl
    have e1 : (chosen f L0 L1 L1 N).getD j zeroS = s := by rw [chosen_at f L0 L1 L1 h1, if_pos hj, hb]; rfl
    unfold bestS
    rw [e0, e1, (best_ok f hb).1, if_pos rfl, show decide (genS s < genS s) = false from decide_eq_false (Nat.lt_irrefl _), Bool.and_false]; rfl
  | none =>
    have e0 : (chosen f L0 L1 L0 N).getD j zeroS = L0.getD j zeroS := by rw [chosen_at f L0 L1 L0 h0, if_pos hj, hb]; rfl
    have e1 : (chosen f L0 L1 L1 N).getD j zeroS = L1.getD j zeroS := by rw [chosen_at f L0 L1 L1 h1, if_pos hj, hb]; rfl
    obtain ⟨n0, n1⟩ := best_none f hb
    unfold bestS
    rw [e0, e1, n0, n1]; rfl
theorem fm_congr {α β : Type} {l : List α} {g h : α → Option β} (e : ∀ a ∈ l, g a = h a) : l.filterMap g = l.filterMap h := by
  induction l with
  | nil => rfl
  | cons a l ih =>
    rw [List.filterMap_cons, List.filterMap_cons, e a (by simp), ih (fun b hb => e b (by simp [hb]))]
theorem base_again (L0 L1 : List (List UInt8)) {N : Nat} (h0 : N + 2 ≤ L0.length) (h1 : N + 2 ≤ L1.length) : baseF f (chosen f L0 L1 L0 N) (chosen f L0 L1 L1 N) (N + 2) = baseF f L0 L1 (N + 2) := by
  unfold baseF
  refine fm_congr fun i hi => ?_
  have hi := List.mem_range.1 hi
  rw [foundAt, foundAt, best_again f L0 L1 h0 h1 (by omega)]
end
/-! ### What a log knows of what is found -/
/-- What is found at a place, taken in, in the order of the places. -/
def Lg.learn (l : Lg) (x : Nat × Nat × List UInt8) : Lg :=
  ⟨l.size, l.gens.set ((x.1 - 2) / l.size) (max (l.gens.getD ((x.1 - 2) / l.size) 0) x.2.1), max l.last x.2.1,
    if l.last < x.2.1 ∨ (l.last = x.2.1 ∧ l.h.map (·.1) = some ((x.1 - 2) / l.size)) then some ((x.1 - 2) / l.size, (x.1 - 2) % l.size + 1) else l.h⟩
def lgOf (segs size : Nat) (base : List (Nat × Nat × List UInt8)) : Lg := base.foldl Lg.learn (Lg.new segs size)
/-- The order of what is found: by its generation, and, of one generation, by its place. -/
def ltF (x y : Nat × Nat × List UInt8) : Prop := x.2.1 < y.2.1 ∨ (x.2.1 = y.2.1 ∧ x.1 < y.1)
end Go.Proofs.YtnplhagfmfggcaaGreat.Lo
/-
  What newest tells: of what both devices have at a place, the sealed sector with the greatest generation, and what is found in it.
-/
namespace Go.Proofs.YtnplhagfmfggcaaGreat.Lo
open Go.RowKit Go.Maps Kd Mi Sx Sg
attribute [local go_sem ↓] Go.wp_at_zero Go.wp_at_succ
/-- Which of some sectors is found: the one with the greatest generation, of two alike the first one. -/
def gtO (o : Option (List UInt8)) (y : List UInt8) : Bool := match o with | none => true | some x => decide (genS x < genS y)
def pickT (f : List UInt8 → List UInt8 → List UInt8) (a : Int) (o : Option (List UInt8)) (y : List UInt8) : Option (List UInt8) :=
  if okS f a y && gtO o y then some y else o
def pickL (f : List UInt8 → List UInt8 → List UInt8) (a : Int) (L : List (List UInt8)) : Option (List UInt8) := L.foldl (pickT f a) none
theorem pickL_take {f : List UInt8 → List UInt8 → List UInt8} {a : Int} {L : List (List UInt8)} {k : Nat} (hk : k < L.length) : pickL f a (L.take (k + 1)) = pickT f a (pickL f a (L.take k)) (L.getD k zeroS) := by
  rw [pickL, List.take_succ_eq_append_getElem hk, List.foldl_append, List.getD_eq_getElem?_getD, List.getElem?_eq_getElem hk]; rfl
theorem pickL_ok {f : List UInt8 → List UInt8 → List UInt8} {a : Int} {L : List (List UInt8)} {y : List UInt8} (h : pickL f a L = some y) : okS f a y = true ∧ y ∈ L := by
  have go : ∀ (L : List (List UInt8)) (o : Option (List UInt8)), L.foldl (pickT f a) o = some y → o = some y ∨ (okS f a y = true ∧ y ∈ L) := by
    intro L
    induction L with
    | nil => exact fun o h => .inl h
    | cons x L ih =>
      intro o h
      rcases ih _ h with h1 | ⟨h1, h2⟩
      · by_cases hc : (okS f a x && gtO o x) = true
        · rw [pickT, if_pos hc] at h1
          injection h1 with h1
          subst h1
          exact .inr ⟨(Bool.and_eq_true _ _ ▸ hc).1, List.mem_cons_self ..⟩
        · rw [pickT, if_neg hc] at h1
          exact .inl h1
      · exact .inr ⟨h1, List.mem_cons_of_mem _ h2⟩
  exact (go L none h).resolve_left (by simp)
def faO (a : Int) (o : Option (List UInt8)) : Int := if o.isSome then a else 0
def fgO (o : Option (List UInt8)) : Nat := match o with | none => 0 | some y => genS y
def fbO (o : Option (List UInt8)) : List UInt8 := match o with | none => [] | some y => bodyS y
def fsO (o : Option (List UInt8)) : List UInt8 := o.getD zeroS
/-- It returns what is found, its sealed sector, and whether there is one; the body in new memory. -/
def RetNw (a : Int) (o : Option (List UInt8)) (w : World) (e : Ending) (w' : World) : Prop :=
  ∃ A n c, e = .returned (.tuple #[.agg #[.int .i64 (faO a o), .int .u64 (fgO o : Int), .slice A n c], .agg (bva (fsO o)), .bool o.isSome]) ∧
    w'.ownsRow w.heap.size 5 1 (.slice A n c) n (bv (fbO o)) ∧ Below w.heap.size w w'
theorem results_ccs {P : Program} {fn : Func} {x y z : Tmp} {t u : TypeId} (h : fn.results = #[.cell x t, .cell y u, .tmp z]) (tmps : Array Value) (w : World) (g g' : Nat) (cs cs' : Array Value) {d d' : TypeDesc}
    (hp : tmps.getD x undef = .pointer (some ⟨g, 0, none⟩)) (hq : tmps.getD y undef = .pointer (some ⟨g', 0, none⟩)) (hg : Blk w g cs t) (hg' : Blk w g' cs' u)
    (hu : P.underlying t = some d) (hd : (match d with | .struct _ | .array _ _ => true | _ => false) = true) (hi : (P.info? t).map (·.size) = some cs.size)
    (hu' : P.underlying u = some d') (hd' : (match d' with | .struct _ | .array _ _ => true | _ => false) = true) (hi' : (P.info? u).map (·.size) = some cs'.size) :
    (results fn tmps).run P w = .ok (.tuple #[.agg cs, .agg cs', tmps.getD z undef]) w := by
  have hp' : tmps[x]?.getD undef = .pointer (some ⟨g, 0, none⟩) := by simpa using hp
  have hq' : tmps[y]?.getD undef = .pointer (some ⟨g', 0, none⟩) := by simpa using hq
  simp [results, h, hp', hq', asAddr, run_loadVar_row w g t t cs (0, 0) d hg hu hd hi, run_loadVar_row w g' u u cs' (0, 0) d' hg' hu' hd' hi']
section
variable {C : Duo} {G : Gd} {g q bm : Nat} {ci : SCiph} {w w' : World} {s s' : Mr C} {r r' : Rl} {F1 F2 F5 F T : Nat → Prop}
def nwC (a : Int) (o : Option (List UInt8)) (A : Option Addr) (n c : Nat) : Array Value := #[.int .i64 (faO a o), .int .u64 (fgO o : Int), .slice A n c]
set_option maxRecDepth 100000 in
set_option maxHeartbeats 6400000 in
theorem newest_any (h : (LogR C G g q ci).At w (s, r) F) (k : Int) : Calls Tryz.prog 57 #[.pointer (some ⟨q, 0, none⟩), .int .i64 k] w (RetNw k (pickL ci.f k (bothL G s k)) w) := by
  obtain ⟨F1, F2, hm, ⟨bm, ho, hq, hbm, h3⟩, hd, hF⟩ := h
  have ho : RlO g q bm ci w r := ho
  have hm : (ML C G g).At w s F1 := hm
  have HBO := Lib.hid (fun W (h : (ML C G g).At W s F1) => both_any h k)
  have HO := Lib.hid ho
  have HM := Lib.hid hm
  have HL3 := Lib.hid (show ∀ x ∈ bothL G s k, x.length = 128 by
    intro x hx
    unfold bothL at hx
    split at hx
    · exact bothTo_len hm k 2 (Nat.le_refl _) x hx
    · cases hx)
  obtain ⟨L, hL⟩ : ∃ L, L = bothL G s k := ⟨_, rfl⟩
  rw [← hL] at HBO HL3
  rw [← hL]
  obtain ⟨z, hz0⟩ : ∃ z : List UInt8, z = zeroS := ⟨_, rfl⟩
  have hz : ∀ W, (zeroValue 101).run Tryz.prog W = .ok (.agg (bva z)) W := fun _ => by rw [hz0]; kernel_rfl
  have hzf : ∀ W, (zeroValue 57).run Tryz.prog W = .ok (.agg #[.int .i64 0, .int .u64 0, .slice none 0 0]) W := fun _ => by kernel_rfl
  have HZ3 := Lib.hid (show z.length = 128 by rw [hz0]; exact zeroS_length)
  have HQ := Lib.hid (show ¬ w.heap.size ≤ q ∧ ¬ w.heap.size ≤ bm by have := ho.lt; omega)
  have HIS := Lib.hid (show ∀ y : List UInt8, y.length = 128 → (Tryz.prog.info? 101).map (·.size) = some (bva y).size from fun y hy => by rw [bva_size, hy]; exact info_sec)
  have HZZ := Lib.hid hz0
  clear ho hm hq hbm h3 hd hF hL hz0
  go_enter Tryz.func57, Tryz.ntmps57
  go_upto_region 1 with fail
  obtain ⟨w1, hw1⟩ : ∃ W, W = (w.alloc (.cells #[.int .i64 0, .int .u64 0, .slice none 0 0] 57)).alloc (.cells (bva z) 101) := ⟨_, rfl⟩
  rw [← hw1]
  obtain ⟨b4, hb4⟩ : ∃ b, b = w.heap.size := ⟨_, rfl⟩
  have BW1 := Lib.hid (show Below w.heap.size w w1 by rw [hw1]; exact ((Below.refl _ _).alloc (Nat.le_refl _) _).alloc (by simp) _)
  have S1 := Lib.hid (show w1.heap.size = b4 + 2 by rw [hw1, hb4]; simp)
  have X4 := Lib.hid (show Blk w1 b4 (nwC k none none 0 0) 57 by rw [hw1, hb4]; exact (show Blk (w.alloc _) w.heap.size _ 57 from heap_alloc_new _ _).below ((Below.refl _ _).alloc (Nat.le_refl _) _))
  have X5 := Lib.hid (show Blk w1 (b4 + 1) (bva (fsO none)) 101 by rw [hw1, hb4, show fsO none = z from HZZ.out.symm]; exact heap_alloc2_new _ _ _)
  have O1 := Lib.hid (HO.out.below BW1.out)
  have M1 := Lib.hid ((ML C G g).below HM.out BW1.out)
  have HB4 := Lib.hid hb4
  rw [← hb4]
  clear hw1 hb4 HO HM
  have c0 : w1.cell? ⟨q, 0, none⟩ = some (.pointer (some ⟨g, 0, none⟩)) := O1.out.blk.cell 0
  go_wp2_with fail
  refine (HBO.out _ M1.out).mono ?_
  rintro e w2 ⟨AL, n, cL, rfl, hln, hown, bw⟩
  have OL2 := Lib.hid (show w2.ownsRow (b4 + 2) 101 128 (.slice AL n cL) n (svs L) by rw [← S1.out]; exact hown)
  have HN := Lib.hid (show L.length = n ∧ n ≤ 9223372036854775807 by
    have hc := own_cap hown
    unfold maxLen at hc
    exact ⟨hln, by omega⟩)
  have BW2 := Lib.hid (BW1.out.trans (bw.mono BW1.out.size))
  have X42 := Lib.hid (X4.out.below bw)
  have X52 := Lib.hid (X5.out.below bw)
  have O2 := Lib.hid (O1.out.below bw)
  clear hown bw hln c0 X4 X5 O1 M1 HBO BW1
  go_wp2_with fail
  go_loopw [6, 19] (fun x i wr => ∃ p : Nat, p ≤ n ∧ i = .int .i64 p ∧ x = .bool (pickL ci.f k (L.take p)).isSome ∧ ∃ A nb cb, Hid (Blk wr b4 (nwC k (pickL ci.f k (L.take p)) A nb cb) 57) ∧ Hid (Blk wr (b4 + 1) (bva (fsO (pickL ci.f k (L.take p)))) 101) ∧
    Hid (wr.ownsRow (b4 + 2) 5 1 (.slice A nb cb) nb (bv (fbO (pickL ci.f k (L.take p))))) ∧ Hid (wr.ownsRow (b4 + 2) 101 128 (.slice AL n cL) n (svs L)) ∧ Hid (Below w.heap.size w wr) ∧ Hid (RlO g q bm ci wr r)) (fun _ i _ => n - (intOf i).toNat)
  case atStart => exact ⟨0, Nat.zero_le _, rfl, rfl, none, 0, 0, X42, X52, Lib.hid (World.ownsRow_nil _ _ _ _), OL2, BW2, O2⟩
  case round =>
    obtain ⟨p, hp, rfl, rfl, A, nb, cb, Y4, Y5, OB, OL, BR, OR⟩ := hrel
    obtain ⟨o, ho⟩ : ∃ o, o = pickL ci.f k (L.take p) := ⟨_, rfl⟩
    rw [← ho] at Y4 Y5 OB
    rw [← ho]
    have HFS := Lib.hid (show (fsO o).length = 128 by
      cases hx : o with
      | none => exact zeroS_length
      | some x => exact HL3.out x (List.mem_of_mem_take (pickL_ok (ho.symm.trans hx)).2))
    have HP := Lib.hid hp
    have HOE := Lib.hid ho
    by_cases hlt : p < n
    · have HLT := Lib.hid hlt
      have j0 : (0 : Int) ≤ (p : Int) := by omega
      have j1 : (p : Int) < (n : Int) := by omega
      have wp1 : IntKind.i64.wrap ((p : Int) + 1) = ((p + 1 : Nat) : Int) := IntWalk.i64_in _ (by have := HN.out.2; omega)
      have hpl : p < L.length := by rw [HN.out.1]; exact hlt
      obtain ⟨ad, hA1, _, hcell⟩ := rd_sec (Rd.ownN OL.out) HL3.out hpl
      subst hA1
      obtain ⟨y, hy⟩ : ∃ y, y = L[p] := ⟨_, rfl⟩
      rw [← hy] at hcell
      have HY3 := Lib.hid (show y.length = 128 by rw [hy]; exact HL3.out _ (List.getElem_mem hpl))
      have HIY := Lib.hid (HIS.out y HY3.out)
      have HIYv := Lib.hid (show (Tryz.prog.info? 101).map (·.size) = some (bv y).length by rw [bv_length, HY3.out]; exact info_sec)
      have HCE := Lib.hid hcell
      have HT := Lib.hid (show pickL ci.f k (L.take (p + 1)) = pickT ci.f k o y by rw [pickL_take hpl, List.getD_eq_getElem?_getD, List.getElem?_eq_getElem hpl, ← hy, ho]; rfl)
      obtain ⟨ok, hok⟩ : ∃ x, x = okS ci.f k y := ⟨_, rfl⟩
      obtain ⟨us, hus2⟩ : ∃ x, x = unpackS ci.f k y := ⟨_, rfl⟩
      have HUS2 := Lib.hid (show us = if ok then (genS y, bodyS y) else (0, []) by rw [hus2, unpackS, hok])
      have hup := fun W => unpack_any ci k y HY3.out W
      simp only [← hus2, ← hok] at hup
      obtain ⟨u1, hu1⟩ : ∃ x, x = us.1 := ⟨_, rfl⟩
      obtain ⟨u2, hu2⟩ : ∃ x, x = us.2 := ⟨_, rfl⟩
      rw [← hu1, ← hu2] at hup
      have HUE := Lib.hid (And.intro hu1 hu2)
      have HUP := Lib.hid hup
      have HOK := Lib.hid hok
      clear hp ho hlt hpl hcell hy hok hus2 hup hu1 hu2
      go_wp2_with (first | (refine wpList_load_at rfl 101 (.tmp 21) rfl (ad.add (p * 128)) rfl HCE.out Tryz.underlying101 rfl HIYv.out ?_; change wpList _ _ _ _ (Act.put _ _ (.agg (bva y))) _) | (show wpList _ _ _ ({ dst := none, op := .store 101 (.tmp 8) (.tmp 22), type := _, pos := _, after := _, guard := _ } :: _) _ _; apply Classical.byContradiction; intro hneg))
      refine hneg ?_
      clear hneg
      refine wpList_store_row rfl 101 (.tmp 8) (.tmp 22) rfl wr.heap.size (bva y) rfl rfl 101 (bva z) (heap_alloc_new _ _) HIY.out (by rw [bva_size, bva_size, HY3.out, HZ3.out]) (bva_one _) ?_
      obtain ⟨w4, hw4⟩ : ∃ w4, w4 = (wr.alloc (.cells (bva z) 101)).setRow wr.heap.size (bva y) := ⟨_, rfl⟩
      have bw : Below wr.heap.size wr w4 := by rw [hw4]; exact below_setRow ((Below.refl _ _).alloc (Nat.le_refl _) _) (Nat.le_refl _) _
      have Y8 := Lib.hid (show Blk w4 wr.heap.size (bva y) 101 by rw [hw4]; exact setRow_heap _ _ _ _ _ _ (heap_alloc_new _ _))
      have Y44 := Lib.hid (Y4.out.below bw)
      have Y54 := Lib.hid (Y5.out.below bw)
      have OB4 := Lib.hid (own_below OB.out bw)
      have OL4 := Lib.hid (own_belowN OL.out bw)
      have BR4 := Lib.hid (BR.out.trans (bw.mono BR.out.size))
      have OR4 := Lib.hid (OR.out.below bw)
      rw [← hw4]
      have hb8 : b4 + 2 ≤ wr.heap.size := by have := Y5.out.lt; omega
      obtain ⟨b8, hb8'⟩ : ∃ b, b = wr.heap.size := ⟨_, rfl⟩
      rw [← hb8'] at Y8 hb8
      rw [← hb8']
      have HB8 := Lib.hid hb8
      clear hw4 bw Y4 Y5 OB OL BR OR hb8 hb8'
      go_wp2_with fail
      refine wp_region_held_drew (S := (fun w' => Blk w' q (rwC g ci bm r) 106 ∧ Blk w' b8 (bva y) 101)) (by kernel_rfl) ⟨OR4.out.drew.blk, Y8.out⟩ (fun hh => ?_)
      have HH := Lib.hid hh
      clear hh
      refine wpAnyH_take (i := 0) (v := ?vw0) rfl (by kernel_rfl) (by kernel_rfl) (by kernel_rfl) (fun _ _ _ h => h) (Or.inl ⟨by rfl, fun w' _ => ?yw0⟩) HH.out ?_
      case yw0 => (go_simp; try with_reducible rfl)
      refine wpAnyH_take (i := 1) (v := ?vw1) rfl (by kernel_rfl) (by kernel_rfl) (by kernel_rfl) (fun _ _ _ h => h) (Or.inl ⟨by rfl, fun w' _ => ?yw1⟩) HH.out ?_
      case yw1 => (go_simp; try with_reducible rfl)
      try simp only [List.getElem_toArray, List.getElem_cons_succ, List.getElem_cons_zero, Act.put, List.setIfInBounds_toArray, List.set_cons_zero, List.set_cons_succ]
      refine wpAnyH_take (i := 2) (v := ?vw2) rfl (by kernel_rfl) (by kernel_rfl) (by kernel_rfl) (fun _ _ _ h => h) (Or.inl ⟨by rfl, fun w' _ => ?yw2⟩) HH.out ?_
      case yw2 => (go_simp; try with_reducible rfl)
      refine wpAnyH_take (i := 3) (v := ci.v) rfl (by kernel_rfl) (by kernel_rfl) (by kernel_rfl) (fun _ _ _ h => h) (Or.inl ⟨by rfl, fun w' hw' => ?lw3⟩) HH.out ?_
      case lw3 => (have hc : w'.cell? ⟨q, 1, none⟩ = some ci.v := hw'.1.cell 1; go_simp; try with_reducible rfl)
      try simp only [List.getElem_toArray, List.getElem_cons_succ, List.getElem_cons_zero, Act.put, List.setIfInBounds_toArray, List.set_cons_zero, List.set_cons_succ]
      refine wpAnyH_take (i := 4) (v := ?vw4) rfl (by kernel_rfl) (by kernel_rfl) (by kernel_rfl) (fun _ _ _ h => h) (Or.inl ⟨by rfl, fun w' _ => ?yw4⟩) HH.out ?_
      case yw4 => (go_simp; try with_reducible rfl)
      try simp only [List.getElem_toArray, List.getElem_cons_succ, List.getElem_cons_zero, Act.put, List.setIfInBounds_toArray, List.set_cons_zero, List.set_cons_succ]
      refine wpAnyH_take (i := 5) (v := .agg (bva y)) rfl (by kernel_rfl) (by kernel_rfl) (by kernel_rfl) (fun _ _ _ h => h) (Or.inl ⟨by rfl, fun w' hw' => ?yw5⟩) HH.out ?_
      case yw5 => exact exec_load 101 (.tmp 8) rfl rfl hw'.2 Tryz.underlying101 rfl HIY.out
      try simp only [List.getElem_toArray, List.getElem_cons_succ, List.getElem_cons_zero, Act.put, List.setIfInBounds_toArray, List.set_cons_zero, List.set_cons_succ]
      refine wpAnyH_ready (rs := [6]) (by kernel_rfl) (by simp) (AllReadyH.cons rfl (fun K hK => ?_) AllReadyH.nil)
      go_simp
      refine (HUP.out _).mono ?_
      rintro e w5 ⟨Ab, nu, cu, rfl, hown, bw0⟩
      have bw := (Below.refl w4.heap.size w4).drew.trans bw0
      have Y45 := Lib.hid (Y44.out.below bw)
      have Y55 := Lib.hid (Y54.out.below bw)
      have Y85 := Lib.hid (Y8.out.below bw)
      have OB5 := Lib.hid (own_below OB4.out bw)
      have OL5 := Lib.hid (own_belowN OL4.out bw)
      have BR5 := Lib.hid (BR4.out.trans (bw.mono BR4.out.size))
      have OR5 := Lib.hid (OR4.out.below bw)
      have OU := Lib.hid (show w5.ownsRow (b4 + 2) 5 1 (.slice Ab nu cu) nu (bv u2) from own_more hown (show b4 + 2 ≤ w4.heap.size by have := Y54.out.lt; omega))
      clear hown bw bw0
      go_simp
      refine hK.out _ _ ⟨OR5.out.blk, Y85.out⟩ (fun hh => ?_)
      have HH' := Lib.hid hh
      clear hh hK K HH Y44 Y54 Y8 OB4 OL4 BR4 OR4
      have HH := Lib.hid HH'.out
      clear HH'
      refine wpAnyH_take (i := 7) (v := ?vw7) rfl (by kernel_rfl) (by kernel_rfl) (by kernel_rfl) (fun _ _ _ h => h) (Or.inl ⟨by rfl, fun w' _ => ?yw7⟩) HH.out ?_
      case yw7 => (go_simp; try with_reducible rfl)
      try simp only [List.getElem_toArray, List.getElem_cons_succ, List.getElem_cons_zero, Act.put, List.setIfInBounds_toArray, List.set_cons_zero, List.set_cons_succ]
      refine wpAnyH_take (i := 8) (v := ?vw8) rfl (by kernel_rfl) (by kernel_rfl) (by kernel_rfl) (fun _ _ _ h => h) (Or.inl ⟨by rfl, fun w' _ => ?yw8⟩) HH.out ?_
      case yw8 => (go_simp; try with_reducible rfl)
      refine wpAnyH_take (i := 9) (v := ?vw9) rfl (by kernel_rfl) (by kernel_rfl) (by kernel_rfl) (fun _ _ _ h => h) (Or.inl ⟨by rfl, fun w' _ => ?yw9⟩) HH.out ?_
      case yw9 => (go_simp; try with_reducible rfl)
      refine wpAnyH_take (i := 10) (v := ?vw10) rfl (by kernel_rfl) (by kernel_rfl) (by kernel_rfl) (fun _ _ _ h => h) (Or.inl ⟨by rfl, fun w' _ => ?yw10⟩) HH.out ?_
      case yw10 => (go_simp; try with_reducible rfl)
      try simp only [List.getElem_toArray, List.getElem_cons_succ, List.getElem_cons_zero, Act.put, List.setIfInBounds_toArray, List.set_cons_zero, List.set_cons_succ]
      refine wpAnyH_take (i := 11) (v := ?vw11) rfl (by kernel_rfl) (by kernel_rfl) (by kernel_rfl) (fun _ _ _ h => h) (Or.inl ⟨by rfl, fun w' _ => ?yw11⟩) HH.out ?_
      case yw11 => (go_simp; try with_reducible rfl)
      refine wpAnyH_take (i := 12) (v := ?vw12) rfl (by kernel_rfl) (by kernel_rfl) (by kernel_rfl) (fun _ _ _ h => h) (Or.inl ⟨by rfl, fun w' _ => ?yw12⟩) HH.out ?_
      case yw12 => (go_simp; try with_reducible rfl)
      refine wpAnyH_take (i := 13) (v := ?vw13) rfl (by kernel_rfl) (by kernel_rfl) (by kernel_rfl) (fun _ _ _ h => h) (Or.inl ⟨by rfl, fun w' _ => ?yw13⟩) HH.out ?_
      case yw13 => (go_simp; try with_reducible rfl)
      try simp only [List.getElem_toArray, List.getElem_cons_succ, List.getElem_cons_zero, Act.put, List.setIfInBounds_toArray, List.set_cons_zero, List.set_cons_succ]
      refine wpAnyH_done (by kernel_rfl) ?_ _
      clear HH HUP
      have HCY : w5.cell? ⟨b4, 1, none⟩ = some (.int .u64 (fgO o : Int)) := Y45.out.cell 1
      have goon : ∀ (A' : Option Addr) (nb' cb' : Nat) (w' : World) (o' : Option (List UInt8)), o' = pickT ci.f k o y → Blk w' b4 (nwC k o' A' nb' cb') 57 → Blk w' (b4 + 1) (bva (fsO o')) 101 → w'.ownsRow (b4 + 2) 5 1 (.slice A' nb' cb') nb' (bv (fbO o')) → w'.ownsRow (b4 + 2) 101 128 (.slice (some ad) n cL) n (svs L) → Below w.heap.size w w' → RlO g q bm ci w' r →
          ∃ p' : Nat, p' ≤ n ∧ Value.int .i64 ((p : Int) + 1) = .int .i64 p' ∧ Value.bool o'.isSome = .bool (pickL ci.f k (L.take p')).isSome ∧ ∃ A nb cb, Hid (Blk w' b4 (nwC k (pickL ci.f k (L.take p')) A nb cb) 57) ∧ Hid (Blk w' (b4 + 1) (bva (fsO (pickL ci.f k (L.take p')))) 101) ∧
            Hid (w'.ownsRow (b4 + 2) 5 1 (.slice A nb cb) nb (bv (fbO (pickL ci.f k (L.take p'))))) ∧ Hid (w'.ownsRow (b4 + 2) 101 128 (.slice (some ad) n cL) n (svs L)) ∧ Hid (Below w.heap.size w w') ∧ Hid (RlO g q bm ci w' r) := by
        intro A' nb' cb' w' o' h0 h1 h2 h3 h4 h5 h6
        refine ⟨p + 1, HLT.out, rfl, ?_⟩
        rw [HT.out, ← h0]
        exact ⟨rfl, A', nb', cb', Lib.hid h1, Lib.hid h2, Lib.hid h3, Lib.hid h4, Lib.hid h5, Lib.hid h6⟩
      have GO := Lib.hid goon
      clear goon
      cases ok with
      | false =>
        have hp0 : o = pickT ci.f k o y := by rw [pickT, ← HOK.out]; rfl
        have HP0 := Lib.hid hp0
        clear hp0
        go_wp2_with fail
        go_round
        case rel => exact (GO.out _ _ _ _ _ HP0.out Y45.out Y55.out OB5.out OL5.out BR5.out OR5.out)
        case measure => have := HLT.out; simp [intOf]; omega
      | true =>
        have e0 := HUS2.out
        rw [if_pos rfl] at e0
        have e1 : u1 = genS y := by rw [HUE.out.1, e0]
        have e2 : u2 = bodyS y := by rw [HUE.out.2, e0]
        have E12 := Lib.hid (And.intro e1 e2)
        clear e0 e1 e2
        have taken : gtO o y = true → some y = pickT ci.f k o y := fun h => by rw [pickT, ← HOK.out, h]; rfl
        have TK := Lib.hid taken
        clear taken
        by_cases hgt : gtO o y = true
        · have HG := Lib.hid (TK.out hgt)
          have hcond : o.isSome = false ∨ (o.isSome = true ∧ decide ((u1 : Int) > (fgO o : Int)) = true ∧ fgO o < u1) := by
            cases o with
            | none => exact .inl rfl
            | some x =>
              have h1 : genS x < genS y := of_decide_eq_true hgt
              have h2 : (fgO (some x) : Int) < (u1 : Int) := by rw [E12.out.1]; show ((genS x : Nat) : Int) < _; omega
              exact .inr ⟨rfl, decide_eq_true h2, by omega⟩
          obtain ⟨os, hos⟩ : ∃ b, b = o.isSome := ⟨_, rfl⟩
          obtain ⟨fg, hfg⟩ : ∃ b : Nat, b = fgO o := ⟨_, rfl⟩
          rw [← hos, ← hfg] at hcond
          rw [← hfg] at HCY
          rw [← hos]
          clear hgt hos hfg
          have HBLD := Lib.hid (show ∀ W, (Instr.build 57 #[(0, .int .i64 k), (1, .int .u64 (u1 : Int)), (2, .slice Ab nu cu)]).run Tryz.prog W = .ok (.agg (nwC k (some y) Ab nu cu)) W by
            intro W
            rw [show nwC k (some y) Ab nu cu = #[.int .i64 k, .int .u64 (u1 : Int), .slice Ab nu cu] by rw [E12.out.1]; rfl]
            kernel_rfl)
          rcases hcond with hc | ⟨hc, hd1, hd2⟩
          · subst hc
            go_wp2_with fail
            refine wp_region_held_drew (S := (fun w' => Blk w' b8 (bva y) 101)) (by kernel_rfl) Y85.out (fun hh => ?_)
            have HH := Lib.hid hh
            clear hh
            refine wpAnyH_take (i := 0) (v := ?vu0) rfl (by kernel_rfl) (by kernel_rfl) (by kernel_rfl) (fun _ _ _ h => h) (Or.inl ⟨by rfl, fun w' _ => ?yu0⟩) HH.out ?_
            case yu0 => (go_simp; try with_reducible rfl)
            refine wpAnyH_take (i := 1) (v := ?vu1) rfl (by kernel_rfl) (by kernel_rfl) (by kernel_rfl) (fun _ _ _ h => h) (Or.inl ⟨by rfl, fun w' _ => ?yu1⟩) HH.out ?_
            case yu1 => (go_simp; try with_reducible rfl)
            try simp only [List.getElem_toArray, List.getElem_cons_succ, List.getElem_cons_zero, Act.put, List.setIfInBounds_toArray, List.set_cons_zero, List.set_cons_succ]
            refine wpAnyH_take (i := 2) (v := ?vu2) rfl (by kernel_rfl) (by kernel_rfl) (by kernel_rfl) (fun _ _ _ h => h) (Or.inl ⟨by rfl, fun w' _ => ?yu2⟩) HH.out ?_
            case yu2 => (go_simp; try with_reducible rfl)
            refine wpAnyH_take (i := 3) (v := .agg (nwC k (some y) Ab nu cu)) rfl (by kernel_rfl) (by kernel_rfl) (by kernel_rfl) (fun _ _ _ h => h) (Or.inl ⟨by rfl, fun w' hw' => ?lb3⟩) HH.out ?_
            case lb3 => exact exec_build 57 #[(0, .tmp 45), (1, .tmp 46), (2, .tmp 47)] rfl (by simp only [List.map_toArray, List.map_cons, List.map_nil]; exact HBLD.out _)
            try simp only [List.getElem_toArray, List.getElem_cons_succ, List.getElem_cons_zero, Act.put, List.setIfInBounds_toArray, List.set_cons_zero, List.set_cons_succ]
            refine wpAnyH_take (i := 4) (v := .agg (bva y)) rfl (by kernel_rfl) (by kernel_rfl) (by kernel_rfl) (fun _ _ _ h => h) (Or.inl ⟨by rfl, fun w' hw' => ?yu4⟩) HH.out ?_
            case yu4 => exact exec_load 101 (.tmp 8) rfl rfl hw' Tryz.underlying101 rfl HIY.out
            try simp only [List.getElem_toArray, List.getElem_cons_succ, List.getElem_cons_zero, Act.put, List.setIfInBounds_toArray, List.set_cons_zero, List.set_cons_succ]
            refine wpAnyH_ready (rs := [5]) (by kernel_rfl) (by simp) (AllReadyH.cons rfl (fun K hK => ?_) AllReadyH.nil)
            rw [if_pos (by rfl)]
            refine wp_store_row 57 (.tmp 4) (.tmp 48) rfl b4 (nwC k (some y) Ab nu cu) rfl rfl 57 (nwC k o A nb cb) Y45.out (by rfl) (by rfl) (by simp [nwC, Value.oneCell']) ?_
            obtain ⟨w6, hw6⟩ : ∃ W, W = (World.drew w5).setRow b4 (nwC k (some y) Ab nu cu) := ⟨_, rfl⟩
            have b6 : But (fun k => k = b4) w5 w6 := by rw [hw6]; exact But.setRow (S := fun k => k = b4) (but_below (Below.refl _ _).drew) (Or.inl rfl) _
            have Y46 := Lib.hid (show Blk w6 b4 (nwC k (some y) Ab nu cu) 57 by rw [hw6]; exact setRow_heap _ _ _ _ _ _ Y45.out)
            have Y56 := Lib.hid (Y55.out.but b6 (by omega))
            have Y86 := Lib.hid (Y85.out.but b6 (by have := HB8.out; omega))
            have OU6 := Lib.hid (Own.but OU.out b6 (fun j hj e => by have := (OU.out.lt j hj).1; omega))
            have OL6 := Lib.hid (Own.but OL5.out b6 (fun j hj e => by have := (OL5.out.lt j hj).1; omega))
            have OR6 := Lib.hid (OR5.out.but b6 (fun e => HQ.out.1 (by rw [e, HB4.out]; exact Nat.le_refl _)) (fun e => HQ.out.2 (by rw [e, HB4.out]; exact Nat.le_refl _)))
            have BR6 := Lib.hid (BR5.out.trans (b6.below (B := w.heap.size) (fun j hj e => by have := HB4.out; omega) BR5.out.size))
            rw [← hw6]
            clear hw6 b6
            refine hK.out _ _ Y86.out (fun hh => ?_)
            have HH' := Lib.hid hh
            clear hh hK K HH
            have HH := Lib.hid HH'.out
            clear HH'
            try simp only [List.getElem_toArray, List.getElem_cons_succ, List.getElem_cons_zero, Act.put]
            refine wpAnyH_ready (rs := [6]) (by kernel_rfl) (by simp) (AllReadyH.cons rfl (fun K hK => ?_) AllReadyH.nil)
            rw [if_pos (by rfl)]
            refine wp_store_row 101 (.tmp 5) (.tmp 49) rfl (b4 + 1) (bva y) rfl rfl 101 (bva (fsO o)) Y56.out HIY.out (by rw [bva_size, bva_size, HY3.out, HFS.out]) (bva_one _) ?_
            obtain ⟨w7, hw7⟩ : ∃ W, W = w6.setRow (b4 + 1) (bva y) := ⟨_, rfl⟩
            have b7 : But (fun k => k = b4 + 1) w6 w7 := by rw [hw7]; exact But.setRow (S := fun k => k = b4 + 1) (But.refl _) (Or.inl rfl) _
            have Y47 := Lib.hid (Y46.out.but b7 (by omega))
            have Y57 := Lib.hid (show Blk w7 (b4 + 1) (bva (fsO (some y))) 101 by rw [hw7]; exact setRow_heap _ _ _ _ _ _ Y56.out)
            have Y87 := Lib.hid (Y86.out.but b7 (by have := HB8.out; omega))
            have OU7 := Lib.hid (Own.but OU6.out b7 (fun j hj e => by have := (OU6.out.lt j hj).1; omega))
            have OL7 := Lib.hid (Own.but OL6.out b7 (fun j hj e => by have := (OL6.out.lt j hj).1; omega))
            have OR7 := Lib.hid (OR6.out.but b7 (fun e => HQ.out.1 (by rw [e, HB4.out]; exact Nat.le_succ _)) (fun e => HQ.out.2 (by rw [e, HB4.out]; exact Nat.le_succ _)))
            have BR7 := Lib.hid (BR6.out.trans (b7.below (B := w.heap.size) (fun j hj e => by have := HB4.out; omega) BR6.out.size))
            rw [← hw7]
            clear hw7 b7
            refine hK.out _ _ Y87.out (fun hh => ?_)
            have HH' := Lib.hid hh
            clear hh hK K HH
            have HH := Lib.hid HH'.out
            clear HH'
            try simp only [List.getElem_toArray, List.getElem_cons_succ, List.getElem_cons_zero, Act.put]
            refine wpAnyH_take (i := 7) (v := ?vu7) rfl (by kernel_rfl) (by kernel_rfl) (by kernel_rfl) (fun _ _ _ h => h) (Or.inl ⟨by rfl, fun w' _ => ?yu7⟩) HH.out ?_
            case yu7 => (go_simp; try with_reducible rfl)
            try simp only [List.getElem_toArray, List.getElem_cons_succ, List.getElem_cons_zero, Act.put, List.setIfInBounds_toArray, List.set_cons_zero, List.set_cons_succ]
            refine wpAnyH_done (by kernel_rfl) ?_ _
            go_wp2_with fail
            go_round
            case rel => exact (GO.out _ _ _ _ _ HG.out Y47.out Y57.out (by rw [show fbO (some y) = u2 from E12.out.2.symm]; exact OU7.out) OL7.out BR7.out OR7.out)
            case measure => have := HLT.out; simp [intOf]; omega
          · subst hc
            go_wp2_with fail
            refine wp_region_held_drew (S := (fun w' => Blk w' b8 (bva y) 101)) (by kernel_rfl) Y85.out (fun hh => ?_)
            have HH := Lib.hid hh
            clear hh
            refine wpAnyH_take (i := 0) (v := ?vu0) rfl (by kernel_rfl) (by kernel_rfl) (by kernel_rfl) (fun _ _ _ h => h) (Or.inl ⟨by rfl, fun w' _ => ?yu0⟩) HH.out ?_
            case yu0 => (go_simp; try with_reducible rfl)
            refine wpAnyH_take (i := 1) (v := ?vu1) rfl (by kernel_rfl) (by kernel_rfl) (by kernel_rfl) (fun _ _ _ h => h) (Or.inl ⟨by rfl, fun w' _ => ?yu1⟩) HH.out ?_
            case yu1 => (go_simp; try with_reducible rfl)
            try simp only [List.getElem_toArray, List.getElem_cons_succ, List.getElem_cons_zero, Act.put, List.setIfInBounds_toArray, List.set_cons_zero, List.set_cons_succ]
            refine wpAnyH_take (i := 2) (v := ?vu2) rfl (by kernel_rfl) (by kernel_rfl) (by kernel_rfl) (fun _ _ _ h => h) (Or.inl ⟨by rfl, fun w' _ => ?yu2⟩) HH.out ?_
            case yu2 => (go_simp; try with_reducible rfl)
            refine wpAnyH_take (i := 3) (v := .agg (nwC k (some y) Ab nu cu)) rfl (by kernel_rfl) (by kernel_rfl) (by kernel_rfl) (fun _ _ _ h => h) (Or.inl ⟨by rfl, fun w' hw' => ?lb3⟩) HH.out ?_
            case lb3 => exact exec_build 57 #[(0, .tmp 45), (1, .tmp 46), (2, .tmp 47)] rfl (by simp only [List.map_toArray, List.map_cons, List.map_nil]; exact HBLD.out _)
            try simp only [List.getElem_toArray, List.getElem_cons_succ, List.getElem_cons_zero, Act.put, List.setIfInBounds_toArray, List.set_cons_zero, List.set_cons_succ]
            refine wpAnyH_take (i := 4) (v := .agg (bva y)) rfl (by kernel_rfl) (by kernel_rfl) (by kernel_rfl) (fun _ _ _ h => h) (Or.inl ⟨by rfl, fun w' hw' => ?yu4⟩) HH.out ?_
            case yu4 => exact exec_load 101 (.tmp 8) rfl rfl hw' Tryz.underlying101 rfl HIY.out
            try simp only [List.getElem_toArray, List.getElem_cons_succ, List.getElem_cons_zero, Act.put, List.setIfInBounds_toArray, List.set_cons_zero, List.set_cons_succ]
            refine wpAnyH_ready (rs := [5]) (by kernel_rfl) (by simp) (AllReadyH.cons rfl (fun K hK => ?_) AllReadyH.nil)
            rw [if_pos (by rfl)]
            refine wp_store_row 57 (.tmp 4) (.tmp 48) rfl b4 (nwC k (some y) Ab nu cu) rfl rfl 57 (nwC k o A nb cb) Y45.out (by rfl) (by rfl) (by simp [nwC, Value.oneCell']) ?_
            obtain ⟨w6, hw6⟩ : ∃ W, W = (World.drew w5).setRow b4 (nwC k (some y) Ab nu cu) := ⟨_, rfl⟩
            have b6 : But (fun k => k = b4) w5 w6 := by rw [hw6]; exact But.setRow (S := fun k => k = b4) (but_below (Below.refl _ _).drew) (Or.inl rfl) _
            have Y46 := Lib.hid (show Blk w6 b4 (nwC k (some y) Ab nu cu) 57 by rw [hw6]; exact setRow_heap _ _ _ _ _ _ Y45.out)
            have Y56 := Lib.hid (Y55.out.but b6 (by omega))
            have Y86 := Lib.hid (Y85.out.but b6 (by have := HB8.out; omega))
            have OU6 := Lib.hid (Own.but OU.out b6 (fun j hj e => by have := (OU.out.lt j hj).1; omega))
            have OL6 := Lib.hid (Own.but OL5.out b6 (fun j hj e => by have := (OL5.out.lt j hj).1; omega))
            have OR6 := Lib.hid (OR5.out.but b6 (fun e => HQ.out.1 (by rw [e, HB4.out]; exact Nat.le_refl _)) (fun e => HQ.out.2 (by rw [e, HB4.out]; exact Nat.le_refl _)))
            have BR6 := Lib.hid (BR5.out.trans (b6.below (B := w.heap.size) (fun j hj e => by have := HB4.out; omega) BR5.out.size))
            rw [← hw6]
            clear hw6 b6
            refine hK.out _ _ Y86.out (fun hh => ?_)
            have HH' := Lib.hid hh
            clear hh hK K HH
            have HH := Lib.hid HH'.out
            clear HH'
            try simp only [List.getElem_toArray, List.getElem_cons_succ, List.getElem_cons_zero, Act.put]
            refine wpAnyH_ready (rs := [6]) (by kernel_rfl) (by simp) (AllReadyH.cons rfl (fun K hK => ?_) AllReadyH.nil)
            rw [if_pos (by rfl)]
            refine wp_store_row 101 (.tmp 5) (.tmp 49) rfl (b4 + 1) (bva y) rfl rfl 101 (bva (fsO o)) Y56.out HIY.out (by rw [bva_size, bva_size, HY3.out, HFS.out]) (bva_one _) ?_
            obtain ⟨w7, hw7⟩ : ∃ W, W = w6.setRow (b4 + 1) (bva y) := ⟨_, rfl⟩
            have b7 : But (fun k => k = b4 + 1) w6 w7 := by rw [hw7]; exact But.setRow (S := fun k => k = b4 + 1) (But.refl _) (Or.inl rfl) _
            have Y47 := Lib.hid (Y46.out.but b7 (by omega))
            have Y57 := Lib.hid (show Blk w7 (b4 + 1) (bva (fsO (some y))) 101 by rw [hw7]; exact setRow_heap _ _ _ _ _ _ Y56.out)
            have Y87 := Lib.hid (Y86.out.but b7 (by have := HB8.out; omega))
            have OU7 := Lib.hid (Own.but OU6.out b7 (fun j hj e => by have := (OU6.out.lt j hj).1; omega))
            have OL7 := Lib.hid (Own.but OL6.out b7 (fun j hj e => by have := (OL6.out.lt j hj).1; omega))
            have OR7 := Lib.hid (OR6.out.but b7 (fun e => HQ.out.1 (by rw [e, HB4.out]; exact Nat.le_succ _)) (fun e => HQ.out.2 (by rw [e, HB4.out]; exact Nat.le_succ _)))
            have BR7 := Lib.hid (BR6.out.trans (b7.below (B := w.heap.size) (fun j hj e => by have := HB4.out; omega) BR6.out.size))
            rw [← hw7]
            clear hw7 b7
            refine hK.out _ _ Y87.out (fun hh => ?_)
            have HH' := Lib.hid hh
            clear hh hK K HH
            have HH := Lib.hid HH'.out
            clear HH'
            try simp only [List.getElem_toArray, List.getElem_cons_succ, List.getElem_cons_zero, Act.put]
            refine wpAnyH_take (i := 7) (v := ?vu7) rfl (by kernel_rfl) (by kernel_rfl) (by kernel_rfl) (fun _ _ _ h => h) (Or.inl ⟨by rfl, fun w' _ => ?yu7⟩) HH.out ?_
            case yu7 => (go_simp; try with_reducible rfl)
            try simp only [List.getElem_toArray, List.getElem_cons_succ, List.getElem_cons_zero, Act.put, List.setIfInBounds_toArray, List.set_cons_zero, List.set_cons_succ]
            refine wpAnyH_done (by kernel_rfl) ?_ _
            go_wp2_with fail
            go_round
            case rel => exact (GO.out _ _ _ _ _ HG.out Y47.out Y57.out (by rw [show fbO (some y) = u2 from E12.out.2.symm]; exact OU7.out) OL7.out BR7.out OR7.out)
            case measure => have := HLT.out; simp [intOf]; omega
        · have hf : gtO o y = false := by cases h : gtO o y; rfl; exact absurd h hgt
          cases o with
          | none => cases hf
          | some x =>
            have h1 : ¬ genS x < genS y := of_decide_eq_false hf
            have HG := Lib.hid (show some x = pickT ci.f k (some x) y by rw [pickT, hf, Bool.and_false]; rfl)
            have h2 : ¬ ((fgO (some x) : Int) < (u1 : Int)) := by rw [E12.out.1]; show ¬ (((genS x : Nat) : Int) < _); omega
            have d1 : decide ((u1 : Int) > (fgO (some x) : Int)) = false := decide_eq_false h2
            have d2 : ¬ fgO (some x) < u1 := by omega
            obtain ⟨fg, hfg⟩ : ∃ b : Nat, b = fgO (some x) := ⟨_, rfl⟩
            rw [← hfg] at d1 d2 HCY
            have HSM : (some x : Option (List UInt8)).isSome = true := rfl
            rw [HSM]
            clear h1 h2 hf hgt HSM hfg
            go_wp2_with fail
            go_round
            case rel => exact (GO.out _ _ _ _ _ HG.out Y45.out Y55.out OB5.out OL5.out BR5.out OR5.out)
            case measure => have := HLT.out; simp [intOf]; omega
    · obtain rfl : n = p := by omega
      have ho2 : pickL ci.f k L = o := by rw [ho, List.take_of_length_le (by rw [HN.out.1]; exact Nat.le_refl _)]
      have HO2 := Lib.hid ho2
      have HIF := Lib.hid (HIS.out (fsO o) HFS.out)
      have HB4Y := Lib.hid Y4.out
      clear hp ho hlt ho2
      go_wp2_with fail
      refine wp_region_held_drew (S := (fun w' => Blk w' b4 (nwC k o A nb cb) 57 ∧ Blk w' (b4 + 1) (bva (fsO o)) 101)) (by kernel_rfl) ⟨Y4.out, Y5.out⟩ (fun hh => ?_)
      have HH := Lib.hid hh
      clear hh
      refine wpAnyH_take (i := 0) (v := .agg (nwC k o A nb cb)) rfl (by kernel_rfl) (by kernel_rfl) (by kernel_rfl) (fun _ _ _ h => h) (Or.inl ⟨by rfl, fun w' hw' => ?yz0⟩) HH.out ?_
      case yz0 => exact exec_load 57 (.tmp 4) rfl rfl hw'.1 Tryz.underlying57 rfl rfl
      refine wpAnyH_take (i := 1) (v := .agg (bva (fsO o))) rfl (by kernel_rfl) (by kernel_rfl) (by kernel_rfl) (fun _ _ _ h => h) (Or.inl ⟨by rfl, fun w' hw' => ?yz1⟩) HH.out ?_
      case yz1 => exact exec_load 101 (.tmp 5) rfl rfl hw'.2 Tryz.underlying101 rfl HIF.out
      try simp only [List.getElem_toArray, List.getElem_cons_succ, List.getElem_cons_zero, Act.put, List.setIfInBounds_toArray, List.set_cons_zero, List.set_cons_succ]
      refine wpAnyH_take (i := 2) (v := ?vz2) rfl (by kernel_rfl) (by kernel_rfl) (by kernel_rfl) (fun _ _ _ h => h) (Or.inl ⟨by rfl, fun w' _ => ?yz2⟩) HH.out ?_
      case yz2 => (go_simp; try with_reducible rfl)
      try simp only [List.getElem_toArray, List.getElem_cons_succ, List.getElem_cons_zero, Act.put, List.setIfInBounds_toArray, List.set_cons_zero, List.set_cons_succ]
      refine wpAnyH_ready (rs := [3]) (by kernel_rfl) (by simp) (AllReadyH.cons rfl (fun K hK => ?_) AllReadyH.nil)
      rw [if_pos (by rfl)]
      refine wp_store_row 57 (.tmp 4) (.tmp 51) rfl b4 (nwC k o A nb cb) rfl rfl 57 (nwC k o A nb cb) Y4.out (by rfl) (by rfl) (by simp [nwC, Value.oneCell']) ?_
      obtain ⟨w6, hw6⟩ : ∃ W, W = (World.drew wr).setRow b4 (nwC k o A nb cb) := ⟨_, rfl⟩
      have b6 : But (fun k => k = b4) wr w6 := by rw [hw6]; exact But.setRow (S := fun k => k = b4) (but_below (Below.refl _ _).drew) (Or.inl rfl) _
      have Y46 := Lib.hid (show Blk w6 b4 (nwC k o A nb cb) 57 by rw [hw6]; exact setRow_heap _ _ _ _ _ _ Y4.out)
      have Y56 := Lib.hid (Y5.out.but b6 (by omega))
      have OB6 := Lib.hid (Own.but OB.out b6 (fun j hj e => by have := (OB.out.lt j hj).1; omega))
      have BR6 := Lib.hid (BR.out.trans (b6.below (B := w.heap.size) (fun j hj e => by have := HB4.out; omega) BR.out.size))
      rw [← hw6]
      clear hw6 b6
      refine hK.out _ _ ⟨Y46.out, Y56.out⟩ (fun hh => ?_)
      have HH' := Lib.hid hh
      clear hh hK K HH
      have HH := Lib.hid HH'.out
      clear HH'
      try simp only [List.getElem_toArray, List.getElem_cons_succ, List.getElem_cons_zero, Act.put]
      refine wpAnyH_ready (rs := [4]) (by kernel_rfl) (by simp) (AllReadyH.cons rfl (fun K hK => ?_) AllReadyH.nil)
      rw [if_pos (by rfl)]
      refine wp_store_row 101 (.tmp 5) (.tmp 52) rfl (b4 + 1) (bva (fsO o)) rfl rfl 101 (bva (fsO o)) Y56.out HIF.out (by rfl) (bva_one _) ?_
      obtain ⟨w7, hw7⟩ : ∃ W, W = w6.setRow (b4 + 1) (bva (fsO o)) := ⟨_, rfl⟩
      have b7 : But (fun k => k = b4 + 1) w6 w7 := by rw [hw7]; exact But.setRow (S := fun k => k = b4 + 1) (But.refl _) (Or.inl rfl) _
      have Y47 := Lib.hid (Y46.out.but b7 (by omega))
      have Y57 := Lib.hid (show Blk w7 (b4 + 1) (bva (fsO o)) 101 by rw [hw7]; exact setRow_heap _ _ _ _ _ _ Y56.out)
      have OB7 := Lib.hid (Own.but OB6.out b7 (fun j hj e => by have := (OB6.out.lt j hj).1; omega))
      have BR7 := Lib.hid (BR6.out.trans (b7.below (B := w.heap.size) (fun j hj e => by have := HB4.out; omega) BR6.out.size))
      rw [← hw7]
      clear hw7 b7
      refine hK.out _ _ ⟨Y47.out, Y57.out⟩ (fun hh => ?_)
      have HH' := Lib.hid hh
      clear hh hK K HH
      have HH := Lib.hid HH'.out
      clear HH'
      try simp only [List.getElem_toArray, List.getElem_cons_succ, List.getElem_cons_zero, Act.put]
      refine wpAnyH_take (i := 5) (v := ?vz5) rfl (by kernel_rfl) (by kernel_rfl) (by kernel_rfl) (fun _ _ _ h => h) (Or.inl ⟨by rfl, fun w' _ => ?yz5⟩) HH.out ?_
      case yz5 => (go_simp; try with_reducible rfl)
      try simp only [List.getElem_toArray, List.getElem_cons_succ, List.getElem_cons_zero, Act.put, List.setIfInBounds_toArray, List.set_cons_zero, List.set_cons_succ]
      refine wpAnyH_done (by kernel_rfl) ?_ _
      go_wp2_with fail
      refine bodyPost_ret (results_ccs Tryz.results57 _ _ b4 (b4 + 1) (nwC k o A nb cb) (bva (fsO o)) rfl rfl Y47.out Y57.out Tryz.underlying57 rfl (by rfl) Tryz.underlying101 rfl HIF.out) rfl ⟨A, nb, cb, (by rw [HO2.out]; rfl), ?_, BR7.out⟩
      rw [HO2.out]; exact own_more OB7.out (by have := HB4.out; omega)
end
end Go.Proofs.YtnplhagfmfggcaaGreat.Lo
/-
  The reference's log: New, Copy, Free, Append, Room.
-/
namespace Go.Proofs.YtnplhagfmfggcaaGreat.Lo
open Go.RowKit
attribute [local go_sem ↓] Go.wp_at_zero Go.wp_at_succ
/-- The cells of generations. -/
def gv (l : List Nat) : List Value := l.map fun (g : Nat) => Value.int .u64 (g : Int)
theorem gv_length (l : List Nat) : (gv l).length = l.length := by simp [gv]
theorem gv_get {l : List Nat} {k : Nat} (hk : k < l.length) : (gv l)[k]? = some (.int .u64 ((l.getD k 0 : Nat) : Int)) := by
  simp [gv, hk]
theorem gv_one (l : List Nat) : ∀ u ∈ gv l, u.oneCell' = true := by
  intro u hu
  simp only [gv, List.mem_map] at hu
  obtain ⟨c, _, rfl⟩ := hu
  rfl
theorem gv_set (l : List Nat) (k g : Nat) : (gv l).set k (.int .u64 (g : Int)) = gv (l.set k g) := by simp [gv, List.map_set]
/-- The reference's log as a value. -/
def rlC (l : Lg) (A : Option Addr) (n c : Nat) : Array Value := #[.int .i64 (l.size : Int), .int .i64 l.headI, .int .i64 l.slotI, .slice A n c, .int .u64 (l.last : Int)]
theorem zero_gv (s : Nat) : (madeCells (Value.int .u64 0).cells (s * 1)).toList = gv (List.replicate s 0) := by
  have e : (Value.int .u64 0).cells = #[Value.int .u64 0] := rfl
  rw [e, toList_madeCells_one]
  simp [gv]
/-- It returns the log l, its generations in new memory. -/
def RetRL (l : Lg) (w : World) (e : Ending) (w' : World) : Prop :=
  ∃ A c, e = .returned (.agg (rlC l A l.gens.length c)) ∧ w'.ownsRow w.heap.size 50 1 (.slice A l.gens.length c) l.gens.length (gv l.gens) ∧ Below w.heap.size w w'
theorem room_take (l : List Nat) (k : Nat) (hk : k < l.length) : ((l.take (k + 1)).filter (· == 0)).length = ((l.take k).filter (· == 0)).length + (if l.getD k 0 = 0 then 1 else 0) := by
  rw [List.take_succ_eq_append_getElem hk, List.filter_append, List.length_append, List.getD_eq_getElem?_getD, List.getElem?_eq_getElem hk]
  congr 1
  by_cases h : l[k] = 0
  · simp [h]
  · simp [h]
theorem zeros_le (l : List Nat) (k : Nat) : ((l.take k).filter (· == 0)).length ≤ l.length :=
  Nat.le_trans (List.length_filter_le _ _) (by rw [List.length_take]; omega)
end Go.Proofs.YtnplhagfmfggcaaGreat.Lo
/-
  What is found, as a row of a call's own whose bodies are rows of its own.
-/
namespace Go.Proofs.YtnplhagfmfggcaaGreat.Lo
open Go.RowKit Mi
/-- A sector that is found: its place, its generation, its body, and where that lies. -/
structure Fd where
  at_ : Nat
  gen : Nat
  b : List UInt8
  A : Option Addr
  c : Nat
def Fd.it (x : Fd) : Nat × Nat × List UInt8 := (x.at_, x.gen, x.b)
def fdV (x : Fd) : List Value := [.int .i64 (x.at_ : Int), .int .u64 (x.gen : Int), .slice x.A x.b.length x.c]
def fds : List Fd → List Value
  | [] => []
  | x :: l => fdV x ++ fds l
theorem fds_append (l r : List Fd) : fds (l ++ r) = fds l ++ fds r := by
  induction l with
  | nil => rfl
  | cons x l ih => rw [List.cons_append, fds, fds, ih, List.append_assoc]
theorem fds_length (l : List Fd) : (fds l).length = l.length * 3 := by
  induction l with
  | nil => rfl
  | cons x l ih => rw [fds, List.length_append, ih, List.length_cons]; simp [fdV]; omega
theorem fds_get {l : List Fd} {k : Nat} {x : Fd} (h : l[k]? = some x) : (fds l)[k * 3]? = some (.int .i64 (x.at_ : Int)) ∧ (fds l)[k * 3 + 1]? = some (.int .u64 (x.gen : Int)) ∧ (fds l)[k * 3 + 2]? = some (.slice x.A x.b.length x.c) := by
  induction l generalizing k with
  | nil => simp at h
  | cons y l ih =>
    cases k with
    | zero =>
      simp at h
      subst h
      exact ⟨rfl, rfl, rfl⟩
    | succ k =>
      have := ih (k := k) (by simpa using h)
      rw [fds, show (k + 1) * 3 = k * 3 + 1 + 1 + 1 by omega]
      exact this
/-- All of its blocks. -/
def fdF (A : Option Addr) (n c : Nat) (l : List Fd) : Nat → Prop := fun k => (Value.slice A n c).ownBlock = some k ∨ ∃ x ∈ l, (Value.slice x.A x.b.length x.c).ownBlock = some k
structure FdR (w : World) (l : List Fd) (A : Option Addr) (n c : Nat) : Prop where
  row : w.ownsRow 0 57 3 (.slice A n c) n (fds l)
  bod : ∀ x ∈ l, w.ownsRow 0 5 1 (.slice x.A x.b.length x.c) x.b.length (bv x.b)
/-- What is found, as it is laid. -/
def FdL (A : Option Addr) (n c : Nat) : Laid where
  St := List Fd
  At w l F := FdR w l A n c ∧ (∀ k, fdF A n c l k → F k) ∧ ∀ k, F k → k < w.heap.size
  but := fun ⟨h, h1, h2⟩ hb hd => ⟨⟨Own.but h.row hb (fun k hk => hd k (h1 k (.inl hk))), fun x hx => Own.but (h.bod x hx) hb (fun k hk => hd k (h1 k (.inr ⟨x, hx, hk⟩)))⟩, h1, fun k hk => Nat.lt_of_lt_of_le (h2 k hk) hb.size⟩
  lt := fun ⟨_, _, h2⟩ => h2
section
variable {w : World} {l : List Fd} {A : Option Addr} {n c : Nat} {F : Nat → Prop}
theorem fd_len (h : (FdL A n c).At w l F) : l.length = n := by
  have := h.1.row.1
  rw [fds_length] at this; omega
/-- One of what is found, read. -/
theorem fd_at (h : (FdL A n c).At w l F) {k : Nat} (hk : k < n) : ∃ g x, A = some ⟨g, 0, none⟩ ∧ l[k]? = some x ∧ w.cell? ⟨g, k * 3, none⟩ = some (.int .i64 (x.at_ : Int)) ∧ w.cell? ⟨g, k * 3 + 1, none⟩ = some (.int .u64 (x.gen : Int)) ∧
    w.cell? ⟨g, k * 3 + 2, none⟩ = some (.slice x.A x.b.length x.c) ∧ Rd w.heap.size w x.A (bv x.b) := by
  have hl := fd_len h
  obtain ⟨g, cap, hv, _, _⟩ := h.1.row.form (by omega)
  have hA : A = some ⟨g, 0, none⟩ := by injection hv
  subst hA
  have hx : l[k]? = some (l[k]'(by omega)) := List.getElem?_eq_getElem (by omega)
  obtain ⟨h0, h1, h2⟩ := fds_get hx
  refine ⟨g, _, rfl, hx, ?_, ?_, ?_, Rd.own (h.1.bod _ (List.getElem_mem _))⟩
  · exact (World.ownsRow.cellAt h.1.row (k * 3) (by omega)).trans h0
  · exact (World.ownsRow.cellAt h.1.row (k * 3 + 1) (by omega)).trans h1
  · exact (World.ownsRow.cellAt h.1.row (k * 3 + 2) (by omega)).trans h2
end
end Go.Proofs.YtnplhagfmfggcaaGreat.Lo
/-
  What a log learns of what was found.
-/
namespace Go.Proofs.YtnplhagfmfggcaaGreat.Lo
open Go.RowKit Go.Maps Kd Mi Sx Sg
attribute [local go_sem ↓] Go.wp_at_zero Go.wp_at_succ
/-- One of what was found, in its order. -/
def Rl.learn (r : Rl) (x : Nat × Nat × List UInt8) : Rl :=
  if r.seg = -1 ∨ r.known < x.2.1 ∨ (((x.1 - 2) / r.size : Nat) : Int) = r.seg then ⟨r.segs, r.size, r.gens.set ((x.1 - 2) / r.size) (some x.2.1), x.2.1, (((x.1 - 2) / r.size : Nat) : Int), (((x.1 - 2) % r.size : Nat) : Int) + 1⟩
  else ⟨r.segs, r.size, r.gens.set ((x.1 - 2) / r.size) (some x.2.1), r.known, r.seg, r.slot⟩
theorem Rl.learn_segs (r : Rl) (x : Nat × Nat × List UInt8) : (r.learn x).segs = r.segs ∧ (r.learn x).size = r.size := by unfold Rl.learn; split <;> exact ⟨rfl, rfl⟩
theorem set_lt {gs : Gens} {i v : Nat} (h : ∀ k x, gs.getD k none = some x → x < 18446744073709551616) (hi : i < gs.length) (hv : v < 18446744073709551616) : ∀ k x, (gs.set i (some v)).getD k none = some x → x < 18446744073709551616 := by
  intro k x hx
  by_cases hk : k = i
  · subst hk
    rw [getD_set_eq _ hi] at hx
    injection hx with hx
    omega
  · rw [getD_set_ne _ hk] at hx; exact h k x hx
theorem Rl.Ok.learn {r : Rl} (h : r.Ok) {x : Nat × Nat × List UInt8} (h2 : 2 ≤ x.1) (hx : x.1 < 2 + r.segs * r.size) (hg : x.2.1 < 18446744073709551616) : (r.learn x).Ok := by
  have hs := h.small
  have hd : (x.1 - 2) / r.size < r.segs := (Nat.div_lt_iff_lt_mul (by omega)).2 (by omega)
  have hm : (x.1 - 2) % r.size < r.size := Nat.mod_lt _ (by omega)
  have hl := set_lt h.lt (i := (x.1 - 2) / r.size) (v := x.2.1) (by rw [h.gn]; exact hd) hg
  have key : ∀ i j : Nat, i < r.segs → j < r.size → (-1 ≤ (i : Int) ∧ (i : Int) < (r.segs : Int)) ∧ (0 ≤ (j : Int) + 1 ∧ (j : Int) + 1 ≤ (r.size : Int)) := fun i j h1 h2 => by omega
  obtain ⟨k1, k2⟩ := key _ _ hd hm
  unfold Rl.learn
  split
  · exact ⟨h.shape, by rw [List.length_set]; exact h.gn, k1, k2, hg, hl⟩
  · exact ⟨h.shape, by rw [List.length_set]; exact h.gn, h.seg, h.slot, h.known, hl⟩
section
variable {g q bm : Nat} {ci : SCiph} {w w' : World} {r : Rl} {FF : Nat → Prop}
/-- Its shape, as it is loaded. -/
theorem RlO.shapeAt (h : RlO g q bm ci w r) : ∀ j v, ([.int .i64 (r.segs : Int), .int .i64 (r.size : Int)] : List Value)[j]? = some v → w.cell? ((⟨q, 2, none⟩ : Addr).add j) = some v := by
  intro j v hv
  have : j = 0 ∨ j = 1 ∨ 2 ≤ j := by omega
  rcases this with rfl | rfl | hj
  · rw [show (⟨q, 2, none⟩ : Addr).add 0 = ⟨q, 2, none⟩ from rfl, h.blk.cell 2]; simpa [rwC] using hv
  · rw [show (⟨q, 2, none⟩ : Addr).add 1 = ⟨q, 3, none⟩ from rfl, h.blk.cell 3]; simpa [rwC] using hv
  · rw [List.getElem?_eq_none (by simpa using hj)] at hv; cases hv
theorem addr0 (g k : Nat) : (⟨g, 0, none⟩ : Addr).add k = ⟨g, k, none⟩ := by
  cases k with
  | zero => rfl
  | succ k => simp [Addr.add]
theorem gmap_of {gs : Gens} (h : ∃ D, w.ownsMap Tryz.prog 3 u64P bm 4096 D ∧ GenM D gs) {T : Nat → Prop} (hb : But T w w') (hs : ¬ T bm) : ∃ D, w'.ownsMap Tryz.prog 3 u64P bm 4096 D ∧ GenM D gs :=
  h.elim fun D hD => ⟨D, gmap_but hD.1 hb hs, hD.2⟩
def fdC (x : Fd) : Array Value := #[.int .i64 (x.at_ : Int), .int .u64 (x.gen : Int), .slice x.A x.b.length x.c]
set_option maxRecDepth 100000 in
set_option maxHeartbeats 12800000 in
theorem learn_any {A : Option Addr} {n c : Nat} {l : List Fd} (ho : RlO g q bm ci w r) (hf : (FdL A n c).At w l FF) (hq : ¬ FF q) (hb : ¬ FF bm) (hx : ∀ x ∈ l, 2 ≤ x.at_ ∧ x.at_ < 2 + r.segs * r.size ∧ x.gen < 18446744073709551616) (hn : n < 1000000) :
    Calls Tryz.prog 37 #[.pointer (some ⟨q, 0, none⟩), .slice A n c] w (fun e w' => e = .returned (.tuple #[]) ∧ RlO g q bm ci w' ((l.map Fd.it).foldl Rl.learn r) ∧ But (fun k => k = q ∨ k = bm) w w') := by
  obtain ⟨sg0, hsg0⟩ : ∃ s, s = r.segs := ⟨_, rfl⟩
  obtain ⟨sz0, hsz0⟩ : ∃ s, s = r.size := ⟨_, rfl⟩
  have HX := Lib.hid hx
  have HL := Lib.hid (fd_len hf)
  have HQB := Lib.hid (And.intro hq hb)
  have HN := Lib.hid hn
  have HSS := Lib.hid (And.intro hsg0 hsz0)
  have O1 := Lib.hid ho
  have D1 := Lib.hid hf
  clear ho hf hq hb hx hn hsg0 hsz0
  go_enter Tryz.func37, Tryz.ntmps37
  go_wp2_with fail
  go_loopw [11] (fun i wr => ∃ p : Nat, p ≤ n ∧ i = .int .i64 p ∧ ∃ rr : Rl, Hid (rr = ((l.take p).map Fd.it).foldl Rl.learn r) ∧ Hid (rr.segs = r.segs ∧ rr.size = r.size) ∧ Hid (RlO g q bm ci wr rr) ∧ Hid ((FdL A n c).At wr l FF) ∧ Hid (But (fun k => k = q ∨ k = bm) w wr)) (fun i _ => n - (intOf i).toNat)
  case atStart => exact ⟨0, Nat.zero_le _, rfl, r, Lib.hid rfl, Lib.hid ⟨rfl, rfl⟩, O1, D1, Lib.hid (But.refl _)⟩
  case round =>
    obtain ⟨p, hp, rfl, rr, HRR, HRS, OR, DR, BR⟩ := hrel
    by_cases hlt : p < n
    · have HLT := Lib.hid hlt
      have j0 : (0 : Int) ≤ (p : Int) := by omega
      have j1 : (p : Int) < (n : Int) := by omega
      have wp1 : IntKind.i64.wrap ((p : Int) + 1) = ((p + 1 : Nat) : Int) := IntWalk.i64_in _ (by have := HN.out; omega)
      obtain ⟨gf, x, hA, hxl, hx0, hx1, hx2, _⟩ := fd_at DR.out hlt
      subst hA
      have hxm : x ∈ l := List.mem_of_getElem? hxl
      obtain ⟨xa, xg, hxg3⟩ := HX.out x hxm
      have hsm := OR.out.ok.small
      obtain ⟨hs1, hs2⟩ := HRS.out
      have hdiv : (x.at_ - 2) / rr.size < rr.segs := (Nat.div_lt_iff_lt_mul (by omega)).2 (by rw [hs1, hs2]; omega)
      have hmod : (x.at_ - 2) % rr.size < rr.size := Nat.mod_lt _ (by omega)
      obtain ⟨i, hi⟩ : ∃ i, i = (x.at_ - 2) / rr.size := ⟨_, rfl⟩
      obtain ⟨j, hj⟩ : ∃ j, j = (x.at_ - 2) % rr.size := ⟨_, rfl⟩
      have hat : ((x.at_ : Nat) : Int) = 2 + (i : Int) * (rr.size : Int) + (j : Int) := by
        have e := Nat.div_add_mod (x.at_ - 2) rr.size
        rw [← hi, ← hj] at e
        have e2 : x.at_ = 2 + (rr.size * i + j) := by omega
        rw [e2]; push_cast; rw [Int.mul_comm (rr.size : Int) (i : Int)]; omega
      rw [← hi] at hdiv
      rw [← hj] at hmod
      have hof := fun W => of_yes (rr.segs : Int) (rr.size : Int) (i : Int) (j : Int) ⟨OR.out.ok.shape, by omega, by omega⟩ W
      simp only [← hat] at hof
      have HOF := Lib.hid hof
      have HIJ := Lib.hid (show i < rr.segs ∧ i < 64 ∧ j < rr.size ∧ j < 32 by omega)
      have HIJ2 := Lib.hid (And.intro hi hj)
      have HOK0 := Lib.hid OR.out.ok
      have HXG := Lib.hid hxg3
      have HXA := Lib.hid (show 2 ≤ x.at_ ∧ x.at_ < 2 + rr.segs * rr.size by rw [hs1, hs2]; exact ⟨xa, xg⟩)
      have HTK := Lib.hid (show ((l.take (p + 1)).map Fd.it).foldl Rl.learn r = rr.learn x.it by
        have hpl : p < l.length := by rw [HL.out]; exact hlt
        rw [List.take_succ_eq_append_getElem hpl, List.map_append, List.foldl_append, ← HRR.out]
        have e : l[p] = x := by rw [List.getElem?_eq_getElem hpl] at hxl; injection hxl
        rw [e]; rfl)
      have hzf : ∀ W, (zeroValue 57).run Tryz.prog W = .ok (.agg #[.int .i64 0, .int .u64 0, .slice none 0 0]) W := fun _ => by kernel_rfl
      have wj1 : IntKind.i64.wrap ((j : Int) + 1) = (j : Int) + 1 := IntWalk.i64_in _ (by omega)
      clear hp hlt hxl hxm xa xg hxg3 hsm hs1 hs2 hdiv hmod hi hj hat hof
      go_wp2_with fail
      obtain ⟨w4, hw4⟩ : ∃ w4, w4 = wr.alloc (.cells #[.int .i64 (x.at_ : Int), .int .u64 (x.gen : Int), .slice x.A x.b.length x.c] 57) := ⟨_, rfl⟩
      have bw : Below wr.heap.size wr w4 := by rw [hw4]; exact (Below.refl _ _).alloc (Nat.le_refl _) _
      have Y5 := Lib.hid (show Blk w4 wr.heap.size (fdC x) 57 by rw [hw4]; exact heap_alloc_new _ _)
      have OR4 := Lib.hid (OR.out.below bw)
      have DR4 := Lib.hid ((FdL (some ⟨gf, 0, none⟩) n c).below DR.out bw)
      have BR4 := Lib.hid (Mi.but_step BR.out (but_below (T := fun _ => False) bw) (fun _ h => h.elim))
      have hne : wr.heap.size ≠ q ∧ wr.heap.size ≠ bm := by have := OR.out.lt; omega
      rw [← hw4]
      obtain ⟨b5, hb5⟩ : ∃ b, b = wr.heap.size := ⟨_, rfl⟩
      rw [← hb5] at Y5 hne
      rw [← hb5]
      have HNE := Lib.hid hne
      clear hw4 bw OR DR BR hb5 hne hx0 hx1 hx2
      refine wp_region_held_drew (S := (fun w' => RlO g q bm ci w' rr ∧ Blk w' b5 (fdC x) 57)) (by kernel_rfl) ⟨OR4.out.drew, (show Blk (World.drew _) _ _ _ from Y5.out)⟩ (fun hh => ?_)
      have HH := Lib.hid hh
      clear hh
      refine wpAnyH_take (i := 0) (v := ?vw0) rfl (by kernel_rfl) (by kernel_rfl) (by kernel_rfl) (fun _ _ _ h => h) (Or.inl ⟨by rfl, fun w' _ => ?yw0⟩) HH.out ?_
      case yw0 => (go_simp; try with_reducible rfl)
      refine wpAnyH_take (i := 1) (v := ?vw1) rfl (by kernel_rfl) (by kernel_rfl) (by kernel_rfl) (fun _ _ _ h => h) (Or.inl ⟨by rfl, fun w' _ => ?yw1⟩) HH.out ?_
      case yw1 => (go_simp; try with_reducible rfl)
      try simp only [List.getElem_toArray, List.getElem_cons_succ, List.getElem_cons_zero, Act.put, List.setIfInBounds_toArray, List.set_cons_zero, List.set_cons_succ]
      refine wpAnyH_take (i := 2) (v := ?vw2) rfl (by kernel_rfl) (by kernel_rfl) (by kernel_rfl) (fun _ _ _ h => h) (Or.inl ⟨by rfl, fun w' _ => ?yw2⟩) HH.out ?_
      case yw2 => (go_simp; try with_reducible rfl)
      refine wpAnyH_take (i := 3) (v := .agg #[.int .i64 (rr.segs : Int), .int .i64 (rr.size : Int)]) rfl (by kernel_rfl) (by kernel_rfl) (by kernel_rfl) (fun _ _ _ h => h) (Or.inl ⟨by rfl, fun w' hw' => ?lsh⟩) HH.out ?_
      case lsh => exact exec_load_at 32 (.tmp 18) rfl ⟨q, 2, none⟩ rfl hw'.1.shapeAt Tryz.underlying32 rfl (by rfl)
      try simp only [List.getElem_toArray, List.getElem_cons_succ, List.getElem_cons_zero, Act.put, List.setIfInBounds_toArray, List.set_cons_zero, List.set_cons_succ]
      refine wpAnyH_take (i := 4) (v := ?vw4) rfl (by kernel_rfl) (by kernel_rfl) (by kernel_rfl) (fun _ _ _ h => h) (Or.inl ⟨by rfl, fun w' _ => ?yw4⟩) HH.out ?_
      case yw4 => (go_simp; try with_reducible rfl)
      try simp only [List.getElem_toArray, List.getElem_cons_succ, List.getElem_cons_zero, Act.put, List.setIfInBounds_toArray, List.set_cons_zero, List.set_cons_succ]
      refine wpAnyH_take (i := 5) (v := .int .i64 (x.at_ : Int)) rfl (by kernel_rfl) (by kernel_rfl) (by kernel_rfl) (fun _ _ _ h => h) (Or.inl ⟨by rfl, fun w' hw' => ?lc5⟩) HH.out ?_
      case lc5 => (have hc : w'.cell? ⟨b5, 0, none⟩ = some (.int .i64 (x.at_ : Int)) := hw'.2.cell 0; go_simp; try with_reducible rfl)
      try simp only [List.getElem_toArray, List.getElem_cons_succ, List.getElem_cons_zero, Act.put, List.setIfInBounds_toArray, List.set_cons_zero, List.set_cons_succ]
      try simp only [List.getElem_toArray, List.getElem_cons_succ, List.getElem_cons_zero, Act.put, List.setIfInBounds_toArray, List.set_cons_zero, List.set_cons_succ]
      refine wpAnyH_ready (rs := [6]) (by kernel_rfl) (by simp) (AllReadyH.cons rfl (fun K hK => ?_) AllReadyH.nil)
      go_simp
      refine (HOF.out _).mono ?_
      rintro e w5 ⟨rfl, bw0⟩
      have bw := (Below.refl w4.heap.size w4).drew.trans bw0
      have OR5 := Lib.hid (OR4.out.below bw)
      have Y55 := Lib.hid (Y5.out.below bw)
      have DR5 := Lib.hid ((FdL (some ⟨gf, 0, none⟩) n c).below DR4.out bw)
      have BR5 := Lib.hid (Mi.but_step BR4.out (but_below (T := fun _ => False) bw) (fun _ h => h.elim))
      clear bw bw0
      go_simp
      refine hK.out _ _ ⟨OR5.out, Y55.out⟩ (fun hh => ?_)
      have HH' := Lib.hid hh
      clear hh hK K HH OR4 Y5 DR4 BR4
      have HH := Lib.hid HH'.out
      clear HH'
      refine wpAnyH_take (i := 7) (v := ?vw7) rfl (by kernel_rfl) (by kernel_rfl) (by kernel_rfl) (fun _ _ _ h => h) (Or.inl ⟨by rfl, fun w' _ => ?yw7⟩) HH.out ?_
      case yw7 => (go_simp; try with_reducible rfl)
      try simp only [List.getElem_toArray, List.getElem_cons_succ, List.getElem_cons_zero, Act.put, List.setIfInBounds_toArray, List.set_cons_zero, List.set_cons_succ]
      refine wpAnyH_take (i := 8) (v := ?vw8) rfl (by kernel_rfl) (by kernel_rfl) (by kernel_rfl) (fun _ _ _ h => h) (Or.inl ⟨by rfl, fun w' _ => ?yw8⟩) HH.out ?_
      case yw8 => (go_simp; try with_reducible rfl)
      refine wpAnyH_take (i := 9) (v := ?vw9) rfl (by kernel_rfl) (by kernel_rfl) (by kernel_rfl) (fun _ _ _ h => h) (Or.inl ⟨by rfl, fun w' _ => ?yw9⟩) HH.out ?_
      case yw9 => (go_simp; try with_reducible rfl)
      refine wpAnyH_take (i := 10) (v := ?vw10) rfl (by kernel_rfl) (by kernel_rfl) (by kernel_rfl) (fun _ _ _ h => h) (Or.inl ⟨by rfl, fun w' _ => ?yw10⟩) HH.out ?_
      case yw10 => (go_simp; try with_reducible rfl)
      try simp only [List.getElem_toArray, List.getElem_cons_succ, List.getElem_cons_zero, Act.put, List.setIfInBounds_toArray, List.set_cons_zero, List.set_cons_succ]
      refine wpAnyH_take (i := 11) (v := ?vw11) rfl (by kernel_rfl) (by kernel_rfl) (by kernel_rfl) (fun _ _ _ h => h) (Or.inl ⟨by rfl, fun w' _ => ?yw11⟩) HH.out ?_
      case yw11 => (go_simp; try with_reducible rfl)
      refine wpAnyH_take (i := 12) (v := ?vw12) rfl (by kernel_rfl) (by kernel_rfl) (by kernel_rfl) (fun _ _ _ h => h) (Or.inl ⟨by rfl, fun w' _ => ?yw12⟩) HH.out ?_
      case yw12 => (go_simp; try with_reducible rfl)
      refine wpAnyH_take (i := 13) (v := ?vw13) rfl (by kernel_rfl) (by kernel_rfl) (by kernel_rfl) (fun _ _ _ h => h) (Or.inl ⟨by rfl, fun w' _ => ?yw13⟩) HH.out ?_
      case yw13 => (go_simp; try with_reducible rfl)
      try simp only [List.getElem_toArray, List.getElem_cons_succ, List.getElem_cons_zero, Act.put, List.setIfInBounds_toArray, List.set_cons_zero, List.set_cons_succ]
      refine wpAnyH_done (by kernel_rfl) ?_ _
      clear HH HOF
      obtain ⟨D, hD, hg⟩ := OR5.out.map
      have HD := Lib.hid hD
      have HG := Lib.hid hg
      clear hD hg
      go_wp2_with fail
      refine wp_region_held_drew (S := (fun w' => Blk w' q (rwC g ci bm rr) 106 ∧ Blk w' b5 (fdC x) 57)) (by kernel_rfl) ⟨(show Blk (World.drew _) _ _ _ from OR5.out.blk), (show Blk (World.drew _) _ _ _ from Y55.out)⟩ (fun hh => ?_)
      have HH := Lib.hid hh
      clear hh
      refine wpAnyH_take (i := 0) (v := ?ve0) rfl (by kernel_rfl) (by kernel_rfl) (by kernel_rfl) (fun _ _ _ h => h) (Or.inl ⟨by rfl, fun w' _ => ?ye0⟩) HH.out ?_
      case ye0 => (go_simp; try with_reducible rfl)
      refine wpAnyH_take (i := 1) (v := ?ve1) rfl (by kernel_rfl) (by kernel_rfl) (by kernel_rfl) (fun _ _ _ h => h) (Or.inl ⟨by rfl, fun w' _ => ?ye1⟩) HH.out ?_
      case ye1 => (go_simp; try with_reducible rfl)
      try simp only [List.getElem_toArray, List.getElem_cons_succ, List.getElem_cons_zero, Act.put, List.setIfInBounds_toArray, List.set_cons_zero, List.set_cons_succ]
      refine wpAnyH_take (i := 2) (v := ?ve2) rfl (by kernel_rfl) (by kernel_rfl) (by kernel_rfl) (fun _ _ _ h => h) (Or.inl ⟨by rfl, fun w' _ => ?ye2⟩) HH.out ?_
      case ye2 => (go_simp; try with_reducible rfl)
      refine wpAnyH_take (i := 3) (v := .map (some bm)) rfl (by kernel_rfl) (by kernel_rfl) (by kernel_rfl) (fun _ _ _ h => h) (Or.inl ⟨by rfl, fun w' hw' => ?ld3⟩) HH.out ?_
      case ld3 => (have hc : w'.cell? ⟨q, 4, none⟩ = some (.map (some bm)) := hw'.1.cell 4; go_simp; try with_reducible rfl)
      try simp only [List.getElem_toArray, List.getElem_cons_succ, List.getElem_cons_zero, Act.put, List.setIfInBounds_toArray, List.set_cons_zero, List.set_cons_succ]
      refine wpAnyH_take (i := 4) (v := ?ve4) rfl (by kernel_rfl) (by kernel_rfl) (by kernel_rfl) (fun _ _ _ h => h) (Or.inl ⟨by rfl, fun w' _ => ?ye4⟩) HH.out ?_
      case ye4 => (go_simp; try with_reducible rfl)
      try simp only [List.getElem_toArray, List.getElem_cons_succ, List.getElem_cons_zero, Act.put, List.setIfInBounds_toArray, List.set_cons_zero, List.set_cons_succ]
      refine wpAnyH_take (i := 5) (v := ?ve5) rfl (by kernel_rfl) (by kernel_rfl) (by kernel_rfl) (fun _ _ _ h => h) (Or.inl ⟨by rfl, fun w' _ => ?ye5⟩) HH.out ?_
      case ye5 => (go_simp; try with_reducible rfl)
      refine wpAnyH_take (i := 6) (v := .int .u64 (x.gen : Int)) rfl (by kernel_rfl) (by kernel_rfl) (by kernel_rfl) (fun _ _ _ h => h) (Or.inl ⟨by rfl, fun w' hw' => ?ld6⟩) HH.out ?_
      case ld6 => (have hc : w'.cell? ⟨b5, 1, none⟩ = some (.int .u64 (x.gen : Int)) := hw'.2.cell 1; go_simp; try with_reducible rfl)
      try simp only [List.getElem_toArray, List.getElem_cons_succ, List.getElem_cons_zero, Act.put, List.setIfInBounds_toArray, List.set_cons_zero, List.set_cons_succ]
      try simp only [List.getElem_toArray, List.getElem_cons_succ, List.getElem_cons_zero, Act.put, List.setIfInBounds_toArray, List.set_cons_zero, List.set_cons_succ]
      refine wpAnyH_ready (rs := [7]) (by kernel_rfl) (by simp) (AllReadyH.cons rfl (fun K hK => ?_) AllReadyH.nil)
      rw [if_pos (by rfl)]
      obtain ⟨w6, hrun, hown6, hgrow6⟩ := World.ownsMap.update (t := 104) (e := 50) (w := w5.drew) HD.out lawI Tryz.underlying104 (by unfold maxLen; omega) (keyI (z := (i : Int)) (by omega) (by have := HIJ.out; omega)) (u64_mk HXG.out)
      refine wp_skip (w' := w6) ?hup ?_
      case hup => go_simp
      have hkk : i < rr.gens.length := by have := HIJ.out; rw [OR5.out.ok.gn]; omega
      have hgp := HG.out.put hkk x.gen
      have B6 := Lib.hid (but_grown hgrow6)
      have X6 := Lib.hid ((show Blk w5.drew q _ _ from OR5.out.blk).but B6.out OR5.out.ne)
      have Y6 := Lib.hid ((show Blk w5.drew b5 _ _ from Y55.out).but B6.out HNE.out.2)
      have O6 := Lib.hid (show RlO g q bm ci w6 ⟨rr.segs, rr.size, rr.gens.set i (some x.gen), rr.known, rr.seg, rr.slot⟩ from ⟨X6.out, ⟨_, gmap_room hown6 hgp (by rw [List.length_set, OR5.out.ok.gn]; have := OR5.out.ok.small; omega), hgp⟩, OR5.out.ne, ⟨OR5.out.ok.shape, by rw [List.length_set]; exact OR5.out.ok.gn, OR5.out.ok.seg, OR5.out.ok.slot, OR5.out.ok.known, set_lt OR5.out.ok.lt hkk HXG.out⟩⟩)
      have D6 := Lib.hid ((FdL (some ⟨gf, 0, none⟩) n c).but (w := w5.drew) ((FdL (some ⟨gf, 0, none⟩) n c).below DR5.out (Below.refl _ _).drew) B6.out (fun k hk e => HQB.out.2 (e ▸ hk)))
      have BB6 := Lib.hid (Mi.but_step BR5.out ((but_below (T := fun k => k = bm) (Below.refl _ _).drew).trans B6.out) (fun _ h => .inl (.inr h)))
      refine hK.out _ _ ⟨X6.out, Y6.out⟩ (fun hh => ?_)
      clear hh hK K HH hrun hown6 hgrow6 hgp hkk OR5 Y55 DR5 BR5 HD HG B6
      try simp only [List.getElem_toArray, List.getElem_cons_succ, List.getElem_cons_zero, Act.put]
      try simp only [List.getElem_toArray, List.getElem_cons_succ, List.getElem_cons_zero, Act.put, List.setIfInBounds_toArray, List.set_cons_zero, List.set_cons_succ]
      refine wpAnyH_done (by kernel_rfl) ?_ _
      go_wp2_with fail
      have OKL := Lib.hid (HOK0.out.learn (x := x.it) HXA.out.1 HXA.out.2 HXG.out)
      by_cases hA : rr.seg = -1
      · have e1 : (rr.seg == -1) = true := by rw [hA]; rfl
        have LRN := Lib.hid (show rr.learn x.it = ⟨rr.segs, rr.size, rr.gens.set i (some x.gen), x.gen, (i : Int), (j : Int) + 1⟩ by rw [Rl.learn, if_pos (.inl hA), HIJ2.out.1, HIJ2.out.2]; rfl)
        refine wp_region_held_drew (S := (fun w' => Blk w' q (rwC g ci bm ⟨rr.segs, rr.size, rr.gens.set i (some x.gen), rr.known, rr.seg, rr.slot⟩) 106 ∧ Blk w' b5 (fdC x) 57)) (by kernel_rfl) ⟨(show Blk (World.drew _) _ _ _ from X6.out), (show Blk (World.drew _) _ _ _ from Y6.out)⟩ (fun hh => ?_)
        have HH := Lib.hid hh
        clear hh
        refine wpAnyH_take (i := 0) (v := ?vfA0) rfl (by kernel_rfl) (by kernel_rfl) (by kernel_rfl) (fun _ _ _ h => h) (Or.inl ⟨by rfl, fun w' _ => ?yfA0⟩) HH.out ?_
        case yfA0 => (go_simp; try with_reducible rfl)
        refine wpAnyH_take (i := 1) (v := ?vfA1) rfl (by kernel_rfl) (by kernel_rfl) (by kernel_rfl) (fun _ _ _ h => h) (Or.inl ⟨by rfl, fun w' _ => ?yfA1⟩) HH.out ?_
        case yfA1 => (go_simp; try with_reducible rfl)
        try simp only [List.getElem_toArray, List.getElem_cons_succ, List.getElem_cons_zero, Act.put, List.setIfInBounds_toArray, List.set_cons_zero, List.set_cons_succ]
        refine wpAnyH_take (i := 2) (v := ?vfA2) rfl (by kernel_rfl) (by kernel_rfl) (by kernel_rfl) (fun _ _ _ h => h) (Or.inl ⟨by rfl, fun w' _ => ?yfA2⟩) HH.out ?_
        case yfA2 => (go_simp; try with_reducible rfl)
        refine wpAnyH_take (i := 3) (v := .int .i64 rr.seg) rfl (by kernel_rfl) (by kernel_rfl) (by kernel_rfl) (fun _ _ _ h => h) (Or.inl ⟨by rfl, fun w' hw' => ?lfA3⟩) HH.out ?_
        case lfA3 => (have hc : w'.cell? ⟨q, 6, none⟩ = some (.int .i64 rr.seg) := hw'.1.cell 6; go_simp; try with_reducible rfl)
        try simp only [List.getElem_toArray, List.getElem_cons_succ, List.getElem_cons_zero, Act.put, List.setIfInBounds_toArray, List.set_cons_zero, List.set_cons_succ]
        refine wpAnyH_take (i := 4) (v := ?vfA4) rfl (by kernel_rfl) (by kernel_rfl) (by kernel_rfl) (fun _ _ _ h => h) (Or.inl ⟨by rfl, fun w' _ => ?yfA4⟩) HH.out ?_
        case yfA4 => (go_simp; try with_reducible rfl)
        try simp only [List.getElem_toArray, List.getElem_cons_succ, List.getElem_cons_zero, Act.put, List.setIfInBounds_toArray, List.set_cons_zero, List.set_cons_succ]
        refine wpAnyH_take (i := 5) (v := ?vfA5) rfl (by kernel_rfl) (by kernel_rfl) (by kernel_rfl) (fun _ _ _ h => h) (Or.inl ⟨by rfl, fun w' _ => ?yfA5⟩) HH.out ?_
        case yfA5 => (go_simp; try with_reducible rfl)
        refine wpAnyH_take (i := 6) (v := undef) rfl (by kernel_rfl) (by kernel_rfl) (by kernel_rfl) (fun _ _ _ h => h) (Or.inr ⟨by rfl, rfl⟩) HH.out ?_
        refine wpAnyH_take (i := 7) (v := undef) rfl (by kernel_rfl) (by kernel_rfl) (by kernel_rfl) (fun _ _ _ h => h) (Or.inr ⟨by rfl, rfl⟩) HH.out ?_
        try simp only [List.getElem_toArray, List.getElem_cons_succ, List.getElem_cons_zero, Act.put, List.setIfInBounds_toArray, List.set_cons_zero, List.set_cons_succ]
        refine wpAnyH_take (i := 8) (v := undef) rfl (by kernel_rfl) (by kernel_rfl) (by kernel_rfl) (fun _ _ _ h => h) (Or.inr ⟨by rfl, rfl⟩) HH.out ?_
        refine wpAnyH_take (i := 9) (v := undef) rfl (by kernel_rfl) (by kernel_rfl) (by kernel_rfl) (fun _ _ _ h => h) (Or.inr ⟨by rfl, rfl⟩) HH.out ?_
        refine wpAnyH_take (i := 10) (v := undef) rfl (by kernel_rfl) (by kernel_rfl) (by kernel_rfl) (fun _ _ _ h => h) (Or.inr ⟨by rfl, rfl⟩) HH.out ?_
        try simp only [List.getElem_toArray, List.getElem_cons_succ, List.getElem_cons_zero, Act.put, List.setIfInBounds_toArray, List.set_cons_zero, List.set_cons_succ]
        refine wpAnyH_take (i := 11) (v := undef) rfl (by kernel_rfl) (by kernel_rfl) (by kernel_rfl) (fun _ _ _ h => h) (Or.inr ⟨by rfl, rfl⟩) HH.out ?_
        refine wpAnyH_take (i := 12) (v := undef) rfl (by kernel_rfl) (by kernel_rfl) (by kernel_rfl) (fun _ _ _ h => h) (Or.inr ⟨by rfl, rfl⟩) HH.out ?_
        refine wpAnyH_take (i := 13) (v := ?vfA13) rfl (by kernel_rfl) (by kernel_rfl) (by kernel_rfl) (fun _ _ _ h => h) (Or.inl ⟨by rfl, fun w' _ => ?yfA13⟩) HH.out ?_
        case yfA13 => (go_simp; try with_reducible rfl)
        try simp only [List.getElem_toArray, List.getElem_cons_succ, List.getElem_cons_zero, Act.put, List.setIfInBounds_toArray, List.set_cons_zero, List.set_cons_succ]
        refine wpAnyH_take (i := 14) (v := ?vfA14) rfl (by kernel_rfl) (by kernel_rfl) (by kernel_rfl) (fun _ _ _ h => h) (Or.inl ⟨by rfl, fun w' _ => ?yfA14⟩) HH.out ?_
        case yfA14 => (go_simp; try with_reducible rfl)
        refine wpAnyH_take (i := 15) (v := undef) rfl (by kernel_rfl) (by kernel_rfl) (by kernel_rfl) (fun _ _ _ h => h) (Or.inr ⟨by rfl, rfl⟩) HH.out ?_
        refine wpAnyH_take (i := 16) (v := undef) rfl (by kernel_rfl) (by kernel_rfl) (by kernel_rfl) (fun _ _ _ h => h) (Or.inr ⟨by rfl, rfl⟩) HH.out ?_
        try simp only [List.getElem_toArray, List.getElem_cons_succ, List.getElem_cons_zero, Act.put, List.setIfInBounds_toArray, List.set_cons_zero, List.set_cons_succ]
        refine wpAnyH_take (i := 17) (v := undef) rfl (by kernel_rfl) (by kernel_rfl) (by kernel_rfl) (fun _ _ _ h => h) (Or.inr ⟨by rfl, rfl⟩) HH.out ?_
        refine wpAnyH_take (i := 18) (v := undef) rfl (by kernel_rfl) (by kernel_rfl) (by kernel_rfl) (fun _ _ _ h => h) (Or.inr ⟨by rfl, rfl⟩) HH.out ?_
        refine wpAnyH_take (i := 19) (v := undef) rfl (by kernel_rfl) (by kernel_rfl) (by kernel_rfl) (fun _ _ _ h => h) (Or.inr ⟨by rfl, rfl⟩) HH.out ?_
        try simp only [List.getElem_toArray, List.getElem_cons_succ, List.getElem_cons_zero, Act.put, List.setIfInBounds_toArray, List.set_cons_zero, List.set_cons_succ]
        refine wpAnyH_take (i := 20) (v := undef) rfl (by kernel_rfl) (by kernel_rfl) (by kernel_rfl) (fun _ _ _ h => h) (Or.inr ⟨by rfl, rfl⟩) HH.out ?_
        refine wpAnyH_take (i := 21) (v := ?vfA21) rfl (by kernel_rfl) (by kernel_rfl) (by kernel_rfl) (fun _ _ _ h => h) (Or.inl ⟨by rfl, fun w' _ => ?yfA21⟩) HH.out ?_
        case yfA21 => (go_simp; try with_reducible rfl)
        try simp only [List.getElem_toArray, List.getElem_cons_succ, List.getElem_cons_zero, Act.put, List.setIfInBounds_toArray, List.set_cons_zero, List.set_cons_succ]
        refine wpAnyH_done (by kernel_rfl) ?_ _
        clear HH hA e1
        go_wp2_with fail
        refine wp_region_held_drew (S := (fun w' => Blk w' b5 (fdC x) 57)) (by kernel_rfl) (show Blk (World.drew _) _ _ _ from Y6.out) (fun hh => ?_)
        have HH := Lib.hid hh
        clear hh
        refine wpAnyH_take (i := 0) (v := ?vs0) rfl (by kernel_rfl) (by kernel_rfl) (by kernel_rfl) (fun _ _ _ h => h) (Or.inl ⟨by rfl, fun w' _ => ?ys0⟩) HH.out ?_
        case ys0 => (go_simp; try with_reducible rfl)
        refine wpAnyH_take (i := 1) (v := ?vs1) rfl (by kernel_rfl) (by kernel_rfl) (by kernel_rfl) (fun _ _ _ h => h) (Or.inl ⟨by rfl, fun w' _ => ?ys1⟩) HH.out ?_
        case ys1 => (go_simp; try with_reducible rfl)
        try simp only [List.getElem_toArray, List.getElem_cons_succ, List.getElem_cons_zero, Act.put, List.setIfInBounds_toArray, List.set_cons_zero, List.set_cons_succ]
        refine wpAnyH_take (i := 2) (v := ?vs2) rfl (by kernel_rfl) (by kernel_rfl) (by kernel_rfl) (fun _ _ _ h => h) (Or.inl ⟨by rfl, fun w' _ => ?ys2⟩) HH.out ?_
        case ys2 => (go_simp; try with_reducible rfl)
        refine wpAnyH_take (i := 3) (v := ?vs3) rfl (by kernel_rfl) (by kernel_rfl) (by kernel_rfl) (fun _ _ _ h => h) (Or.inl ⟨by rfl, fun w' _ => ?ys3⟩) HH.out ?_
        case ys3 => (go_simp; try with_reducible rfl)
        refine wpAnyH_take (i := 4) (v := ?vs4) rfl (by kernel_rfl) (by kernel_rfl) (by kernel_rfl) (fun _ _ _ h => h) (Or.inl ⟨by rfl, fun w' _ => ?ys4⟩) HH.out ?_
        case ys4 => (go_simp; try with_reducible rfl)
        try simp only [List.getElem_toArray, List.getElem_cons_succ, List.getElem_cons_zero, Act.put, List.setIfInBounds_toArray, List.set_cons_zero, List.set_cons_succ]
        refine wpAnyH_take (i := 5) (v := ?vs5) rfl (by kernel_rfl) (by kernel_rfl) (by kernel_rfl) (fun _ _ _ h => h) (Or.inl ⟨by rfl, fun w' _ => ?ys5⟩) HH.out ?_
        case ys5 => (go_simp; try with_reducible rfl)
        refine wpAnyH_take (i := 6) (v := ?vs6) rfl (by kernel_rfl) (by kernel_rfl) (by kernel_rfl) (fun _ _ _ h => h) (Or.inl ⟨by rfl, fun w' _ => ?ys6⟩) HH.out ?_
        case ys6 => (go_simp; try with_reducible rfl)
        refine wpAnyH_take (i := 7) (v := .int .u64 (x.gen : Int)) rfl (by kernel_rfl) (by kernel_rfl) (by kernel_rfl) (fun _ _ _ h => h) (Or.inl ⟨by rfl, fun w' hw' => ?lg7⟩) HH.out ?_
        case lg7 => (have hc : w'.cell? ⟨b5, 1, none⟩ = some (.int .u64 (x.gen : Int)) := hw'.cell 1; go_simp; try with_reducible rfl)
        try simp only [List.getElem_toArray, List.getElem_cons_succ, List.getElem_cons_zero, Act.put, List.setIfInBounds_toArray, List.set_cons_zero, List.set_cons_succ]
        try simp only [List.getElem_toArray, List.getElem_cons_succ, List.getElem_cons_zero, Act.put, List.setIfInBounds_toArray, List.set_cons_zero, List.set_cons_succ]
        refine wpAnyH_take (i := 8) (v := ?vs8) rfl (by kernel_rfl) (by kernel_rfl) (by kernel_rfl) (fun _ _ _ h => h) (Or.inl ⟨by rfl, fun w' _ => ?ys8⟩) HH.out ?_
        case ys8 => (go_simp; try with_reducible rfl)
        refine wpAnyH_take (i := 9) (v := ?vs9) rfl (by kernel_rfl) (by kernel_rfl) (by kernel_rfl) (fun _ _ _ h => h) (Or.inl ⟨by rfl, fun w' _ => ?ys9⟩) HH.out ?_
        case ys9 => (go_simp; try with_reducible rfl)
        try simp only [List.getElem_toArray, List.getElem_cons_succ, List.getElem_cons_zero, Act.put, List.setIfInBounds_toArray, List.set_cons_zero, List.set_cons_succ]
        refine wpAnyH_ready (rs := [10]) (by kernel_rfl) (by simp) (AllReadyH.cons rfl (fun K hK => ?_) AllReadyH.nil)
        have y1 : w6.cell? ⟨q, 6, none⟩ = some (.int .i64 rr.seg) := X6.out.cell 6
        have y2 := X6.out.free 6
        go_simp
        obtain ⟨w7, hw7⟩ : ∃ W, W = (World.setCell w6 ⟨q, 6, none⟩ (.int .i64 (i : Int))).drew.drew := ⟨_, rfl⟩
        rw [← hw7]
        have X7 := Lib.hid (show Blk w7 q #[.pointer (some ⟨g, 0, none⟩), ci.v, .int .i64 (rr.segs : Int), .int .i64 (rr.size : Int), .map (some bm), .int .u64 (rr.known : Int), .int .i64 (i : Int), .int .i64 rr.slot] 106 by rw [hw7]; exact heap_setCell_same _ _ _ _ _ _ X6.out)
        have b7 : But (fun k => k = q) w6 w7 := by rw [hw7]; exact (But.setCell (S := fun k => k = q) (But.refl _) (Or.inl rfl) _).trans (but_below (Below.refl _ _).drew.drew)
        have Y7 := Lib.hid ((show Blk w6 b5 _ _ from Y6.out).but b7 HNE.out.1)
        have BQ7 := Lib.hid b7
        clear hw7 b7 y1 y2
        refine hK.out _ _ Y7.out (fun hh => ?_)
        have HH' := Lib.hid hh
        clear hh hK K HH
        have HH := Lib.hid HH'.out
        clear HH'
        try simp only [List.getElem_toArray, List.getElem_cons_succ, List.getElem_cons_zero, Act.put, List.setIfInBounds_toArray, List.set_cons_zero, List.set_cons_succ]
        try simp only [List.getElem_toArray, List.getElem_cons_succ, List.getElem_cons_zero, Act.put, List.setIfInBounds_toArray, List.set_cons_zero, List.set_cons_succ]
        refine wpAnyH_take (i := 11) (v := ?vs11) rfl (by kernel_rfl) (by kernel_rfl) (by kernel_rfl) (fun _ _ _ h => h) (Or.inl ⟨by rfl, fun w' _ => ?ys11⟩) HH.out ?_
        case ys11 => (go_simp; try with_reducible rfl)
        refine wpAnyH_take (i := 12) (v := ?vs12) rfl (by kernel_rfl) (by kernel_rfl) (by kernel_rfl) (fun _ _ _ h => h) (Or.inl ⟨by rfl, fun w' _ => ?ys12⟩) HH.out ?_
        case ys12 => (go_simp; try with_reducible rfl)
        try simp only [List.getElem_toArray, List.getElem_cons_succ, List.getElem_cons_zero, Act.put, List.setIfInBounds_toArray, List.set_cons_zero, List.set_cons_succ]
        refine wpAnyH_ready (rs := [13]) (by kernel_rfl) (by simp) (AllReadyH.cons rfl (fun K hK => ?_) AllReadyH.nil)
        have y1 : w7.cell? ⟨q, 7, none⟩ = some (.int .i64 rr.slot) := X7.out.cell 7
        have y2 := X7.out.free 7
        go_simp
        obtain ⟨w8, hw8⟩ : ∃ W, W = (World.setCell w7 ⟨q, 7, none⟩ (.int .i64 ((j : Int) + 1))) := ⟨_, rfl⟩
        rw [← hw8]
        have X8 := Lib.hid (show Blk w8 q #[.pointer (some ⟨g, 0, none⟩), ci.v, .int .i64 (rr.segs : Int), .int .i64 (rr.size : Int), .map (some bm), .int .u64 (rr.known : Int), .int .i64 (i : Int), .int .i64 ((j : Int) + 1)] 106 by rw [hw8]; exact heap_setCell_same _ _ _ _ _ _ X7.out)
        have b8 : But (fun k => k = q) w7 w8 := by rw [hw8]; exact But.setCell (S := fun k => k = q) (But.refl _) (Or.inl rfl) _
        have Y8 := Lib.hid ((show Blk w7 b5 _ _ from Y7.out).but b8 HNE.out.1)
        have BQ8 := Lib.hid (BQ7.out.trans b8)
        clear hw8 b8 y1 y2
        refine hK.out _ _ Y8.out (fun hh => ?_)
        have HH' := Lib.hid hh
        clear hh hK K HH
        have HH := Lib.hid HH'.out
        clear HH'
        try simp only [List.getElem_toArray, List.getElem_cons_succ, List.getElem_cons_zero, Act.put, List.setIfInBounds_toArray, List.set_cons_zero, List.set_cons_succ]
        try simp only [List.getElem_toArray, List.getElem_cons_succ, List.getElem_cons_zero, Act.put, List.setIfInBounds_toArray, List.set_cons_zero, List.set_cons_succ]
        refine wpAnyH_take (i := 14) (v := ?vs14) rfl (by kernel_rfl) (by kernel_rfl) (by kernel_rfl) (fun _ _ _ h => h) (Or.inl ⟨by rfl, fun w' _ => ?ys14⟩) HH.out ?_
        case ys14 => (go_simp; try with_reducible rfl)
        refine wpAnyH_take (i := 15) (v := ?vs15) rfl (by kernel_rfl) (by kernel_rfl) (by kernel_rfl) (fun _ _ _ h => h) (Or.inl ⟨by rfl, fun w' _ => ?ys15⟩) HH.out ?_
        case ys15 => (go_simp; try with_reducible rfl)
        try simp only [List.getElem_toArray, List.getElem_cons_succ, List.getElem_cons_zero, Act.put, List.setIfInBounds_toArray, List.set_cons_zero, List.set_cons_succ]
        refine wpAnyH_ready (rs := [16]) (by kernel_rfl) (by simp) (AllReadyH.cons rfl (fun K hK => ?_) AllReadyH.nil)
        have y1 : w8.cell? ⟨q, 5, none⟩ = some (.int .u64 (rr.known : Int)) := X8.out.cell 5
        have y2 := X8.out.free 5
        go_simp
        obtain ⟨w9, hw9⟩ : ∃ W, W = (World.setCell w8 ⟨q, 5, none⟩ (.int .u64 (x.gen : Int))) := ⟨_, rfl⟩
        rw [← hw9]
        have X9 := Lib.hid (show Blk w9 q #[.pointer (some ⟨g, 0, none⟩), ci.v, .int .i64 (rr.segs : Int), .int .i64 (rr.size : Int), .map (some bm), .int .u64 (x.gen : Int), .int .i64 (i : Int), .int .i64 ((j : Int) + 1)] 106 by rw [hw9]; exact heap_setCell_same _ _ _ _ _ _ X8.out)
        have b9 : But (fun k => k = q) w8 w9 := by rw [hw9]; exact But.setCell (S := fun k => k = q) (But.refl _) (Or.inl rfl) _
        have Y9 := Lib.hid ((show Blk w8 b5 _ _ from Y8.out).but b9 HNE.out.1)
        have BQ9 := Lib.hid (BQ8.out.trans b9)
        clear hw9 b9 y1 y2
        refine hK.out _ _ Y9.out (fun hh => ?_)
        have HH' := Lib.hid hh
        clear hh hK K HH
        have HH := Lib.hid HH'.out
        clear HH'
        try simp only [List.getElem_toArray, List.getElem_cons_succ, List.getElem_cons_zero, Act.put, List.setIfInBounds_toArray, List.set_cons_zero, List.set_cons_succ]
        try simp only [List.getElem_toArray, List.getElem_cons_succ, List.getElem_cons_zero, Act.put, List.setIfInBounds_toArray, List.set_cons_zero, List.set_cons_succ]
        refine wpAnyH_done (by kernel_rfl) ?_ _
        go_wp2_with fail
        go_round
        case rel =>
          refine ⟨p + 1, HLT.out, rfl, rr.learn x.it, Lib.hid HTK.out.symm, Lib.hid ⟨(rr.learn_segs x.it).1.trans HRS.out.1, (rr.learn_segs x.it).2.trans HRS.out.2⟩, Lib.hid ?_, Lib.hid ?_, Lib.hid ?_⟩
          · rw [LRN.out]
            exact ⟨X9.out, (gmap_of O6.out.map (BQ9.out) (fun e => O6.out.ne e.symm)), O6.out.ne, by rw [← LRN.out]; exact OKL.out⟩
          · exact (FdL (some ⟨gf, 0, none⟩) n c).but D6.out BQ9.out (fun k hk e => HQB.out.1 (e ▸ hk))
          · exact Mi.but_step BB6.out BQ9.out (fun _ h => .inl (.inl h))
        case measure => have := HLT.out; simp [intOf]; omega
      · have e1 : (rr.seg == -1) = false := beq_eq_false_iff_ne.2 hA
        by_cases hB : rr.known < x.gen
        · have d1 : decide ((x.gen : Int) > (rr.known : Int)) = true := decide_eq_true (by omega)
          have LRN := Lib.hid (show rr.learn x.it = ⟨rr.segs, rr.size, rr.gens.set i (some x.gen), x.gen, (i : Int), (j : Int) + 1⟩ by rw [Rl.learn, if_pos (.inr (.inl hB)), HIJ2.out.1, HIJ2.out.2]; rfl)
          refine wp_region_held_drew (S := (fun w' => Blk w' q (rwC g ci bm ⟨rr.segs, rr.size, rr.gens.set i (some x.gen), rr.known, rr.seg, rr.slot⟩) 106 ∧ Blk w' b5 (fdC x) 57)) (by kernel_rfl) ⟨(show Blk (World.drew _) _ _ _ from X6.out), (show Blk (World.drew _) _ _ _ from Y6.out)⟩ (fun hh => ?_)
          have HH := Lib.hid hh
          clear hh
          refine wpAnyH_take (i := 0) (v := ?vfB0) rfl (by kernel_rfl) (by kernel_rfl) (by kernel_rfl) (fun _ _ _ h => h) (Or.inl ⟨by rfl, fun w' _ => ?yfB0⟩) HH.out ?_
          case yfB0 => (go_simp; try with_reducible rfl)
          refine wpAnyH_take (i := 1) (v := ?vfB1) rfl (by kernel_rfl) (by kernel_rfl) (by kernel_rfl) (fun _ _ _ h => h) (Or.inl ⟨by rfl, fun w' _ => ?yfB1⟩) HH.out ?_
          case yfB1 => (go_simp; try with_reducible rfl)
          try simp only [List.getElem_toArray, List.getElem_cons_succ, List.getElem_cons_zero, Act.put, List.setIfInBounds_toArray, List.set_cons_zero, List.set_cons_succ]
          refine wpAnyH_take (i := 2) (v := ?vfB2) rfl (by kernel_rfl) (by kernel_rfl) (by kernel_rfl) (fun _ _ _ h => h) (Or.inl ⟨by rfl, fun w' _ => ?yfB2⟩) HH.out ?_
          case yfB2 => (go_simp; try with_reducible rfl)
          refine wpAnyH_take (i := 3) (v := .int .i64 rr.seg) rfl (by kernel_rfl) (by kernel_rfl) (by kernel_rfl) (fun _ _ _ h => h) (Or.inl ⟨by rfl, fun w' hw' => ?lfB3⟩) HH.out ?_
          case lfB3 => (have hc : w'.cell? ⟨q, 6, none⟩ = some (.int .i64 rr.seg) := hw'.1.cell 6; go_simp; try with_reducible rfl)
          try simp only [List.getElem_toArray, List.getElem_cons_succ, List.getElem_cons_zero, Act.put, List.setIfInBounds_toArray, List.set_cons_zero, List.set_cons_succ]
          refine wpAnyH_take (i := 4) (v := ?vfB4) rfl (by kernel_rfl) (by kernel_rfl) (by kernel_rfl) (fun _ _ _ h => h) (Or.inl ⟨by rfl, fun w' _ => ?yfB4⟩) HH.out ?_
          case yfB4 => (go_simp; try with_reducible rfl)
          try simp only [List.getElem_toArray, List.getElem_cons_succ, List.getElem_cons_zero, Act.put, List.setIfInBounds_toArray, List.set_cons_zero, List.set_cons_succ]
          refine wpAnyH_take (i := 5) (v := ?vfB5) rfl (by kernel_rfl) (by kernel_rfl) (by kernel_rfl) (fun _ _ _ h => h) (Or.inl ⟨by rfl, fun w' _ => ?yfB5⟩) HH.out ?_
          case yfB5 => (go_simp; try with_reducible rfl)
          refine wpAnyH_take (i := 6) (v := ?vfB6) rfl (by kernel_rfl) (by kernel_rfl) (by kernel_rfl) (fun _ _ _ h => h) (Or.inl ⟨by rfl, fun w' _ => ?yfB6⟩) HH.out ?_
          case yfB6 => (go_simp; try with_reducible rfl)
          refine wpAnyH_take (i := 7) (v := .int .u64 (x.gen : Int)) rfl (by kernel_rfl) (by kernel_rfl) (by kernel_rfl) (fun _ _ _ h => h) (Or.inl ⟨by rfl, fun w' hw' => ?lfB7⟩) HH.out ?_
          case lfB7 => (have hc : w'.cell? ⟨b5, 1, none⟩ = some (.int .u64 (x.gen : Int)) := hw'.2.cell 1; go_simp; try with_reducible rfl)
          try simp only [List.getElem_toArray, List.getElem_cons_succ, List.getElem_cons_zero, Act.put, List.setIfInBounds_toArray, List.set_cons_zero, List.set_cons_succ]
          try simp only [List.getElem_toArray, List.getElem_cons_succ, List.getElem_cons_zero, Act.put, List.setIfInBounds_toArray, List.set_cons_zero, List.set_cons_succ]
          refine wpAnyH_take (i := 8) (v := ?vfB8) rfl (by kernel_rfl) (by kernel_rfl) (by kernel_rfl) (fun _ _ _ h => h) (Or.inl ⟨by rfl, fun w' _ => ?yfB8⟩) HH.out ?_
          case yfB8 => (go_simp; try with_reducible rfl)
          refine wpAnyH_take (i := 9) (v := ?vfB9) rfl (by kernel_rfl) (by kernel_rfl) (by kernel_rfl) (fun _ _ _ h => h) (Or.inl ⟨by rfl, fun w' _ => ?yfB9⟩) HH.out ?_
          case yfB9 => (go_simp; try with_reducible rfl)
          refine wpAnyH_take (i := 10) (v := ?vfB10) rfl (by kernel_rfl) (by kernel_rfl) (by kernel_rfl) (fun _ _ _ h => h) (Or.inl ⟨by rfl, fun w' _ => ?yfB10⟩) HH.out ?_
          case yfB10 => (go_simp; try with_reducible rfl)
          try simp only [List.getElem_toArray, List.getElem_cons_succ, List.getElem_cons_zero, Act.put, List.setIfInBounds_toArray, List.set_cons_zero, List.set_cons_succ]
          refine wpAnyH_take (i := 11) (v := .int .u64 (rr.known : Int)) rfl (by kernel_rfl) (by kernel_rfl) (by kernel_rfl) (fun _ _ _ h => h) (Or.inl ⟨by rfl, fun w' hw' => ?lfB11⟩) HH.out ?_
          case lfB11 => (have hc : w'.cell? ⟨q, 5, none⟩ = some (.int .u64 (rr.known : Int)) := hw'.1.cell 5; go_simp; try with_reducible rfl)
          try simp only [List.getElem_toArray, List.getElem_cons_succ, List.getElem_cons_zero, Act.put, List.setIfInBounds_toArray, List.set_cons_zero, List.set_cons_succ]
          refine wpAnyH_take (i := 12) (v := ?vfB12) rfl (by kernel_rfl) (by kernel_rfl) (by kernel_rfl) (fun _ _ _ h => h) (Or.inl ⟨by rfl, fun w' _ => ?yfB12⟩) HH.out ?_
          case yfB12 => (go_simp; try with_reducible rfl)
          refine wpAnyH_take (i := 13) (v := ?vfB13) rfl (by kernel_rfl) (by kernel_rfl) (by kernel_rfl) (fun _ _ _ h => h) (Or.inl ⟨by rfl, fun w' _ => ?yfB13⟩) HH.out ?_
          case yfB13 => (go_simp; try with_reducible rfl)
          try simp only [List.getElem_toArray, List.getElem_cons_succ, List.getElem_cons_zero, Act.put, List.setIfInBounds_toArray, List.set_cons_zero, List.set_cons_succ]
          refine wpAnyH_take (i := 14) (v := ?vfB14) rfl (by kernel_rfl) (by kernel_rfl) (by kernel_rfl) (fun _ _ _ h => h) (Or.inl ⟨by rfl, fun w' _ => ?yfB14⟩) HH.out ?_
          case yfB14 => (go_simp; try with_reducible rfl)
          refine wpAnyH_take (i := 15) (v := undef) rfl (by kernel_rfl) (by kernel_rfl) (by kernel_rfl) (fun _ _ _ h => h) (Or.inr ⟨by rfl, rfl⟩) HH.out ?_
          refine wpAnyH_take (i := 16) (v := undef) rfl (by kernel_rfl) (by kernel_rfl) (by kernel_rfl) (fun _ _ _ h => h) (Or.inr ⟨by rfl, rfl⟩) HH.out ?_
          try simp only [List.getElem_toArray, List.getElem_cons_succ, List.getElem_cons_zero, Act.put, List.setIfInBounds_toArray, List.set_cons_zero, List.set_cons_succ]
          refine wpAnyH_take (i := 17) (v := undef) rfl (by kernel_rfl) (by kernel_rfl) (by kernel_rfl) (fun _ _ _ h => h) (Or.inr ⟨by rfl, rfl⟩) HH.out ?_
          refine wpAnyH_take (i := 18) (v := undef) rfl (by kernel_rfl) (by kernel_rfl) (by kernel_rfl) (fun _ _ _ h => h) (Or.inr ⟨by rfl, rfl⟩) HH.out ?_
          refine wpAnyH_take (i := 19) (v := undef) rfl (by kernel_rfl) (by kernel_rfl) (by kernel_rfl) (fun _ _ _ h => h) (Or.inr ⟨by rfl, rfl⟩) HH.out ?_
          try simp only [List.getElem_toArray, List.getElem_cons_succ, List.getElem_cons_zero, Act.put, List.setIfInBounds_toArray, List.set_cons_zero, List.set_cons_succ]
          refine wpAnyH_take (i := 20) (v := undef) rfl (by kernel_rfl) (by kernel_rfl) (by kernel_rfl) (fun _ _ _ h => h) (Or.inr ⟨by rfl, rfl⟩) HH.out ?_
          refine wpAnyH_take (i := 21) (v := ?vfB21) rfl (by kernel_rfl) (by kernel_rfl) (by kernel_rfl) (fun _ _ _ h => h) (Or.inl ⟨by rfl, fun w' _ => ?yfB21⟩) HH.out ?_
          case yfB21 => (go_simp; try with_reducible rfl)
          try simp only [List.getElem_toArray, List.getElem_cons_succ, List.getElem_cons_zero, Act.put, List.setIfInBounds_toArray, List.set_cons_zero, List.set_cons_succ]
          refine wpAnyH_done (by kernel_rfl) ?_ _
          clear HH hA e1 hB d1
          go_wp2_with fail
          refine wp_region_held_drew (S := (fun w' => Blk w' b5 (fdC x) 57)) (by kernel_rfl) (show Blk (World.drew _) _ _ _ from Y6.out) (fun hh => ?_)
          have HH := Lib.hid hh
          clear hh
          refine wpAnyH_take (i := 0) (v := ?vs0) rfl (by kernel_rfl) (by kernel_rfl) (by kernel_rfl) (fun _ _ _ h => h) (Or.inl ⟨by rfl, fun w' _ => ?ys0⟩) HH.out ?_
          case ys0 => (go_simp; try with_reducible rfl)
          refine wpAnyH_take (i := 1) (v := ?vs1) rfl (by kernel_rfl) (by kernel_rfl) (by kernel_rfl) (fun _ _ _ h => h) (Or.inl ⟨by rfl, fun w' _ => ?ys1⟩) HH.out ?_
          case ys1 => (go_simp; try with_reducible rfl)
          try simp only [List.getElem_toArray, List.getElem_cons_succ, List.getElem_cons_zero, Act.put, List.setIfInBounds_toArray, List.set_cons_zero, List.set_cons_succ]
          refine wpAnyH_take (i := 2) (v := ?vs2) rfl (by kernel_rfl) (by kernel_rfl) (by kernel_rfl) (fun _ _ _ h => h) (Or.inl ⟨by rfl, fun w' _ => ?ys2⟩) HH.out ?_
          case ys2 => (go_simp; try with_reducible rfl)
          refine wpAnyH_take (i := 3) (v := ?vs3) rfl (by kernel_rfl) (by kernel_rfl) (by kernel_rfl) (fun _ _ _ h => h) (Or.inl ⟨by rfl, fun w' _ => ?ys3⟩) HH.out ?_
          case ys3 => (go_simp; try with_reducible rfl)
          refine wpAnyH_take (i := 4) (v := ?vs4) rfl (by kernel_rfl) (by kernel_rfl) (by kernel_rfl) (fun _ _ _ h => h) (Or.inl ⟨by rfl, fun w' _ => ?ys4⟩) HH.out ?_
          case ys4 => (go_simp; try with_reducible rfl)
          try simp only [List.getElem_toArray, List.getElem_cons_succ, List.getElem_cons_zero, Act.put, List.setIfInBounds_toArray, List.set_cons_zero, List.set_cons_succ]
          refine wpAnyH_take (i := 5) (v := ?vs5) rfl (by kernel_rfl) (by kernel_rfl) (by kernel_rfl) (fun _ _ _ h => h) (Or.inl ⟨by rfl, fun w' _ => ?ys5⟩) HH.out ?_
          case ys5 => (go_simp; try with_reducible rfl)
          refine wpAnyH_take (i := 6) (v := ?vs6) rfl (by kernel_rfl) (by kernel_rfl) (by kernel_rfl) (fun _ _ _ h => h) (Or.inl ⟨by rfl, fun w' _ => ?ys6⟩) HH.out ?_
          case ys6 => (go_simp; try with_reducible rfl)
          refine wpAnyH_take (i := 7) (v := .int .u64 (x.gen : Int)) rfl (by kernel_rfl) (by kernel_rfl) (by kernel_rfl) (fun _ _ _ h => h) (Or.inl ⟨by rfl, fun w' hw' => ?lg7⟩) HH.out ?_
          case lg7 => (have hc : w'.cell? ⟨b5, 1, none⟩ = some (.int .u64 (x.gen : Int)) := hw'.cell 1; go_simp; try with_reducible rfl)
          try simp only [List.getElem_toArray, List.getElem_cons_succ, List.getElem_cons_zero, Act.put, List.setIfInBounds_toArray, List.set_cons_zero, List.set_cons_succ]
          try simp only [List.getElem_toArray, List.getElem_cons_succ, List.getElem_cons_zero, Act.put, List.setIfInBounds_toArray, List.set_cons_zero, List.set_cons_succ]
          refine wpAnyH_take (i := 8) (v := ?vs8) rfl (by kernel_rfl) (by kernel_rfl) (by kernel_rfl) (fun _ _ _ h => h) (Or.inl ⟨by rfl, fun w' _ => ?ys8⟩) HH.out ?_
          case ys8 => (go_simp; try with_reducible rfl)
          refine wpAnyH_take (i := 9) (v := ?vs9) rfl (by kernel_rfl) (by kernel_rfl) (by kernel_rfl) (fun _ _ _ h => h) (Or.inl ⟨by rfl, fun w' _ => ?ys9⟩) HH.out ?_
          case ys9 => (go_simp; try with_reducible rfl)
          try simp only [List.getElem_toArray, List.getElem_cons_succ, List.getElem_cons_zero, Act.put, List.setIfInBounds_toArray, List.set_cons_zero, List.set_cons_succ]
          refine wpAnyH_ready (rs := [10]) (by kernel_rfl) (by simp) (AllReadyH.cons rfl (fun K hK => ?_) AllReadyH.nil)
          have y1 : w6.cell? ⟨q, 6, none⟩ = some (.int .i64 rr.seg) := X6.out.cell 6
          have y2 := X6.out.free 6
          go_simp
          obtain ⟨w7, hw7⟩ : ∃ W, W = (World.setCell w6 ⟨q, 6, none⟩ (.int .i64 (i : Int))).drew.drew := ⟨_, rfl⟩
          rw [← hw7]
          have X7 := Lib.hid (show Blk w7 q #[.pointer (some ⟨g, 0, none⟩), ci.v, .int .i64 (rr.segs : Int), .int .i64 (rr.size : Int), .map (some bm), .int .u64 (rr.known : Int), .int .i64 (i : Int), .int .i64 rr.slot] 106 by rw [hw7]; exact heap_setCell_same _ _ _ _ _ _ X6.out)
          have b7 : But (fun k => k = q) w6 w7 := by rw [hw7]; exact (But.setCell (S := fun k => k = q) (But.refl _) (Or.inl rfl) _).trans (but_below (Below.refl _ _).drew.drew)
          have Y7 := Lib.hid ((show Blk w6 b5 _ _ from Y6.out).but b7 HNE.out.1)
          have BQ7 := Lib.hid b7
          clear hw7 b7 y1 y2
          refine hK.out _ _ Y7.out (fun hh => ?_)
          have HH' := Lib.hid hh
          clear hh hK K HH
          have HH := Lib.hid HH'.out
          clear HH'
          try simp only [List.getElem_toArray, List.getElem_cons_succ, List.getElem_cons_zero, Act.put, List.setIfInBounds_toArray, List.set_cons_zero, List.set_cons_succ]
          try simp only [List.getElem_toArray, List.getElem_cons_succ, List.getElem_cons_zero, Act.put, List.setIfInBounds_toArray, List.set_cons_zero, List.set_cons_succ]
          refine wpAnyH_take (i := 11) (v := ?vs11) rfl (by kernel_rfl) (by kernel_rfl) (by kernel_rfl) (fun _ _ _ h => h) (Or.inl ⟨by rfl, fun w' _ => ?ys11⟩) HH.out ?_
          case ys11 => (go_simp; try with_reducible rfl)
          refine wpAnyH_take (i := 12) (v := ?vs12) rfl (by kernel_rfl) (by kernel_rfl) (by kernel_rfl) (fun _ _ _ h => h) (Or.inl ⟨by rfl, fun w' _ => ?ys12⟩) HH.out ?_
          case ys12 => (go_simp; try with_reducible rfl)
          try simp only [List.getElem_toArray, List.getElem_cons_succ, List.getElem_cons_zero, Act.put, List.setIfInBounds_toArray, List.set_cons_zero, List.set_cons_succ]
          refine wpAnyH_ready (rs := [13]) (by kernel_rfl) (by simp) (AllReadyH.cons rfl (fun K hK => ?_) AllReadyH.nil)
          have y1 : w7.cell? ⟨q, 7, none⟩ = some (.int .i64 rr.slot) := X7.out.cell 7
          have y2 := X7.out.free 7
          go_simp
          obtain ⟨w8, hw8⟩ : ∃ W, W = (World.setCell w7 ⟨q, 7, none⟩ (.int .i64 ((j : Int) + 1))) := ⟨_, rfl⟩
          rw [← hw8]
          have X8 := Lib.hid (show Blk w8 q #[.pointer (some ⟨g, 0, none⟩), ci.v, .int .i64 (rr.segs : Int), .int .i64 (rr.size : Int), .map (some bm), .int .u64 (rr.known : Int), .int .i64 (i : Int), .int .i64 ((j : Int) + 1)] 106 by rw [hw8]; exact heap_setCell_same _ _ _ _ _ _ X7.out)
          have b8 : But (fun k => k = q) w7 w8 := by rw [hw8]; exact But.setCell (S := fun k => k = q) (But.refl _) (Or.inl rfl) _
          have Y8 := Lib.hid ((show Blk w7 b5 _ _ from Y7.out).but b8 HNE.out.1)
          have BQ8 := Lib.hid (BQ7.out.trans b8)
          clear hw8 b8 y1 y2
          refine hK.out _ _ Y8.out (fun hh => ?_)
          have HH' := Lib.hid hh
          clear hh hK K HH
          have HH := Lib.hid HH'.out
          clear HH'
          try simp only [List.getElem_toArray, List.getElem_cons_succ, List.getElem_cons_zero, Act.put, List.setIfInBounds_toArray, List.set_cons_zero, List.set_cons_succ]
          try simp only [List.getElem_toArray, List.getElem_cons_succ, List.getElem_cons_zero, Act.put, List.setIfInBounds_toArray, List.set_cons_zero, List.set_cons_succ]
          refine wpAnyH_take (i := 14) (v := ?vs14) rfl (by kernel_rfl) (by kernel_rfl) (by kernel_rfl) (fun _ _ _ h => h) (Or.inl ⟨by rfl, fun w' _ => ?ys14⟩) HH.out ?_
          case ys14 => (go_simp; try with_reducible rfl)
          refine wpAnyH_take (i := 15) (v := ?vs15) rfl (by kernel_rfl) (by kernel_rfl) (by kernel_rfl) (fun _ _ _ h => h) (Or.inl ⟨by rfl, fun w' _ => ?ys15⟩) HH.out ?_
          case ys15 => (go_simp; try with_reducible rfl)
          try simp only [List.getElem_toArray, List.getElem_cons_succ, List.getElem_cons_zero, Act.put, List.setIfInBounds_toArray, List.set_cons_zero, List.set_cons_succ]
          refine wpAnyH_ready (rs := [16]) (by kernel_rfl) (by simp) (AllReadyH.cons rfl (fun K hK => ?_) AllReadyH.nil)
          have y1 : w8.cell? ⟨q, 5, none⟩ = some (.int .u64 (rr.known : Int)) := X8.out.cell 5
          have y2 := X8.out.free 5
          go_simp
          obtain ⟨w9, hw9⟩ : ∃ W, W = (World.setCell w8 ⟨q, 5, none⟩ (.int .u64 (x.gen : Int))) := ⟨_, rfl⟩
          rw [← hw9]
          have X9 := Lib.hid (show Blk w9 q #[.pointer (some ⟨g, 0, none⟩), ci.v, .int .i64 (rr.segs : Int), .int .i64 (rr.size : Int), .map (some bm), .int .u64 (x.gen : Int), .int .i64 (i : Int), .int .i64 ((j : Int) + 1)] 106 by rw [hw9]; exact heap_setCell_same _ _ _ _ _ _ X8.out)
          have b9 : But (fun k => k = q) w8 w9 := by rw [hw9]; exact But.setCell (S := fun k => k = q) (But.refl _) (Or.inl rfl) _
          have Y9 := Lib.hid ((show Blk w8 b5 _ _ from Y8.out).but b9 HNE.out.1)
          have BQ9 := Lib.hid (BQ8.out.trans b9)
          clear hw9 b9 y1 y2
          refine hK.out _ _ Y9.out (fun hh => ?_)
          have HH' := Lib.hid hh
          clear hh hK K HH
          have HH := Lib.hid HH'.out
          clear HH'
          try simp only [List.getElem_toArray, List.getElem_cons_succ, List.getElem_cons_zero, Act.put, List.setIfInBounds_toArray, List.set_cons_zero, List.set_cons_succ]
          try simp only [List.getElem_toArray, List.getElem_cons_succ, List.getElem_cons_zero, Act.put, List.setIfInBounds_toArray, List.set_cons_zero, List.set_cons_succ]
          refine wpAnyH_done (by kernel_rfl) ?_ _
          go_wp2_with fail
          go_round
          case rel =>
            refine ⟨p + 1, HLT.out, rfl, rr.learn x.it, Lib.hid HTK.out.symm, Lib.hid ⟨(rr.learn_segs x.it).1.trans HRS.out.1, (rr.learn_segs x.it).2.trans HRS.out.2⟩, Lib.hid ?_, Lib.hid ?_, Lib.hid ?_⟩
            · rw [LRN.out]
              exact ⟨X9.out, (gmap_of O6.out.map (BQ9.out) (fun e => O6.out.ne e.symm)), O6.out.ne, by rw [← LRN.out]; exact OKL.out⟩
            · exact (FdL (some ⟨gf, 0, none⟩) n c).but D6.out BQ9.out (fun k hk e => HQB.out.1 (e ▸ hk))
            · exact Mi.but_step BB6.out BQ9.out (fun _ h => .inl (.inl h))
          case measure => have := HLT.out; simp [intOf]; omega
        · have d1 : decide ((x.gen : Int) > (rr.known : Int)) = false := decide_eq_false (by omega)
          by_cases hC : (i : Int) = rr.seg
          · have e2 : ((i : Int) == rr.seg) = true := by rw [hC]; exact beq_self_eq_true _
            have LRN := Lib.hid (show rr.learn x.it = ⟨rr.segs, rr.size, rr.gens.set i (some x.gen), x.gen, (i : Int), (j : Int) + 1⟩ by rw [Rl.learn, if_pos (.inr (.inr (by rw [← hC, HIJ2.out.1]; rfl))), HIJ2.out.1, HIJ2.out.2]; rfl)
            refine wp_region_held_drew (S := (fun w' => Blk w' q (rwC g ci bm ⟨rr.segs, rr.size, rr.gens.set i (some x.gen), rr.known, rr.seg, rr.slot⟩) 106 ∧ Blk w' b5 (fdC x) 57)) (by kernel_rfl) ⟨(show Blk (World.drew _) _ _ _ from X6.out), (show Blk (World.drew _) _ _ _ from Y6.out)⟩ (fun hh => ?_)
            have HH := Lib.hid hh
            clear hh
            refine wpAnyH_take (i := 0) (v := ?vfC0) rfl (by kernel_rfl) (by kernel_rfl) (by kernel_rfl) (fun _ _ _ h => h) (Or.inl ⟨by rfl, fun w' _ => ?yfC0⟩) HH.out ?_
            case yfC0 => (go_simp; try with_reducible rfl)
            refine wpAnyH_take (i := 1) (v := ?vfC1) rfl (by kernel_rfl) (by kernel_rfl) (by kernel_rfl) (fun _ _ _ h => h) (Or.inl ⟨by rfl, fun w' _ => ?yfC1⟩) HH.out ?_
            case yfC1 => (go_simp; try with_reducible rfl)
            try simp only [List.getElem_toArray, List.getElem_cons_succ, List.getElem_cons_zero, Act.put, List.setIfInBounds_toArray, List.set_cons_zero, List.set_cons_succ]
            refine wpAnyH_take (i := 2) (v := ?vfC2) rfl (by kernel_rfl) (by kernel_rfl) (by kernel_rfl) (fun _ _ _ h => h) (Or.inl ⟨by rfl, fun w' _ => ?yfC2⟩) HH.out ?_
            case yfC2 => (go_simp; try with_reducible rfl)
            refine wpAnyH_take (i := 3) (v := .int .i64 rr.seg) rfl (by kernel_rfl) (by kernel_rfl) (by kernel_rfl) (fun _ _ _ h => h) (Or.inl ⟨by rfl, fun w' hw' => ?lfC3⟩) HH.out ?_
            case lfC3 => (have hc : w'.cell? ⟨q, 6, none⟩ = some (.int .i64 rr.seg) := hw'.1.cell 6; go_simp; try with_reducible rfl)
            try simp only [List.getElem_toArray, List.getElem_cons_succ, List.getElem_cons_zero, Act.put, List.setIfInBounds_toArray, List.set_cons_zero, List.set_cons_succ]
            refine wpAnyH_take (i := 4) (v := ?vfC4) rfl (by kernel_rfl) (by kernel_rfl) (by kernel_rfl) (fun _ _ _ h => h) (Or.inl ⟨by rfl, fun w' _ => ?yfC4⟩) HH.out ?_
            case yfC4 => (go_simp; try with_reducible rfl)
            try simp only [List.getElem_toArray, List.getElem_cons_succ, List.getElem_cons_zero, Act.put, List.setIfInBounds_toArray, List.set_cons_zero, List.set_cons_succ]
            refine wpAnyH_take (i := 5) (v := ?vfC5) rfl (by kernel_rfl) (by kernel_rfl) (by kernel_rfl) (fun _ _ _ h => h) (Or.inl ⟨by rfl, fun w' _ => ?yfC5⟩) HH.out ?_
            case yfC5 => (go_simp; try with_reducible rfl)
            refine wpAnyH_take (i := 6) (v := ?vfC6) rfl (by kernel_rfl) (by kernel_rfl) (by kernel_rfl) (fun _ _ _ h => h) (Or.inl ⟨by rfl, fun w' _ => ?yfC6⟩) HH.out ?_
            case yfC6 => (go_simp; try with_reducible rfl)
            refine wpAnyH_take (i := 7) (v := .int .u64 (x.gen : Int)) rfl (by kernel_rfl) (by kernel_rfl) (by kernel_rfl) (fun _ _ _ h => h) (Or.inl ⟨by rfl, fun w' hw' => ?lfC7⟩) HH.out ?_
            case lfC7 => (have hc : w'.cell? ⟨b5, 1, none⟩ = some (.int .u64 (x.gen : Int)) := hw'.2.cell 1; go_simp; try with_reducible rfl)
            try simp only [List.getElem_toArray, List.getElem_cons_succ, List.getElem_cons_zero, Act.put, List.setIfInBounds_toArray, List.set_cons_zero, List.set_cons_succ]
            try simp only [List.getElem_toArray, List.getElem_cons_succ, List.getElem_cons_zero, Act.put, List.setIfInBounds_toArray, List.set_cons_zero, List.set_cons_succ]
            refine wpAnyH_take (i := 8) (v := ?vfC8) rfl (by kernel_rfl) (by kernel_rfl) (by kernel_rfl) (fun _ _ _ h => h) (Or.inl ⟨by rfl, fun w' _ => ?yfC8⟩) HH.out ?_
            case yfC8 => (go_simp; try with_reducible rfl)
            refine wpAnyH_take (i := 9) (v := ?vfC9) rfl (by kernel_rfl) (by kernel_rfl) (by kernel_rfl) (fun _ _ _ h => h) (Or.inl ⟨by rfl, fun w' _ => ?yfC9⟩) HH.out ?_
            case yfC9 => (go_simp; try with_reducible rfl)
            refine wpAnyH_take (i := 10) (v := ?vfC10) rfl (by kernel_rfl) (by kernel_rfl) (by kernel_rfl) (fun _ _ _ h => h) (Or.inl ⟨by rfl, fun w' _ => ?yfC10⟩) HH.out ?_
            case yfC10 => (go_simp; try with_reducible rfl)
            try simp only [List.getElem_toArray, List.getElem_cons_succ, List.getElem_cons_zero, Act.put, List.setIfInBounds_toArray, List.set_cons_zero, List.set_cons_succ]
            refine wpAnyH_take (i := 11) (v := .int .u64 (rr.known : Int)) rfl (by kernel_rfl) (by kernel_rfl) (by kernel_rfl) (fun _ _ _ h => h) (Or.inl ⟨by rfl, fun w' hw' => ?lfC11⟩) HH.out ?_
            case lfC11 => (have hc : w'.cell? ⟨q, 5, none⟩ = some (.int .u64 (rr.known : Int)) := hw'.1.cell 5; go_simp; try with_reducible rfl)
            try simp only [List.getElem_toArray, List.getElem_cons_succ, List.getElem_cons_zero, Act.put, List.setIfInBounds_toArray, List.set_cons_zero, List.set_cons_succ]
            refine wpAnyH_take (i := 12) (v := ?vfC12) rfl (by kernel_rfl) (by kernel_rfl) (by kernel_rfl) (fun _ _ _ h => h) (Or.inl ⟨by rfl, fun w' _ => ?yfC12⟩) HH.out ?_
            case yfC12 => (go_simp; try with_reducible rfl)
            refine wpAnyH_take (i := 13) (v := ?vfC13) rfl (by kernel_rfl) (by kernel_rfl) (by kernel_rfl) (fun _ _ _ h => h) (Or.inl ⟨by rfl, fun w' _ => ?yfC13⟩) HH.out ?_
            case yfC13 => (go_simp; try with_reducible rfl)
            try simp only [List.getElem_toArray, List.getElem_cons_succ, List.getElem_cons_zero, Act.put, List.setIfInBounds_toArray, List.set_cons_zero, List.set_cons_succ]
            refine wpAnyH_take (i := 14) (v := ?vfC14) rfl (by kernel_rfl) (by kernel_rfl) (by kernel_rfl) (fun _ _ _ h => h) (Or.inl ⟨by rfl, fun w' _ => ?yfC14⟩) HH.out ?_
            case yfC14 => (go_simp; try with_reducible rfl)
            refine wpAnyH_take (i := 15) (v := ?vfC15) rfl (by kernel_rfl) (by kernel_rfl) (by kernel_rfl) (fun _ _ _ h => h) (Or.inl ⟨by rfl, fun w' _ => ?yfC15⟩) HH.out ?_
            case yfC15 => (go_simp; try with_reducible rfl)
            refine wpAnyH_take (i := 16) (v := ?vfC16) rfl (by kernel_rfl) (by kernel_rfl) (by kernel_rfl) (fun _ _ _ h => h) (Or.inl ⟨by rfl, fun w' _ => ?yfC16⟩) HH.out ?_
            case yfC16 => (go_simp; try with_reducible rfl)
            try simp only [List.getElem_toArray, List.getElem_cons_succ, List.getElem_cons_zero, Act.put, List.setIfInBounds_toArray, List.set_cons_zero, List.set_cons_succ]
            refine wpAnyH_take (i := 17) (v := ?vfC17) rfl (by kernel_rfl) (by kernel_rfl) (by kernel_rfl) (fun _ _ _ h => h) (Or.inl ⟨by rfl, fun w' _ => ?yfC17⟩) HH.out ?_
            case yfC17 => (go_simp; try with_reducible rfl)
            refine wpAnyH_take (i := 18) (v := ?vfC18) rfl (by kernel_rfl) (by kernel_rfl) (by kernel_rfl) (fun _ _ _ h => h) (Or.inl ⟨by rfl, fun w' _ => ?yfC18⟩) HH.out ?_
            case yfC18 => (go_simp; try with_reducible rfl)
            refine wpAnyH_take (i := 19) (v := .int .i64 rr.seg) rfl (by kernel_rfl) (by kernel_rfl) (by kernel_rfl) (fun _ _ _ h => h) (Or.inl ⟨by rfl, fun w' hw' => ?lfC19⟩) HH.out ?_
            case lfC19 => (have hc : w'.cell? ⟨q, 6, none⟩ = some (.int .i64 rr.seg) := hw'.1.cell 6; go_simp; try with_reducible rfl)
            try simp only [List.getElem_toArray, List.getElem_cons_succ, List.getElem_cons_zero, Act.put, List.setIfInBounds_toArray, List.set_cons_zero, List.set_cons_succ]
            try simp only [List.getElem_toArray, List.getElem_cons_succ, List.getElem_cons_zero, Act.put, List.setIfInBounds_toArray, List.set_cons_zero, List.set_cons_succ]
            refine wpAnyH_take (i := 20) (v := ?vfC20) rfl (by kernel_rfl) (by kernel_rfl) (by kernel_rfl) (fun _ _ _ h => h) (Or.inl ⟨by rfl, fun w' _ => ?yfC20⟩) HH.out ?_
            case yfC20 => (go_simp; try with_reducible rfl)
            refine wpAnyH_take (i := 21) (v := ?vfC21) rfl (by kernel_rfl) (by kernel_rfl) (by kernel_rfl) (fun _ _ _ h => h) (Or.inl ⟨by rfl, fun w' _ => ?yfC21⟩) HH.out ?_
            case yfC21 => (go_simp; try with_reducible rfl)
            try simp only [List.getElem_toArray, List.getElem_cons_succ, List.getElem_cons_zero, Act.put, List.setIfInBounds_toArray, List.set_cons_zero, List.set_cons_succ]
            refine wpAnyH_done (by kernel_rfl) ?_ _
            clear HH hA e1 hB d1 e2 hC
            go_wp2_with fail
            refine wp_region_held_drew (S := (fun w' => Blk w' b5 (fdC x) 57)) (by kernel_rfl) (show Blk (World.drew _) _ _ _ from Y6.out) (fun hh => ?_)
            have HH := Lib.hid hh
            clear hh
            refine wpAnyH_take (i := 0) (v := ?vs0) rfl (by kernel_rfl) (by kernel_rfl) (by kernel_rfl) (fun _ _ _ h => h) (Or.inl ⟨by rfl, fun w' _ => ?ys0⟩) HH.out ?_
            case ys0 => (go_simp; try with_reducible rfl)
            refine wpAnyH_take (i := 1) (v := ?vs1) rfl (by kernel_rfl) (by kernel_rfl) (by kernel_rfl) (fun _ _ _ h => h) (Or.inl ⟨by rfl, fun w' _ => ?ys1⟩) HH.out ?_
            case ys1 => (go_simp; try with_reducible rfl)
            try simp only [List.getElem_toArray, List.getElem_cons_succ, List.getElem_cons_zero, Act.put, List.setIfInBounds_toArray, List.set_cons_zero, List.set_cons_succ]
            refine wpAnyH_take (i := 2) (v := ?vs2) rfl (by kernel_rfl) (by kernel_rfl) (by kernel_rfl) (fun _ _ _ h => h) (Or.inl ⟨by rfl, fun w' _ => ?ys2⟩) HH.out ?_
            case ys2 => (go_simp; try with_reducible rfl)
            refine wpAnyH_take (i := 3) (v := ?vs3) rfl (by kernel_rfl) (by kernel_rfl) (by kernel_rfl) (fun _ _ _ h => h) (Or.inl ⟨by rfl, fun w' _ => ?ys3⟩) HH.out ?_
            case ys3 => (go_simp; try with_reducible rfl)
            refine wpAnyH_take (i := 4) (v := ?vs4) rfl (by kernel_rfl) (by kernel_rfl) (by kernel_rfl) (fun _ _ _ h => h) (Or.inl ⟨by rfl, fun w' _ => ?ys4⟩) HH.out ?_
            case ys4 => (go_simp; try with_reducible rfl)
            try simp only [List.getElem_toArray, List.getElem_cons_succ, List.getElem_cons_zero, Act.put, List.setIfInBounds_toArray, List.set_cons_zero, List.set_cons_succ]
            refine wpAnyH_take (i := 5) (v := ?vs5) rfl (by kernel_rfl) (by kernel_rfl) (by kernel_rfl) (fun _ _ _ h => h) (Or.inl ⟨by rfl, fun w' _ => ?ys5⟩) HH.out ?_
            case ys5 => (go_simp; try with_reducible rfl)
            refine wpAnyH_take (i := 6) (v := ?vs6) rfl (by kernel_rfl) (by kernel_rfl) (by kernel_rfl) (fun _ _ _ h => h) (Or.inl ⟨by rfl, fun w' _ => ?ys6⟩) HH.out ?_
            case ys6 => (go_simp; try with_reducible rfl)
            refine wpAnyH_take (i := 7) (v := .int .u64 (x.gen : Int)) rfl (by kernel_rfl) (by kernel_rfl) (by kernel_rfl) (fun _ _ _ h => h) (Or.inl ⟨by rfl, fun w' hw' => ?lg7⟩) HH.out ?_
            case lg7 => (have hc : w'.cell? ⟨b5, 1, none⟩ = some (.int .u64 (x.gen : Int)) := hw'.cell 1; go_simp; try with_reducible rfl)
            try simp only [List.getElem_toArray, List.getElem_cons_succ, List.getElem_cons_zero, Act.put, List.setIfInBounds_toArray, List.set_cons_zero, List.set_cons_succ]
            try simp only [List.getElem_toArray, List.getElem_cons_succ, List.getElem_cons_zero, Act.put, List.setIfInBounds_toArray, List.set_cons_zero, List.set_cons_succ]
            refine wpAnyH_take (i := 8) (v := ?vs8) rfl (by kernel_rfl) (by kernel_rfl) (by kernel_rfl) (fun _ _ _ h => h) (Or.inl ⟨by rfl, fun w' _ => ?ys8⟩) HH.out ?_
            case ys8 => (go_simp; try with_reducible rfl)
            refine wpAnyH_take (i := 9) (v := ?vs9) rfl (by kernel_rfl) (by kernel_rfl) (by kernel_rfl) (fun _ _ _ h => h) (Or.inl ⟨by rfl, fun w' _ => ?ys9⟩) HH.out ?_
            case ys9 => (go_simp; try with_reducible rfl)
            try simp only [List.getElem_toArray, List.getElem_cons_succ, List.getElem_cons_zero, Act.put, List.setIfInBounds_toArray, List.set_cons_zero, List.set_cons_succ]
            refine wpAnyH_ready (rs := [10]) (by kernel_rfl) (by simp) (AllReadyH.cons rfl (fun K hK => ?_) AllReadyH.nil)
            have y1 : w6.cell? ⟨q, 6, none⟩ = some (.int .i64 rr.seg) := X6.out.cell 6
            have y2 := X6.out.free 6
            go_simp
            obtain ⟨w7, hw7⟩ : ∃ W, W = (World.setCell w6 ⟨q, 6, none⟩ (.int .i64 (i : Int))).drew.drew := ⟨_, rfl⟩
            rw [← hw7]
            have X7 := Lib.hid (show Blk w7 q #[.pointer (some ⟨g, 0, none⟩), ci.v, .int .i64 (rr.segs : Int), .int .i64 (rr.size : Int), .map (some bm), .int .u64 (rr.known : Int), .int .i64 (i : Int), .int .i64 rr.slot] 106 by rw [hw7]; exact heap_setCell_same _ _ _ _ _ _ X6.out)
            have b7 : But (fun k => k = q) w6 w7 := by rw [hw7]; exact (But.setCell (S := fun k => k = q) (But.refl _) (Or.inl rfl) _).trans (but_below (Below.refl _ _).drew.drew)
            have Y7 := Lib.hid ((show Blk w6 b5 _ _ from Y6.out).but b7 HNE.out.1)
            have BQ7 := Lib.hid b7
            clear hw7 b7 y1 y2
            refine hK.out _ _ Y7.out (fun hh => ?_)
            have HH' := Lib.hid hh
            clear hh hK K HH
            have HH := Lib.hid HH'.out
            clear HH'
            try simp only [List.getElem_toArray, List.getElem_cons_succ, List.getElem_cons_zero, Act.put, List.setIfInBounds_toArray, List.set_cons_zero, List.set_cons_succ]
            try simp only [List.getElem_toArray, List.getElem_cons_succ, List.getElem_cons_zero, Act.put, List.setIfInBounds_toArray, List.set_cons_zero, List.set_cons_succ]
            refine wpAnyH_take (i := 11) (v := ?vs11) rfl (by kernel_rfl) (by kernel_rfl) (by kernel_rfl) (fun _ _ _ h => h) (Or.inl ⟨by rfl, fun w' _ => ?ys11⟩) HH.out ?_
            case ys11 => (go_simp; try with_reducible rfl)
            refine wpAnyH_take (i := 12) (v := ?vs12) rfl (by kernel_rfl) (by kernel_rfl) (by kernel_rfl) (fun _ _ _ h => h) (Or.inl ⟨by rfl, fun w' _ => ?ys12⟩) HH.out ?_
            case ys12 => (go_simp; try with_reducible rfl)
            try simp only [List.getElem_toArray, List.getElem_cons_succ, List.getElem_cons_zero, Act.put, List.setIfInBounds_toArray, List.set_cons_zero, List.set_cons_succ]
            refine wpAnyH_ready (rs := [13]) (by kernel_rfl) (by simp) (AllReadyH.cons rfl (fun K hK => ?_) AllReadyH.nil)
            have y1 : w7.cell? ⟨q, 7, none⟩ = some (.int .i64 rr.slot) := X7.out.cell 7
            have y2 := X7.out.free 7
            go_simp
            obtain ⟨w8, hw8⟩ : ∃ W, W = (World.setCell w7 ⟨q, 7, none⟩ (.int .i64 ((j : Int) + 1))) := ⟨_, rfl⟩
            rw [← hw8]
            have X8 := Lib.hid (show Blk w8 q #[.pointer (some ⟨g, 0, none⟩), ci.v, .int .i64 (rr.segs : Int), .int .i64 (rr.size : Int), .map (some bm), .int .u64 (rr.known : Int), .int .i64 (i : Int), .int .i64 ((j : Int) + 1)] 106 by rw [hw8]; exact heap_setCell_same _ _ _ _ _ _ X7.out)
            have b8 : But (fun k => k = q) w7 w8 := by rw [hw8]; exact But.setCell (S := fun k => k = q) (But.refl _) (Or.inl rfl) _
            have Y8 := Lib.hid ((show Blk w7 b5 _ _ from Y7.out).but b8 HNE.out.1)
            have BQ8 := Lib.hid (BQ7.out.trans b8)
            clear hw8 b8 y1 y2
            refine hK.out _ _ Y8.out (fun hh => ?_)
            have HH' := Lib.hid hh
            clear hh hK K HH
            have HH := Lib.hid HH'.out
            clear HH'
            try simp only [List.getElem_toArray, List.getElem_cons_succ, List.getElem_cons_zero, Act.put, List.setIfInBounds_toArray, List.set_cons_zero, List.set_cons_succ]
            try simp only [List.getElem_toArray, List.getElem_cons_succ, List.getElem_cons_zero, Act.put, List.setIfInBounds_toArray, List.set_cons_zero, List.set_cons_succ]
            refine wpAnyH_take (i := 14) (v := ?vs14) rfl (by kernel_rfl) (by kernel_rfl) (by kernel_rfl) (fun _ _ _ h => h) (Or.inl ⟨by rfl, fun w' _ => ?ys14⟩) HH.out ?_
            case ys14 => (go_simp; try with_reducible rfl)
            refine wpAnyH_take (i := 15) (v := ?vs15) rfl (by kernel_rfl) (by kernel_rfl) (by kernel_rfl) (fun _ _ _ h => h) (Or.inl ⟨by rfl, fun w' _ => ?ys15⟩) HH.out ?_
            case ys15 => (go_simp; try with_reducible rfl)
            try simp only [List.getElem_toArray, List.getElem_cons_succ, List.getElem_cons_zero, Act.put, List.setIfInBounds_toArray, List.set_cons_zero, List.set_cons_succ]
            refine wpAnyH_ready (rs := [16]) (by kernel_rfl) (by simp) (AllReadyH.cons rfl (fun K hK => ?_) AllReadyH.nil)
            have y1 : w8.cell? ⟨q, 5, none⟩ = some (.int .u64 (rr.known : Int)) := X8.out.cell 5
            have y2 := X8.out.free 5
            go_simp
            obtain ⟨w9, hw9⟩ : ∃ W, W = (World.setCell w8 ⟨q, 5, none⟩ (.int .u64 (x.gen : Int))) := ⟨_, rfl⟩
            rw [← hw9]
            have X9 := Lib.hid (show Blk w9 q #[.pointer (some ⟨g, 0, none⟩), ci.v, .int .i64 (rr.segs : Int), .int .i64 (rr.size : Int), .map (some bm), .int .u64 (x.gen : Int), .int .i64 (i : Int), .int .i64 ((j : Int) + 1)] 106 by rw [hw9]; exact heap_setCell_same _ _ _ _ _ _ X8.out)
            have b9 : But (fun k => k = q) w8 w9 := by rw [hw9]; exact But.setCell (S := fun k => k = q) (But.refl _) (Or.inl rfl) _
            have Y9 := Lib.hid ((show Blk w8 b5 _ _ from Y8.out).but b9 HNE.out.1)
            have BQ9 := Lib.hid (BQ8.out.trans b9)
            clear hw9 b9 y1 y2
            refine hK.out _ _ Y9.out (fun hh => ?_)
            have HH' := Lib.hid hh
            clear hh hK K HH
            have HH := Lib.hid HH'.out
            clear HH'
            try simp only [List.getElem_toArray, List.getElem_cons_succ, List.getElem_cons_zero, Act.put, List.setIfInBounds_toArray, List.set_cons_zero, List.set_cons_succ]
            try simp only [List.getElem_toArray, List.getElem_cons_succ, List.getElem_cons_zero, Act.put, List.setIfInBounds_toArray, List.set_cons_zero, List.set_cons_succ]
            refine wpAnyH_done (by kernel_rfl) ?_ _
            go_wp2_with fail
            go_round
            case rel =>
              refine ⟨p + 1, HLT.out, rfl, rr.learn x.it, Lib.hid HTK.out.symm, Lib.hid ⟨(rr.learn_segs x.it).1.trans HRS.out.1, (rr.learn_segs x.it).2.trans HRS.out.2⟩, Lib.hid ?_, Lib.hid ?_, Lib.hid ?_⟩
              · rw [LRN.out]
                exact ⟨X9.out, (gmap_of O6.out.map (BQ9.out) (fun e => O6.out.ne e.symm)), O6.out.ne, by rw [← LRN.out]; exact OKL.out⟩
              · exact (FdL (some ⟨gf, 0, none⟩) n c).but D6.out BQ9.out (fun k hk e => HQB.out.1 (e ▸ hk))
              · exact Mi.but_step BB6.out BQ9.out (fun _ h => .inl (.inl h))
            case measure => have := HLT.out; simp [intOf]; omega
          · have e2 : ((i : Int) == rr.seg) = false := beq_eq_false_iff_ne.2 hC
            have LRN := Lib.hid (show rr.learn x.it = ⟨rr.segs, rr.size, rr.gens.set i (some x.gen), rr.known, rr.seg, rr.slot⟩ by
              rw [Rl.learn, if_neg (fun h => h.elim hA (fun h => h.elim hB (fun h => hC (by rw [HIJ2.out.1]; exact h)))), HIJ2.out.1]; rfl)
            refine wp_region_held_drew (S := (fun w' => Blk w' q (rwC g ci bm ⟨rr.segs, rr.size, rr.gens.set i (some x.gen), rr.known, rr.seg, rr.slot⟩) 106 ∧ Blk w' b5 (fdC x) 57)) (by kernel_rfl) ⟨(show Blk (World.drew _) _ _ _ from X6.out), (show Blk (World.drew _) _ _ _ from Y6.out)⟩ (fun hh => ?_)
            have HH := Lib.hid hh
            clear hh
            refine wpAnyH_take (i := 0) (v := ?vfD0) rfl (by kernel_rfl) (by kernel_rfl) (by kernel_rfl) (fun _ _ _ h => h) (Or.inl ⟨by rfl, fun w' _ => ?yfD0⟩) HH.out ?_
            case yfD0 => (go_simp; try with_reducible rfl)
            refine wpAnyH_take (i := 1) (v := ?vfD1) rfl (by kernel_rfl) (by kernel_rfl) (by kernel_rfl) (fun _ _ _ h => h) (Or.inl ⟨by rfl, fun w' _ => ?yfD1⟩) HH.out ?_
            case yfD1 => (go_simp; try with_reducible rfl)
            try simp only [List.getElem_toArray, List.getElem_cons_succ, List.getElem_cons_zero, Act.put, List.setIfInBounds_toArray, List.set_cons_zero, List.set_cons_succ]
            refine wpAnyH_take (i := 2) (v := ?vfD2) rfl (by kernel_rfl) (by kernel_rfl) (by kernel_rfl) (fun _ _ _ h => h) (Or.inl ⟨by rfl, fun w' _ => ?yfD2⟩) HH.out ?_
            case yfD2 => (go_simp; try with_reducible rfl)
            refine wpAnyH_take (i := 3) (v := .int .i64 rr.seg) rfl (by kernel_rfl) (by kernel_rfl) (by kernel_rfl) (fun _ _ _ h => h) (Or.inl ⟨by rfl, fun w' hw' => ?lfD3⟩) HH.out ?_
            case lfD3 => (have hc : w'.cell? ⟨q, 6, none⟩ = some (.int .i64 rr.seg) := hw'.1.cell 6; go_simp; try with_reducible rfl)
            try simp only [List.getElem_toArray, List.getElem_cons_succ, List.getElem_cons_zero, Act.put, List.setIfInBounds_toArray, List.set_cons_zero, List.set_cons_succ]
            refine wpAnyH_take (i := 4) (v := ?vfD4) rfl (by kernel_rfl) (by kernel_rfl) (by kernel_rfl) (fun _ _ _ h => h) (Or.inl ⟨by rfl, fun w' _ => ?yfD4⟩) HH.out ?_
            case yfD4 => (go_simp; try with_reducible rfl)
            try simp only [List.getElem_toArray, List.getElem_cons_succ, List.getElem_cons_zero, Act.put, List.setIfInBounds_toArray, List.set_cons_zero, List.set_cons_succ]
            refine wpAnyH_take (i := 5) (v := ?vfD5) rfl (by kernel_rfl) (by kernel_rfl) (by kernel_rfl) (fun _ _ _ h => h) (Or.inl ⟨by rfl, fun w' _ => ?yfD5⟩) HH.out ?_
            case yfD5 => (go_simp; try with_reducible rfl)
            refine wpAnyH_take (i := 6) (v := ?vfD6) rfl (by kernel_rfl) (by kernel_rfl) (by kernel_rfl) (fun _ _ _ h => h) (Or.inl ⟨by rfl, fun w' _ => ?yfD6⟩) HH.out ?_
            case yfD6 => (go_simp; try with_reducible rfl)
            refine wpAnyH_take (i := 7) (v := .int .u64 (x.gen : Int)) rfl (by kernel_rfl) (by kernel_rfl) (by kernel_rfl) (fun _ _ _ h => h) (Or.inl ⟨by rfl, fun w' hw' => ?lfD7⟩) HH.out ?_
            case lfD7 => (have hc : w'.cell? ⟨b5, 1, none⟩ = some (.int .u64 (x.gen : Int)) := hw'.2.cell 1; go_simp; try with_reducible rfl)
            try simp only [List.getElem_toArray, List.getElem_cons_succ, List.getElem_cons_zero, Act.put, List.setIfInBounds_toArray, List.set_cons_zero, List.set_cons_succ]
            try simp only [List.getElem_toArray, List.getElem_cons_succ, List.getElem_cons_zero, Act.put, List.setIfInBounds_toArray, List.set_cons_zero, List.set_cons_succ]
            refine wpAnyH_take (i := 8) (v := ?vfD8) rfl (by kernel_rfl) (by kernel_rfl) (by kernel_rfl) (fun _ _ _ h => h) (Or.inl ⟨by rfl, fun w' _ => ?yfD8⟩) HH.out ?_
            case yfD8 => (go_simp; try with_reducible rfl)
            refine wpAnyH_take (i := 9) (v := ?vfD9) rfl (by kernel_rfl) (by kernel_rfl) (by kernel_rfl) (fun _ _ _ h => h) (Or.inl ⟨by rfl, fun w' _ => ?yfD9⟩) HH.out ?_
            case yfD9 => (go_simp; try with_reducible rfl)
            refine wpAnyH_take (i := 10) (v := ?vfD10) rfl (by kernel_rfl) (by kernel_rfl) (by kernel_rfl) (fun _ _ _ h => h) (Or.inl ⟨by rfl, fun w' _ => ?yfD10⟩) HH.out ?_
            case yfD10 => (go_simp; try with_reducible rfl)
            try simp only [List.getElem_toArray, List.getElem_cons_succ, List.getElem_cons_zero, Act.put, List.setIfInBounds_toArray, List.set_cons_zero, List.set_cons_succ]
            refine wpAnyH_take (i := 11) (v := .int .u64 (rr.known : Int)) rfl (by kernel_rfl) (by kernel_rfl) (by kernel_rfl) (fun _ _ _ h => h) (Or.inl ⟨by rfl, fun w' hw' => ?lfD11⟩) HH.out ?_
            case lfD11 => (have hc : w'.cell? ⟨q, 5, none⟩ = some (.int .u64 (rr.known : Int)) := hw'.1.cell 5; go_simp; try with_reducible rfl)
            try simp only [List.getElem_toArray, List.getElem_cons_succ, List.getElem_cons_zero, Act.put, List.setIfInBounds_toArray, List.set_cons_zero, List.set_cons_succ]
            refine wpAnyH_take (i := 12) (v := ?vfD12) rfl (by kernel_rfl) (by kernel_rfl) (by kernel_rfl) (fun _ _ _ h => h) (Or.inl ⟨by rfl, fun w' _ => ?yfD12⟩) HH.out ?_
            case yfD12 => (go_simp; try with_reducible rfl)
            refine wpAnyH_take (i := 13) (v := ?vfD13) rfl (by kernel_rfl) (by kernel_rfl) (by kernel_rfl) (fun _ _ _ h => h) (Or.inl ⟨by rfl, fun w' _ => ?yfD13⟩) HH.out ?_
            case yfD13 => (go_simp; try with_reducible rfl)
            try simp only [List.getElem_toArray, List.getElem_cons_succ, List.getElem_cons_zero, Act.put, List.setIfInBounds_toArray, List.set_cons_zero, List.set_cons_succ]
            refine wpAnyH_take (i := 14) (v := ?vfD14) rfl (by kernel_rfl) (by kernel_rfl) (by kernel_rfl) (fun _ _ _ h => h) (Or.inl ⟨by rfl, fun w' _ => ?yfD14⟩) HH.out ?_
            case yfD14 => (go_simp; try with_reducible rfl)
            refine wpAnyH_take (i := 15) (v := ?vfD15) rfl (by kernel_rfl) (by kernel_rfl) (by kernel_rfl) (fun _ _ _ h => h) (Or.inl ⟨by rfl, fun w' _ => ?yfD15⟩) HH.out ?_
            case yfD15 => (go_simp; try with_reducible rfl)
            refine wpAnyH_take (i := 16) (v := ?vfD16) rfl (by kernel_rfl) (by kernel_rfl) (by kernel_rfl) (fun _ _ _ h => h) (Or.inl ⟨by rfl, fun w' _ => ?yfD16⟩) HH.out ?_
            case yfD16 => (go_simp; try with_reducible rfl)
            try simp only [List.getElem_toArray, List.getElem_cons_succ, List.getElem_cons_zero, Act.put, List.setIfInBounds_toArray, List.set_cons_zero, List.set_cons_succ]
            refine wpAnyH_take (i := 17) (v := ?vfD17) rfl (by kernel_rfl) (by kernel_rfl) (by kernel_rfl) (fun _ _ _ h => h) (Or.inl ⟨by rfl, fun w' _ => ?yfD17⟩) HH.out ?_
            case yfD17 => (go_simp; try with_reducible rfl)
            refine wpAnyH_take (i := 18) (v := ?vfD18) rfl (by kernel_rfl) (by kernel_rfl) (by kernel_rfl) (fun _ _ _ h => h) (Or.inl ⟨by rfl, fun w' _ => ?yfD18⟩) HH.out ?_
            case yfD18 => (go_simp; try with_reducible rfl)
            refine wpAnyH_take (i := 19) (v := .int .i64 rr.seg) rfl (by kernel_rfl) (by kernel_rfl) (by kernel_rfl) (fun _ _ _ h => h) (Or.inl ⟨by rfl, fun w' hw' => ?lfD19⟩) HH.out ?_
            case lfD19 => (have hc : w'.cell? ⟨q, 6, none⟩ = some (.int .i64 rr.seg) := hw'.1.cell 6; go_simp; try with_reducible rfl)
            try simp only [List.getElem_toArray, List.getElem_cons_succ, List.getElem_cons_zero, Act.put, List.setIfInBounds_toArray, List.set_cons_zero, List.set_cons_succ]
            try simp only [List.getElem_toArray, List.getElem_cons_succ, List.getElem_cons_zero, Act.put, List.setIfInBounds_toArray, List.set_cons_zero, List.set_cons_succ]
            refine wpAnyH_take (i := 20) (v := ?vfD20) rfl (by kernel_rfl) (by kernel_rfl) (by kernel_rfl) (fun _ _ _ h => h) (Or.inl ⟨by rfl, fun w' _ => ?yfD20⟩) HH.out ?_
            case yfD20 => (go_simp; try with_reducible rfl)
            refine wpAnyH_take (i := 21) (v := ?vfD21) rfl (by kernel_rfl) (by kernel_rfl) (by kernel_rfl) (fun _ _ _ h => h) (Or.inl ⟨by rfl, fun w' _ => ?yfD21⟩) HH.out ?_
            case yfD21 => (go_simp; try with_reducible rfl)
            try simp only [List.getElem_toArray, List.getElem_cons_succ, List.getElem_cons_zero, Act.put, List.setIfInBounds_toArray, List.set_cons_zero, List.set_cons_succ]
            refine wpAnyH_done (by kernel_rfl) ?_ _
            clear HH hA e1 hB d1 e2 hC
            go_wp2_with fail
            go_round
            case rel =>
              refine ⟨p + 1, HLT.out, rfl, rr.learn x.it, Lib.hid HTK.out.symm, Lib.hid ⟨(rr.learn_segs x.it).1.trans HRS.out.1, (rr.learn_segs x.it).2.trans HRS.out.2⟩, Lib.hid ?_, Lib.hid ?_, Lib.hid ?_⟩
              · rw [LRN.out]
                exact O6.out.drew
              · exact (FdL (some ⟨gf, 0, none⟩) n c).below D6.out (Below.refl _ _).drew
              · exact Mi.but_step BB6.out (but_below (T := fun _ => False) (Below.refl _ _).drew) (fun _ h => h.elim)
            case measure => have := HLT.out; simp [intOf]; omega
    · obtain rfl : n = p := by omega
      go_wp2_with fail
      refine bodyPost_end (results_none Tryz.results37 _ _ _) rfl ⟨rfl, ?_, BR.out⟩
      have e : (l.take n) = l := List.take_of_length_le (by rw [HL.out]; exact Nat.le_refl _)
      have h1 := HRR.out
      rw [e] at h1
      rw [← h1]
      exact OR.out
end
end Go.Proofs.YtnplhagfmfggcaaGreat.Lo
/-
  The contract of the mirror's Choose.
-/
namespace Go.Proofs.YtnplhagfmfggcaaGreat.Mi
open Go.RowKit Kd
attribute [local go_sem ↓] Go.wp_at_zero Go.wp_at_succ
section
variable {C : Duo} {G : Gd} {g : Nat} {w w1 : World} {s : Mr C} {F1 F : Nat → Prop}
theorem choose1_enter (args : Array Value) (W : World) : (callFunc 77 args).run Tryz.prog W = .ok (.enter 77 args) W := by kernel_rfl
/-- What is asked of one device by Choose: does it read x, or is x written to it? -/
def Mr.c1 (s : Mr C) (n : Int) (x : List UInt8) (i : Nat) : Bool × Mr C :=
  if (C.rd s.d i n).1 = 0 then (if (C.rd s.d i n).2 = x then (true, s) else ((C.wr s.d i n x).1 == 0, s.dev (C.wr s.d i n x).2)) else (false, s)
theorem ml_read (h : (ML C G g).At w s F) {i : Nat} (hi : i < 2) (n : Int) : Calls Tryz.prog 64 #[.pointer (C.ptr i), .int .i64 n] w (RetB (.tuple #[.agg (bva (C.rd s.d i n).2), .int .i64 (C.rd s.d i n).1]) w) := by
  obtain ⟨F1, hd, _⟩ := ml_dev h
  exact C.crd hd hi n
theorem ml_rdlen (h : (ML C G g).At w s F) {i : Nat} (hi : i < 2) (n : Int) : (C.rd s.d i n).2.length = 128 := by
  obtain ⟨F1, hd, _⟩ := ml_dev h
  exact C.rd_len hd hi
theorem arg_cells {b : Nat} {n : Int} {x : List UInt8} {i : Nat} (hi : i < 2) (h : ((ML C G g).and (argB g n x b)).At w s F) : w.cell? ⟨g, i, none⟩ = some (.pointer (C.ptr i)) ∧ w.cell? ⟨b, 0, none⟩ = some (.pointer (some ⟨g, 0, none⟩)) ∧ w.cell? ⟨b + 1, 0, none⟩ = some (.int .i64 n) ∧ Blk w (b + 1 + 1) (bva x) 101 := by
  obtain ⟨F0, h0, _, h2, _⟩ := and_lift h
  exact ⟨(ml_ptr h0 hi).1, (h2 _ (by unfold argB; exact List.mem_cons_self)).cell 0, (h2 _ (by unfold argB; exact List.mem_cons_of_mem _ List.mem_cons_self)).cell 0, h2 _ (by unfold argB; exact List.mem_cons_of_mem _ (List.mem_cons_of_mem _ List.mem_cons_self))⟩
set_option maxRecDepth 100000 in
set_option maxHeartbeats 6400000 in
theorem choose1_any {b : Nat} {n : Int} {x : List UInt8} (h : ((ML C G g).and (argB g n x b)).At w s F) {i : Nat} (hi : i < 2) (hx : x.length = 128) (hm : C.most s.d < 1000000) :
    Calls Tryz.prog 77 #[.int .i64 i, .pointer (some ⟨b, 0, none⟩), .pointer (some ⟨b + 1, 0, none⟩), .pointer (some ⟨b + 1 + 1, 0, none⟩)] w (RetA ((ML C G g).and (argB g n x b)) (.bool (s.c1 n x i).1) (s.c1 n x i).2 F w) := by
  have HI := Lib.hid hi
  have HX3 := Lib.hid hx
  have HIX : Hid ((Tryz.prog.info? 101).map (·.size) = some (bva x).size) := by rw [bva_size, hx]; exact info_sec
  have i0 : (0 : Int) ≤ (i : Int) := by omega
  have i1 : (i : Int) < 2 := by omega
  obtain ⟨z, hz0⟩ : ∃ z : List UInt8, z = zeroS := ⟨_, rfl⟩
  have hz : ∀ W, (zeroValue 101).run Tryz.prog W = .ok (.agg (bva z)) W := fun _ => by rw [hz0]; kernel_rfl
  have HZ3 := Lib.hid (show z.length = 128 by rw [hz0]; exact zeroS_length)
  have HP := Lib.hid (show ∀ w' s' F', ((ML C G g).and (argB g n x b)).At w' s' F' → _ from fun w' s' F' h => arg_cells (C := C) hi h)
  have H := Lib.hid h
  have HRD := Lib.hid (show ∀ w', Below w.heap.size w w' → Calls Tryz.prog 64 #[.pointer (C.ptr i), .int .i64 n] w' (RetB (.tuple #[.agg (bva (C.rd s.d i n).2), .int .i64 (C.rd s.d i n).1]) w') from fun w' hb => by
    obtain ⟨F0, h0, _⟩ := and_lift (((ML C G g).and (argB g n x b)).below h hb)
    exact ml_read h0 hi n)
  have HY3 := Lib.hid (show (C.rd s.d i n).2.length = 128 by
    obtain ⟨F0, h0, _⟩ := and_lift h
    exact ml_rdlen h0 hi n)
  obtain ⟨P, hP⟩ : ∃ P, P = C.ptr i := ⟨_, rfl⟩
  rw [← hP] at HP HRD
  have HPE := Lib.hid hP
  obtain ⟨r, hr⟩ : ∃ r, r = (C.rd s.d i n).1 := ⟨_, rfl⟩
  obtain ⟨y, hy⟩ : ∃ y, y = (C.rd s.d i n).2 := ⟨_, rfl⟩
  rw [← hr, ← hy] at HRD
  rw [← hy] at HY3
  obtain ⟨RV, hRV⟩ : ∃ RV, RV = s.c1 n x i := ⟨_, rfl⟩
  have HRV := Lib.hid (show RV = if r = 0 then (if y = x then (true, s) else ((C.wr s.d i n x).1 == 0, s.dev (C.wr s.d i n x).2)) else (false, s) by rw [hRV, Mr.c1, hr, hy])
  rw [← hRV]
  have HIY : Hid ((Tryz.prog.info? 101).map (·.size) = some (bva y).size) := by rw [bva_size, HY3.out]; exact info_sec
  have HMM := Lib.hid hm
  clear hRV hr hy hP hz0 h hi hx hm
  go_enter Tryz.func77, Tryz.ntmps77
  go_upto_region 1 with fail
  go_cut [6, 7] (fun a6 a7 wx => ∃ (q : Nat) (F' : Nat → Prop), a6 = .pointer (some ⟨q, 0, none⟩) ∧ a7 = .int .i64 r ∧ Mv ((ML C G g).and (argB g n x b)) w F wx s F' ∧ Bx w wx F' q (bva y) 101)
  case first =>
    go_wp2_with fail
    refine wp_region_held_drew (S := fun w' => w'.cell? ⟨g, i, none⟩ = some (.pointer P) ∧ w'.cell? ⟨b, 0, none⟩ = some (.pointer (some ⟨g, 0, none⟩)) ∧ w'.cell? ⟨b + 1, 0, none⟩ = some (.int .i64 n) ∧ Blk w' (b + 1 + 1) (bva x) 101) (by kernel_rfl) (HP.out _ _ _ (((ML C G g).and (argB g n x b)).below H.out (Below.refl _ _).drew)) (fun hh => ?_)
    have HH := Lib.hid hh
    clear hh
    refine wpAnyH_take (i := 0) (v := .pointer (some ⟨g, 0, none⟩)) rfl (by kernel_rfl) (by kernel_rfl) (by kernel_rfl) (fun _ _ _ h => h) (Or.inl ⟨by rfl, fun w' hw' => ?yD0⟩) HH.out ?_
    case yD0 => (have hc := hw'.2.1; go_simp; try with_reducible rfl)
    refine wpAnyH_take (i := 1) (v := ?vD1) rfl (by kernel_rfl) (by kernel_rfl) (by kernel_rfl) (fun _ _ _ h => h) (Or.inl ⟨by rfl, fun w' _ => ?yD1⟩) HH.out ?_
    case yD1 => (go_simp; try with_reducible rfl)
    try simp only [List.getElem_toArray, List.getElem_cons_succ, List.getElem_cons_zero, Act.put, List.setIfInBounds_toArray, List.set_cons_zero, List.set_cons_succ]
    refine wpAnyH_take (i := 2) (v := ?vD2) rfl (by kernel_rfl) (by kernel_rfl) (by kernel_rfl) (fun _ _ _ h => h) (Or.inl ⟨by rfl, fun w' _ => ?yD2⟩) HH.out ?_
    case yD2 => (go_simp; try with_reducible rfl)
    refine wpAnyH_take (i := 3) (v := ?vD3) rfl (by kernel_rfl) (by kernel_rfl) (by kernel_rfl) (fun _ _ _ h => h) (Or.inl ⟨by rfl, fun w' _ => ?yD3⟩) HH.out ?_
    case yD3 => (go_simp; try with_reducible rfl)
    refine wpAnyH_take (i := 4) (v := ?vD4) rfl (by kernel_rfl) (by kernel_rfl) (by kernel_rfl) (fun _ _ _ h => h) (Or.inl ⟨by rfl, fun w' _ => ?yD4⟩) HH.out ?_
    case yD4 => (go_simp; try with_reducible rfl)
    try simp only [List.getElem_toArray, List.getElem_cons_succ, List.getElem_cons_zero, Act.put, List.setIfInBounds_toArray, List.set_cons_zero, List.set_cons_succ]
    refine wpAnyH_take (i := 5) (v := .pointer P) rfl (by kernel_rfl) (by kernel_rfl) (by kernel_rfl) (fun _ _ _ h => h) (Or.inl ⟨by rfl, fun w' hw' => ?yD5⟩) HH.out ?_
    case yD5 => (have hc := hw'.1; go_simp; try with_reducible rfl)
    refine wpAnyH_take (i := 6) (v := .int .i64 n) rfl (by kernel_rfl) (by kernel_rfl) (by kernel_rfl) (fun _ _ _ h => h) (Or.inl ⟨by rfl, fun w' hw' => ?yD6⟩) HH.out ?_
    case yD6 => (have hc := hw'.2.2.1; go_simp; try with_reducible rfl)
    try simp only [List.getElem_toArray, List.getElem_cons_succ, List.getElem_cons_zero, Act.put, List.setIfInBounds_toArray, List.set_cons_zero, List.set_cons_succ]
    refine wpAnyH_ready (rs := [7, 11]) (by kernel_rfl) (by simp) (AllReadyH.cons rfl (fun K hK => ?_) (AllReadyH.cons rfl (fun K hK => ?_) AllReadyH.nil))
    · go_simp
      refine (HRD.out _ ((Below.refl w.heap.size w).drew)).mono ?_
      rintro e w2 ⟨rfl, bw⟩
      have B2 := Lib.hid (((Below.refl w.heap.size w).drew).trans (bw.mono ((Below.refl w.heap.size w).drew).size))
      clear bw
      go_simp
      refine hK.out _ _ (HP.out _ _ _ (((ML C G g).and (argB g n x b)).below H.out B2.out)) (fun hh => ?_)
      have HH' := Lib.hid hh
      clear hh hK K HH
      have HH := Lib.hid HH'.out
      clear HH'
      refine wpAnyH_take (i := 8) (v := ?vA8) rfl (by kernel_rfl) (by kernel_rfl) (by kernel_rfl) (fun _ _ _ h => h) (Or.inl ⟨by rfl, fun w' _ => ?yA8⟩) HH.out ?_
      case yA8 => (go_simp; try with_reducible rfl)
      refine wpAnyH_take (i := 9) (v := ?vA9) rfl (by kernel_rfl) (by kernel_rfl) (by kernel_rfl) (fun _ _ _ h => h) (Or.inl ⟨by rfl, fun w' _ => ?yA9⟩) HH.out ?_
      case yA9 => (go_simp; try with_reducible rfl)
      refine wpAnyH_take (i := 10) (v := ?vA10) rfl (by kernel_rfl) (by kernel_rfl) (by kernel_rfl) (fun _ _ _ h => h) (Or.inl ⟨by rfl, fun w' _ => ?yA10⟩) HH.out ?_
      case yA10 => (go_simp; try with_reducible rfl)
      try simp only [List.getElem_toArray, List.getElem_cons_succ, List.getElem_cons_zero, Act.put, List.setIfInBounds_toArray, List.set_cons_zero, List.set_cons_succ]
      refine wpAnyH_ready (rs := [11]) (by kernel_rfl) (by simp) (AllReadyH.cons rfl (fun K hK => ?_) AllReadyH.nil)
      go_simp
      refine hK.out _ _ (HP.out _ _ _ (((ML C G g).and (argB g n x b)).below H.out (B2.out.alloc B2.out.size _))) (fun hh => ?_)
      have HH' := Lib.hid hh
      clear hh hK K HH
      have HH := Lib.hid HH'.out
      clear HH'
      try simp only [List.getElem_toArray, List.getElem_cons_succ, List.getElem_cons_zero, Act.put, List.setIfInBounds_toArray, List.set_cons_zero, List.set_cons_succ]
      refine wpAnyH_ready (rs := [12]) (by kernel_rfl) (by simp) (AllReadyH.cons rfl (fun K hK => ?_) AllReadyH.nil)
      rw [if_pos (by rfl)]
      refine wp_store_row 101 (.tmp 6) (.tmp 17) rfl (w2.heap.size) (bva y) rfl rfl 101 (bva z) (heap_alloc_new _ _) HIY.out (by rw [bva_size, bva_size, HY3.out, HZ3.out]) (bva_one _) ?_
      have B3 := Lib.hid (show Below w.heap.size w ((w2.alloc (.cells (bva z) 101)).setRow (w2.heap.size) (bva y)) from below_setRow (B2.out.alloc B2.out.size _) (B2.out.size) _)
      have X3 := Lib.hid (show Blk ((w2.alloc (.cells (bva z) 101)).setRow (w2.heap.size) (bva y)) (w2.heap.size) (bva y) 101 from setRow_heap _ _ _ _ _ _ (heap_alloc_new _ _))
      refine hK.out _ _ (HP.out _ _ _ (((ML C G g).and (argB g n x b)).below H.out B3.out)) (fun hh => ?_)
      have HH' := Lib.hid hh
      clear hh hK K HH
      have HH := Lib.hid HH'.out
      clear HH'
      refine wpAnyH_take (i := 13) (v := ?vA13) rfl (by kernel_rfl) (by kernel_rfl) (by kernel_rfl) (fun _ _ _ h => h) (Or.inl ⟨by rfl, fun w' _ => ?yA13⟩) HH.out ?_
      case yA13 => (go_simp; try with_reducible rfl)
      try simp only [List.getElem_toArray, List.getElem_cons_succ, List.getElem_cons_zero, Act.put, List.setIfInBounds_toArray, List.set_cons_zero, List.set_cons_succ]
      refine wpAnyH_done (by kernel_rfl) ?_ _
      go_wp2_with fail
      go_meet
      exact ⟨_, F, rfl, rfl, (Mv.start H.out).below B3.out, Bx.new (Mv.start H.out) X3.out (B2.out.size)⟩
    · go_simp
      refine hK.out _ _ (HP.out _ _ _ (((ML C G g).and (argB g n x b)).below H.out ((Below.refl w.heap.size w).drew.alloc (Nat.le_refl _) (.cells (bva z) 101)))) (fun hh => ?_)
      have HH' := Lib.hid hh
      clear hh hK K HH
      have HH := Lib.hid HH'.out
      clear HH'
      try simp only [List.getElem_toArray, List.getElem_cons_succ, List.getElem_cons_zero, Act.put, List.setIfInBounds_toArray, List.set_cons_zero, List.set_cons_succ]
      refine wpAnyH_ready (rs := [7]) (by kernel_rfl) (by simp) (AllReadyH.cons rfl (fun K hK => ?_) AllReadyH.nil)
      go_simp
      refine (HRD.out _ (((Below.refl w.heap.size w).drew.alloc (Nat.le_refl _) (.cells (bva z) 101)))).mono ?_
      rintro e w2 ⟨rfl, bw⟩
      have B2 := Lib.hid ((((Below.refl w.heap.size w).drew.alloc (Nat.le_refl _) (.cells (bva z) 101))).trans (bw.mono (((Below.refl w.heap.size w).drew.alloc (Nat.le_refl _) (.cells (bva z) 101))).size))
      have X2 := Lib.hid (show Blk w2 w.heap.size (bva z) 101 from Blk.below (show Blk (w.drew.alloc (.cells (bva z) 101)) w.heap.size (bva z) 101 from heap_alloc_new _ _) bw)
      clear bw
      go_simp
      refine hK.out _ _ (HP.out _ _ _ (((ML C G g).and (argB g n x b)).below H.out B2.out)) (fun hh => ?_)
      have HH' := Lib.hid hh
      clear hh hK K HH
      have HH := Lib.hid HH'.out
      clear HH'
      refine wpAnyH_take (i := 8) (v := ?vB8) rfl (by kernel_rfl) (by kernel_rfl) (by kernel_rfl) (fun _ _ _ h => h) (Or.inl ⟨by rfl, fun w' _ => ?yB8⟩) HH.out ?_
      case yB8 => (go_simp; try with_reducible rfl)
      refine wpAnyH_take (i := 9) (v := ?vB9) rfl (by kernel_rfl) (by kernel_rfl) (by kernel_rfl) (fun _ _ _ h => h) (Or.inl ⟨by rfl, fun w' _ => ?yB9⟩) HH.out ?_
      case yB9 => (go_simp; try with_reducible rfl)
      refine wpAnyH_take (i := 10) (v := ?vB10) rfl (by kernel_rfl) (by kernel_rfl) (by kernel_rfl) (fun _ _ _ h => h) (Or.inl ⟨by rfl, fun w' _ => ?yB10⟩) HH.out ?_
      case yB10 => (go_simp; try with_reducible rfl)
      try simp only [List.getElem_toArray, List.getElem_cons_succ, List.getElem_cons_zero, Act.put, List.setIfInBounds_toArray, List.set_cons_zero, List.set_cons_succ]
      refine wpAnyH_ready (rs := [12]) (by kernel_rfl) (by simp) (AllReadyH.cons rfl (fun K hK => ?_) AllReadyH.nil)
      rw [if_pos (by rfl)]
      refine wp_store_row 101 (.tmp 6) (.tmp 17) rfl (w.heap.size) (bva y) rfl rfl 101 (bva z) (X2.out) HIY.out (by rw [bva_size, bva_size, HY3.out, HZ3.out]) (bva_one _) ?_
      have B3 := Lib.hid (show Below w.heap.size w (w2.setRow (w.heap.size) (bva y)) from below_setRow B2.out (Nat.le_refl _) _)
      have X3 := Lib.hid (show Blk (w2.setRow (w.heap.size) (bva y)) (w.heap.size) (bva y) 101 from setRow_heap _ _ _ _ _ _ (X2.out))
      refine hK.out _ _ (HP.out _ _ _ (((ML C G g).and (argB g n x b)).below H.out B3.out)) (fun hh => ?_)
      have HH' := Lib.hid hh
      clear hh hK K HH
      have HH := Lib.hid HH'.out
      clear HH'
      refine wpAnyH_take (i := 13) (v := ?vB13) rfl (by kernel_rfl) (by kernel_rfl) (by kernel_rfl) (fun _ _ _ h => h) (Or.inl ⟨by rfl, fun w' _ => ?yB13⟩) HH.out ?_
      case yB13 => (go_simp; try with_reducible rfl)
      try simp only [List.getElem_toArray, List.getElem_cons_succ, List.getElem_cons_zero, Act.put, List.setIfInBounds_toArray, List.set_cons_zero, List.set_cons_succ]
      refine wpAnyH_done (by kernel_rfl) ?_ _
      go_wp2_with fail
      go_meet
      exact ⟨_, F, rfl, rfl, (Mv.start H.out).below B3.out, Bx.new (Mv.start H.out) X3.out (Nat.le_refl _)⟩
  case rest =>
    obtain ⟨q, F', rfl, rfl, hm, hbx⟩ := hcut
    have M := Lib.hid hm
    have X := Lib.hid hbx
    clear hm hbx HRD
    by_cases hr0 : r = 0
    · subst hr0
      by_cases hyx : y = x
      · have HEND := Lib.hid (show RV = (true, s) by rw [HRV.out, if_pos rfl, if_pos hyx])
        have HEQ := Lib.hid (show ∀ W, (Op.equalIn 10000 101 (.agg (bva y)) (.agg (bva x))).run Tryz.prog W = .ok true W from fun W => by rw [eq_sec _ _ HY3.out HX3.out, decide_eq_true hyx])
        clear hyx
        go_wp2_with fail
        refine wp_region_held_drew (S := fun w' => w'.cell? ⟨g, i, none⟩ = some (.pointer P) ∧ w'.cell? ⟨b, 0, none⟩ = some (.pointer (some ⟨g, 0, none⟩)) ∧ w'.cell? ⟨b + 1, 0, none⟩ = some (.int .i64 n) ∧ Blk w' (b + 1 + 1) (bva x) 101 ∧ Blk w' q (bva y) 101) (by kernel_rfl) (⟨(HP.out _ _ _ (M.out.below (w2 := wc.drew) (Below.refl _ _).drew).at_).1, (HP.out _ _ _ (M.out.below (w2 := wc.drew) (Below.refl _ _).drew).at_).2.1, (HP.out _ _ _ (M.out.below (w2 := wc.drew) (Below.refl _ _).drew).at_).2.2.1, (HP.out _ _ _ (M.out.below (w2 := wc.drew) (Below.refl _ _).drew).at_).2.2.2, (X.out.below (w2 := wc.drew) (Below.refl _ _).drew).1⟩) (fun hh => ?_)
        have HH := Lib.hid hh
        clear hh
        refine wpAnyH_take (i := 0) (v := ?vEB0) rfl (by kernel_rfl) (by kernel_rfl) (by kernel_rfl) (fun _ _ _ h => h) (Or.inl ⟨by rfl, fun w' _ => ?yEB0⟩) HH.out ?_
        case yEB0 => (go_simp; try with_reducible rfl)
        refine wpAnyH_take (i := 1) (v := ?vEB1) rfl (by kernel_rfl) (by kernel_rfl) (by kernel_rfl) (fun _ _ _ h => h) (Or.inl ⟨by rfl, fun w' _ => ?yEB1⟩) HH.out ?_
        case yEB1 => (go_simp; try with_reducible rfl)
        try simp only [List.getElem_toArray, List.getElem_cons_succ, List.getElem_cons_zero, Act.put, List.setIfInBounds_toArray, List.set_cons_zero, List.set_cons_succ]
        refine wpAnyH_take (i := 2) (v := ?vEB2) rfl (by kernel_rfl) (by kernel_rfl) (by kernel_rfl) (fun _ _ _ h => h) (Or.inl ⟨by rfl, fun w' _ => ?yEB2⟩) HH.out ?_
        case yEB2 => (go_simp; try with_reducible rfl)
        refine wpAnyH_take (i := 3) (v := .agg (bva y)) rfl (by kernel_rfl) (by kernel_rfl) (by kernel_rfl) (fun _ _ _ h => h) (Or.inl ⟨by rfl, fun w' hw' => ?yEB3⟩) HH.out ?_
        case yEB3 => exact exec_load 101 (.tmp 6) rfl rfl hw'.2.2.2.2 Tryz.underlying101 rfl HIY.out
        refine wpAnyH_take (i := 4) (v := .agg (bva x)) rfl (by kernel_rfl) (by kernel_rfl) (by kernel_rfl) (fun _ _ _ h => h) (Or.inl ⟨by rfl, fun w' hw' => ?yEB4⟩) HH.out ?_
        case yEB4 => exact exec_load 101 (.tmp 3) rfl rfl hw'.2.2.2.1 Tryz.underlying101 rfl HIX.out
        try simp only [List.getElem_toArray, List.getElem_cons_succ, List.getElem_cons_zero, Act.put, List.setIfInBounds_toArray, List.set_cons_zero, List.set_cons_succ]
        refine wpAnyH_take (i := 5) (v := .bool true) rfl (by kernel_rfl) (by kernel_rfl) (by kernel_rfl) (fun _ _ _ h => h) (Or.inl ⟨by rfl, fun w' hw' => ?yEB5⟩) HH.out ?_
        case yEB5 => (go_simp; rw [HEQ.out]; rfl)
        try simp only [List.getElem_toArray, List.getElem_cons_succ, List.getElem_cons_zero, Act.put, List.setIfInBounds_toArray, List.set_cons_zero, List.set_cons_succ]
        refine wpAnyH_take (i := 6) (v := ?vEB6) rfl (by kernel_rfl) (by kernel_rfl) (by kernel_rfl) (fun _ _ _ h => h) (Or.inl ⟨by rfl, fun w' _ => ?yEB6⟩) HH.out ?_
        case yEB6 => (go_simp; try with_reducible rfl)
        refine wpAnyH_take (i := 7) (v := undef) rfl (by kernel_rfl) (by kernel_rfl) (by kernel_rfl) (fun _ _ _ h => h) (Or.inr ⟨by rfl, rfl⟩) HH.out ?_
        try simp only [List.getElem_toArray, List.getElem_cons_succ, List.getElem_cons_zero, Act.put, List.setIfInBounds_toArray, List.set_cons_zero, List.set_cons_succ]
        refine wpAnyH_take (i := 8) (v := undef) rfl (by kernel_rfl) (by kernel_rfl) (by kernel_rfl) (fun _ _ _ h => h) (Or.inr ⟨by rfl, rfl⟩) HH.out ?_
        refine wpAnyH_take (i := 9) (v := undef) rfl (by kernel_rfl) (by kernel_rfl) (by kernel_rfl) (fun _ _ _ h => h) (Or.inr ⟨by rfl, rfl⟩) HH.out ?_
        refine wpAnyH_take (i := 10) (v := undef) rfl (by kernel_rfl) (by kernel_rfl) (by kernel_rfl) (fun _ _ _ h => h) (Or.inr ⟨by rfl, rfl⟩) HH.out ?_
        try simp only [List.getElem_toArray, List.getElem_cons_succ, List.getElem_cons_zero, Act.put, List.setIfInBounds_toArray, List.set_cons_zero, List.set_cons_succ]
        refine wpAnyH_take (i := 11) (v := undef) rfl (by kernel_rfl) (by kernel_rfl) (by kernel_rfl) (fun _ _ _ h => h) (Or.inr ⟨by rfl, rfl⟩) HH.out ?_
        refine wpAnyH_take (i := 12) (v := undef) rfl (by kernel_rfl) (by kernel_rfl) (by kernel_rfl) (fun _ _ _ h => h) (Or.inr ⟨by rfl, rfl⟩) HH.out ?_
        refine wpAnyH_take (i := 13) (v := undef) rfl (by kernel_rfl) (by kernel_rfl) (by kernel_rfl) (fun _ _ _ h => h) (Or.inr ⟨by rfl, rfl⟩) HH.out ?_
        try simp only [List.getElem_toArray, List.getElem_cons_succ, List.getElem_cons_zero, Act.put, List.setIfInBounds_toArray, List.set_cons_zero, List.set_cons_succ]
        refine wpAnyH_take (i := 14) (v := undef) rfl (by kernel_rfl) (by kernel_rfl) (by kernel_rfl) (fun _ _ _ h => h) (Or.inr ⟨by rfl, rfl⟩) HH.out ?_
        refine wpAnyH_take (i := 15) (v := undef) rfl (by kernel_rfl) (by kernel_rfl) (by kernel_rfl) (fun _ _ _ h => h) (Or.inr ⟨by rfl, rfl⟩) HH.out ?_
        refine wpAnyH_take (i := 16) (v := undef) rfl (by kernel_rfl) (by kernel_rfl) (by kernel_rfl) (fun _ _ _ h => h) (Or.inr ⟨by rfl, rfl⟩) HH.out ?_
        try simp only [List.getElem_toArray, List.getElem_cons_succ, List.getElem_cons_zero, Act.put, List.setIfInBounds_toArray, List.set_cons_zero, List.set_cons_succ]
        refine wpAnyH_take (i := 17) (v := ?vEB17) rfl (by kernel_rfl) (by kernel_rfl) (by kernel_rfl) (fun _ _ _ h => h) (Or.inl ⟨by rfl, fun w' _ => ?yEB17⟩) HH.out ?_
        case yEB17 => (go_simp; try with_reducible rfl)
        refine wpAnyH_take (i := 18) (v := ?vEB18) rfl (by kernel_rfl) (by kernel_rfl) (by kernel_rfl) (fun _ _ _ h => h) (Or.inl ⟨by rfl, fun w' _ => ?yEB18⟩) HH.out ?_
        case yEB18 => (go_simp; try with_reducible rfl)
        refine wpAnyH_take (i := 19) (v := ?vEB19) rfl (by kernel_rfl) (by kernel_rfl) (by kernel_rfl) (fun _ _ _ h => h) (Or.inl ⟨by rfl, fun w' _ => ?yEB19⟩) HH.out ?_
        case yEB19 => (go_simp; try with_reducible rfl)
        try simp only [List.getElem_toArray, List.getElem_cons_succ, List.getElem_cons_zero, Act.put, List.setIfInBounds_toArray, List.set_cons_zero, List.set_cons_succ]
        refine wpAnyH_done (by kernel_rfl) ?_ _
        go_wp2_with fail
        go_ret
        exact ⟨by rw [HEND.out]; rfl, F', by rw [HEND.out]; exact M.out.below (Below.refl _ _).drew⟩
      · have HEND := Lib.hid (show RV = ((C.wr s.d i n x).1 == 0, s.dev (C.wr s.d i n x).2) by rw [HRV.out, if_pos rfl, if_neg hyx])
        have HEQ := Lib.hid (show ∀ W, (Op.equalIn 10000 101 (.agg (bva y)) (.agg (bva x))).run Tryz.prog W = .ok false W from fun W => by rw [eq_sec _ _ HY3.out HX3.out, decide_eq_false hyx])
        clear hyx
        have hd : ((ML C G g).and (argB g n x b)).At wc.drew s F' := ((ML C G g).and (argB g n x b)).below M.out.at_ (Below.refl _ _).drew
        obtain ⟨F0, hd0, hl⟩ := and_ret hd
        have HCW := Lib.hid ((ml_write hd0 HI.out n x HX3.out HMM.out).mono fun _ _ hr => hl hr)
        rw [← HPE.out] at HCW
        obtain ⟨rr, hrr⟩ : ∃ rr, rr = (C.wr s.d i n x).1 := ⟨_, rfl⟩
        rw [← hrr] at HCW HEND
        clear hd hl hd0 hrr
        go_wp2_with fail
        refine wp_region_held_drew (S := fun w' => w'.cell? ⟨g, i, none⟩ = some (.pointer P) ∧ w'.cell? ⟨b, 0, none⟩ = some (.pointer (some ⟨g, 0, none⟩)) ∧ w'.cell? ⟨b + 1, 0, none⟩ = some (.int .i64 n) ∧ Blk w' (b + 1 + 1) (bva x) 101 ∧ Blk w' q (bva y) 101) (by kernel_rfl) (⟨(HP.out _ _ _ (M.out.below (w2 := wc.drew) (Below.refl _ _).drew).at_).1, (HP.out _ _ _ (M.out.below (w2 := wc.drew) (Below.refl _ _).drew).at_).2.1, (HP.out _ _ _ (M.out.below (w2 := wc.drew) (Below.refl _ _).drew).at_).2.2.1, (HP.out _ _ _ (M.out.below (w2 := wc.drew) (Below.refl _ _).drew).at_).2.2.2, (X.out.below (w2 := wc.drew) (Below.refl _ _).drew).1⟩) (fun hh => ?_)
        have HH := Lib.hid hh
        clear hh
        refine wpAnyH_take (i := 0) (v := ?vEC0) rfl (by kernel_rfl) (by kernel_rfl) (by kernel_rfl) (fun _ _ _ h => h) (Or.inl ⟨by rfl, fun w' _ => ?yEC0⟩) HH.out ?_
        case yEC0 => (go_simp; try with_reducible rfl)
        refine wpAnyH_take (i := 1) (v := ?vEC1) rfl (by kernel_rfl) (by kernel_rfl) (by kernel_rfl) (fun _ _ _ h => h) (Or.inl ⟨by rfl, fun w' _ => ?yEC1⟩) HH.out ?_
        case yEC1 => (go_simp; try with_reducible rfl)
        try simp only [List.getElem_toArray, List.getElem_cons_succ, List.getElem_cons_zero, Act.put, List.setIfInBounds_toArray, List.set_cons_zero, List.set_cons_succ]
        refine wpAnyH_take (i := 2) (v := ?vEC2) rfl (by kernel_rfl) (by kernel_rfl) (by kernel_rfl) (fun _ _ _ h => h) (Or.inl ⟨by rfl, fun w' _ => ?yEC2⟩) HH.out ?_
        case yEC2 => (go_simp; try with_reducible rfl)
        refine wpAnyH_take (i := 3) (v := .agg (bva y)) rfl (by kernel_rfl) (by kernel_rfl) (by kernel_rfl) (fun _ _ _ h => h) (Or.inl ⟨by rfl, fun w' hw' => ?yEC3⟩) HH.out ?_
        case yEC3 => exact exec_load 101 (.tmp 6) rfl rfl hw'.2.2.2.2 Tryz.underlying101 rfl HIY.out
        refine wpAnyH_take (i := 4) (v := .agg (bva x)) rfl (by kernel_rfl) (by kernel_rfl) (by kernel_rfl) (fun _ _ _ h => h) (Or.inl ⟨by rfl, fun w' hw' => ?yEC4⟩) HH.out ?_
        case yEC4 => exact exec_load 101 (.tmp 3) rfl rfl hw'.2.2.2.1 Tryz.underlying101 rfl HIX.out
        try simp only [List.getElem_toArray, List.getElem_cons_succ, List.getElem_cons_zero, Act.put, List.setIfInBounds_toArray, List.set_cons_zero, List.set_cons_succ]
        refine wpAnyH_take (i := 5) (v := .bool false) rfl (by kernel_rfl) (by kernel_rfl) (by kernel_rfl) (fun _ _ _ h => h) (Or.inl ⟨by rfl, fun w' hw' => ?yEC5⟩) HH.out ?_
        case yEC5 => (go_simp; rw [HEQ.out]; rfl)
        try simp only [List.getElem_toArray, List.getElem_cons_succ, List.getElem_cons_zero, Act.put, List.setIfInBounds_toArray, List.set_cons_zero, List.set_cons_succ]
        refine wpAnyH_take (i := 6) (v := ?vEC6) rfl (by kernel_rfl) (by kernel_rfl) (by kernel_rfl) (fun _ _ _ h => h) (Or.inl ⟨by rfl, fun w' _ => ?yEC6⟩) HH.out ?_
        case yEC6 => (go_simp; try with_reducible rfl)
        refine wpAnyH_take (i := 7) (v := .pointer (some ⟨g, 0, none⟩)) rfl (by kernel_rfl) (by kernel_rfl) (by kernel_rfl) (fun _ _ _ h => h) (Or.inl ⟨by rfl, fun w' hw' => ?yEC7⟩) HH.out ?_
        case yEC7 => (have hc := hw'.2.1; go_simp; try with_reducible rfl)
        try simp only [List.getElem_toArray, List.getElem_cons_succ, List.getElem_cons_zero, Act.put, List.setIfInBounds_toArray, List.set_cons_zero, List.set_cons_succ]
        refine wpAnyH_take (i := 8) (v := ?vEC8) rfl (by kernel_rfl) (by kernel_rfl) (by kernel_rfl) (fun _ _ _ h => h) (Or.inl ⟨by rfl, fun w' _ => ?yEC8⟩) HH.out ?_
        case yEC8 => (go_simp; try with_reducible rfl)
        try simp only [List.getElem_toArray, List.getElem_cons_succ, List.getElem_cons_zero, Act.put, List.setIfInBounds_toArray, List.set_cons_zero, List.set_cons_succ]
        refine wpAnyH_take (i := 9) (v := ?vEC9) rfl (by kernel_rfl) (by kernel_rfl) (by kernel_rfl) (fun _ _ _ h => h) (Or.inl ⟨by rfl, fun w' _ => ?yEC9⟩) HH.out ?_
        case yEC9 => (go_simp; try with_reducible rfl)
        try simp only [List.getElem_toArray, List.getElem_cons_succ, List.getElem_cons_zero, Act.put, List.setIfInBounds_toArray, List.set_cons_zero, List.set_cons_succ]
        refine wpAnyH_take (i := 10) (v := ?vEC10) rfl (by kernel_rfl) (by kernel_rfl) (by kernel_rfl) (fun _ _ _ h => h) (Or.inl ⟨by rfl, fun w' _ => ?yEC10⟩) HH.out ?_
        case yEC10 => (go_simp; try with_reducible rfl)
        try simp only [List.getElem_toArray, List.getElem_cons_succ, List.getElem_cons_zero, Act.put, List.setIfInBounds_toArray, List.set_cons_zero, List.set_cons_succ]
        refine wpAnyH_take (i := 11) (v := ?vEC11) rfl (by kernel_rfl) (by kernel_rfl) (by kernel_rfl) (fun _ _ _ h => h) (Or.inl ⟨by rfl, fun w' _ => ?yEC11⟩) HH.out ?_
        case yEC11 => (go_simp; try with_reducible rfl)
        refine wpAnyH_take (i := 12) (v := .pointer P) rfl (by kernel_rfl) (by kernel_rfl) (by kernel_rfl) (fun _ _ _ h => h) (Or.inl ⟨by rfl, fun w' hw' => ?yEC12⟩) HH.out ?_
        case yEC12 => (have hc := hw'.1; go_simp; try with_reducible rfl)
        refine wpAnyH_take (i := 13) (v := .int .i64 n) rfl (by kernel_rfl) (by kernel_rfl) (by kernel_rfl) (fun _ _ _ h => h) (Or.inl ⟨by rfl, fun w' hw' => ?yEC13⟩) HH.out ?_
        case yEC13 => (have hc := hw'.2.2.1; go_simp; try with_reducible rfl)
        try simp only [List.getElem_toArray, List.getElem_cons_succ, List.getElem_cons_zero, Act.put, List.setIfInBounds_toArray, List.set_cons_zero, List.set_cons_succ]
        refine wpAnyH_take (i := 14) (v := .agg (bva x)) rfl (by kernel_rfl) (by kernel_rfl) (by kernel_rfl) (fun _ _ _ h => h) (Or.inl ⟨by rfl, fun w' hw' => ?yEC14⟩) HH.out ?_
        case yEC14 => exact exec_load 101 (.tmp 3) rfl rfl hw'.2.2.2.1 Tryz.underlying101 rfl HIX.out
        try simp only [List.getElem_toArray, List.getElem_cons_succ, List.getElem_cons_zero, Act.put, List.setIfInBounds_toArray, List.set_cons_zero, List.set_cons_succ]
        refine wpAnyH_ready (rs := [15]) (by kernel_rfl) (by simp) (AllReadyH.cons rfl (fun K hK => ?_) AllReadyH.nil)
        go_simp
        refine HCW.out.mono ?_
        rintro e2 w2 ⟨rfl, F2, hm2⟩
        have M2 := Lib.hid ((M.out.below (Below.refl _ _).drew).trans hm2)
        have X2 := Lib.hid ((X.out.below (Below.refl _ _).drew).step hm2)
        go_simp
        refine hK.out _ _ (⟨(HP.out _ _ _ M2.out.at_).1, (HP.out _ _ _ M2.out.at_).2.1, (HP.out _ _ _ M2.out.at_).2.2.1, (HP.out _ _ _ M2.out.at_).2.2.2, X2.out.1⟩) (fun hh => ?_)
        have HH' := Lib.hid hh
        clear hh hK K HH hm2 HCW
        have HH := Lib.hid HH'.out
        clear HH'
        try simp only [List.getElem_toArray, List.getElem_cons_succ, List.getElem_cons_zero, Act.put, List.setIfInBounds_toArray, List.set_cons_zero, List.set_cons_succ]
        refine wpAnyH_take (i := 16) (v := ?vEC16) rfl (by kernel_rfl) (by kernel_rfl) (by kernel_rfl) (fun _ _ _ h => h) (Or.inl ⟨by rfl, fun w' _ => ?yEC16⟩) HH.out ?_
        case yEC16 => (go_simp; try with_reducible rfl)
        try simp only [List.getElem_toArray, List.getElem_cons_succ, List.getElem_cons_zero, Act.put, List.setIfInBounds_toArray, List.set_cons_zero, List.set_cons_succ]
        refine wpAnyH_take (i := 17) (v := ?vEC17) rfl (by kernel_rfl) (by kernel_rfl) (by kernel_rfl) (fun _ _ _ h => h) (Or.inl ⟨by rfl, fun w' _ => ?yEC17⟩) HH.out ?_
        case yEC17 => (go_simp; try with_reducible rfl)
        refine wpAnyH_take (i := 18) (v := ?vEC18) rfl (by kernel_rfl) (by kernel_rfl) (by kernel_rfl) (fun _ _ _ h => h) (Or.inl ⟨by rfl, fun w' _ => ?yEC18⟩) HH.out ?_
        case yEC18 => (go_simp; try with_reducible rfl)
        refine wpAnyH_take (i := 19) (v := ?vEC19) rfl (by kernel_rfl) (by kernel_rfl) (by kernel_rfl) (fun _ _ _ h => h) (Or.inl ⟨by rfl, fun w' _ => ?yEC19⟩) HH.out ?_
        case yEC19 => (go_simp; try with_reducible rfl)
        try simp only [List.getElem_toArray, List.getElem_cons_succ, List.getElem_cons_zero, Act.put, List.setIfInBounds_toArray, List.set_cons_zero, List.set_cons_succ]
        refine wpAnyH_done (by kernel_rfl) ?_ _
        go_wp2_with fail
        go_ret
        exact ⟨by rw [HEND.out]; rfl, F2, by rw [HEND.out]; exact M2.out⟩
    · have HEND := Lib.hid (show RV = (false, s) by rw [HRV.out, if_neg hr0])
      have hd0 : (r == 0) = false := by simpa using hr0
      go_wp2_with fail
      refine wp_region_held_drew (S := fun w' => w'.cell? ⟨g, i, none⟩ = some (.pointer P) ∧ w'.cell? ⟨b, 0, none⟩ = some (.pointer (some ⟨g, 0, none⟩)) ∧ w'.cell? ⟨b + 1, 0, none⟩ = some (.int .i64 n) ∧ Blk w' (b + 1 + 1) (bva x) 101 ∧ Blk w' q (bva y) 101) (by kernel_rfl) (⟨(HP.out _ _ _ (M.out.below (w2 := wc.drew) (Below.refl _ _).drew).at_).1, (HP.out _ _ _ (M.out.below (w2 := wc.drew) (Below.refl _ _).drew).at_).2.1, (HP.out _ _ _ (M.out.below (w2 := wc.drew) (Below.refl _ _).drew).at_).2.2.1, (HP.out _ _ _ (M.out.below (w2 := wc.drew) (Below.refl _ _).drew).at_).2.2.2, (X.out.below (w2 := wc.drew) (Below.refl _ _).drew).1⟩) (fun hh => ?_)
      have HH := Lib.hid hh
      clear hh
      refine wpAnyH_take (i := 0) (v := ?vEA0) rfl (by kernel_rfl) (by kernel_rfl) (by kernel_rfl) (fun _ _ _ h => h) (Or.inl ⟨by rfl, fun w' _ => ?yEA0⟩) HH.out ?_
      case yEA0 => (go_simp; try with_reducible rfl)
      refine wpAnyH_take (i := 1) (v := .bool false) rfl (by kernel_rfl) (by kernel_rfl) (by kernel_rfl) (fun _ _ _ h => h) (Or.inl ⟨by rfl, fun w' hw' => ?yEA1⟩) HH.out ?_
      case yEA1 => (go_simp; try rw [hd0])
      try simp only [List.getElem_toArray, List.getElem_cons_succ, List.getElem_cons_zero, Act.put, List.setIfInBounds_toArray, List.set_cons_zero, List.set_cons_succ]
      refine wpAnyH_take (i := 2) (v := ?vEA2) rfl (by kernel_rfl) (by kernel_rfl) (by kernel_rfl) (fun _ _ _ h => h) (Or.inl ⟨by rfl, fun w' _ => ?yEA2⟩) HH.out ?_
      case yEA2 => (go_simp; try with_reducible rfl)
      refine wpAnyH_take (i := 3) (v := undef) rfl (by kernel_rfl) (by kernel_rfl) (by kernel_rfl) (fun _ _ _ h => h) (Or.inr ⟨by rfl, rfl⟩) HH.out ?_
      refine wpAnyH_take (i := 4) (v := undef) rfl (by kernel_rfl) (by kernel_rfl) (by kernel_rfl) (fun _ _ _ h => h) (Or.inr ⟨by rfl, rfl⟩) HH.out ?_
      try simp only [List.getElem_toArray, List.getElem_cons_succ, List.getElem_cons_zero, Act.put, List.setIfInBounds_toArray, List.set_cons_zero, List.set_cons_succ]
      refine wpAnyH_take (i := 5) (v := undef) rfl (by kernel_rfl) (by kernel_rfl) (by kernel_rfl) (fun _ _ _ h => h) (Or.inr ⟨by rfl, rfl⟩) HH.out ?_
      refine wpAnyH_take (i := 6) (v := undef) rfl (by kernel_rfl) (by kernel_rfl) (by kernel_rfl) (fun _ _ _ h => h) (Or.inr ⟨by rfl, rfl⟩) HH.out ?_
      refine wpAnyH_take (i := 7) (v := undef) rfl (by kernel_rfl) (by kernel_rfl) (by kernel_rfl) (fun _ _ _ h => h) (Or.inr ⟨by rfl, rfl⟩) HH.out ?_
      try simp only [List.getElem_toArray, List.getElem_cons_succ, List.getElem_cons_zero, Act.put, List.setIfInBounds_toArray, List.set_cons_zero, List.set_cons_succ]
      refine wpAnyH_take (i := 8) (v := undef) rfl (by kernel_rfl) (by kernel_rfl) (by kernel_rfl) (fun _ _ _ h => h) (Or.inr ⟨by rfl, rfl⟩) HH.out ?_
      refine wpAnyH_take (i := 9) (v := undef) rfl (by kernel_rfl) (by kernel_rfl) (by kernel_rfl) (fun _ _ _ h => h) (Or.inr ⟨by rfl, rfl⟩) HH.out ?_
      refine wpAnyH_take (i := 10) (v := undef) rfl (by kernel_rfl) (by kernel_rfl) (by kernel_rfl) (fun _ _ _ h => h) (Or.inr ⟨by rfl, rfl⟩) HH.out ?_
      try simp only [List.getElem_toArray, List.getElem_cons_succ, List.getElem_cons_zero, Act.put, List.setIfInBounds_toArray, List.set_cons_zero, List.set_cons_succ]
      refine wpAnyH_take (i := 11) (v := undef) rfl (by kernel_rfl) (by kernel_rfl) (by kernel_rfl) (fun _ _ _ h => h) (Or.inr ⟨by rfl, rfl⟩) HH.out ?_
      refine wpAnyH_take (i := 12) (v := undef) rfl (by kernel_rfl) (by kernel_rfl) (by kernel_rfl) (fun _ _ _ h => h) (Or.inr ⟨by rfl, rfl⟩) HH.out ?_
      refine wpAnyH_take (i := 13) (v := undef) rfl (by kernel_rfl) (by kernel_rfl) (by kernel_rfl) (fun _ _ _ h => h) (Or.inr ⟨by rfl, rfl⟩) HH.out ?_
      try simp only [List.getElem_toArray, List.getElem_cons_succ, List.getElem_cons_zero, Act.put, List.setIfInBounds_toArray, List.set_cons_zero, List.set_cons_succ]
      refine wpAnyH_take (i := 14) (v := undef) rfl (by kernel_rfl) (by kernel_rfl) (by kernel_rfl) (fun _ _ _ h => h) (Or.inr ⟨by rfl, rfl⟩) HH.out ?_
      refine wpAnyH_take (i := 15) (v := undef) rfl (by kernel_rfl) (by kernel_rfl) (by kernel_rfl) (fun _ _ _ h => h) (Or.inr ⟨by rfl, rfl⟩) HH.out ?_
      refine wpAnyH_take (i := 16) (v := undef) rfl (by kernel_rfl) (by kernel_rfl) (by kernel_rfl) (fun _ _ _ h => h) (Or.inr ⟨by rfl, rfl⟩) HH.out ?_
      try simp only [List.getElem_toArray, List.getElem_cons_succ, List.getElem_cons_zero, Act.put, List.setIfInBounds_toArray, List.set_cons_zero, List.set_cons_succ]
      refine wpAnyH_take (i := 17) (v := undef) rfl (by kernel_rfl) (by kernel_rfl) (by kernel_rfl) (fun _ _ _ h => h) (Or.inr ⟨by rfl, rfl⟩) HH.out ?_
      refine wpAnyH_take (i := 18) (v := ?vEA18) rfl (by kernel_rfl) (by kernel_rfl) (by kernel_rfl) (fun _ _ _ h => h) (Or.inl ⟨by rfl, fun w' _ => ?yEA18⟩) HH.out ?_
      case yEA18 => (go_simp; try with_reducible rfl)
      refine wpAnyH_take (i := 19) (v := ?vEA19) rfl (by kernel_rfl) (by kernel_rfl) (by kernel_rfl) (fun _ _ _ h => h) (Or.inl ⟨by rfl, fun w' _ => ?yEA19⟩) HH.out ?_
      case yEA19 => (go_simp; try with_reducible rfl)
      try simp only [List.getElem_toArray, List.getElem_cons_succ, List.getElem_cons_zero, Act.put, List.setIfInBounds_toArray, List.set_cons_zero, List.set_cons_succ]
      refine wpAnyH_done (by kernel_rfl) ?_ _
      go_wp2_with fail
      go_ret
      exact ⟨by rw [HEND.out]; rfl, F', by rw [HEND.out]; exact M.out.below (Below.refl _ _).drew⟩
theorem c1_ok {k i : Nat} {n : Int} {x : List UInt8} (h : s.ok k) : (s.c1 n x i).2.ok k := by
  unfold Mr.c1
  split
  · split
    · exact h
    · exact h
  · exact h
theorem c1_most {i : Nat} {n : Int} {x : List UInt8} (hi : i < 2) : C.most (s.c1 n x i).2.d ≤ C.most s.d + 1 := by
  unfold Mr.c1
  split
  · split
    · exact Nat.le_succ _
    · exact C.wr_most hi
  · exact Nat.le_succ _
def Mr.choose (s : Mr C) (n : Int) (x : List UInt8) : Int × Mr C :=
  if has s n then ((s.c1 n x 0).2.c1 n x 1).2.reach n.toNat (s.c1 n x 0).1 ((s.c1 n x 0).2.c1 n x 1).1 else (2, s)
set_option maxRecDepth 100000 in
set_option maxHeartbeats 6400000 in
theorem mchoose_no {p : Option Addr} {n : Int} (x : List UInt8) (hc : ∀ w', Below w.heap.size w w' → Calls Tryz.prog 70 #[.pointer p, .int .i64 n] w' (RetB (.bool false) w')) : Calls Tryz.prog 58 #[.pointer p, .int .i64 n, .agg (bva x)] w (RetB (.int .i64 2) w) := by
  obtain ⟨w3, hw3, h0, h1, h2, hb⟩ := three_boxes w (.cells #[.pointer p] 29) (.cells #[.int .i64 n] 3) (.cells (bva x) 101)
  have HC := Lib.hid (hc w3 hb)
  have HB := Lib.hid hb
  have c0 : w3.cell? ⟨w.heap.size, 0, none⟩ = some (.pointer p) := Blk.cell (show Blk w3 w.heap.size #[.pointer p] 29 from h0) 0
  have c1 : w3.cell? ⟨w.heap.size + 1, 0, none⟩ = some (.int .i64 n) := Blk.cell (show Blk w3 (w.heap.size + 1) #[.int .i64 n] 3 from h1) 0
  clear hc h0 h1 h2 hb
  go_enter Tryz.func58, Tryz.ntmps58
  go_upto_region 1 with fail
  rw [← hw3]
  clear hw3
  go_wp2_with fail
  refine HC.out.mono ?_
  rintro e w4 ⟨rfl, bw⟩
  go_wp2_with fail
  go_ret
  exact ⟨rfl, HB.out.trans (bw.mono HB.out.size)⟩
theorem mchoose_nil (n : Int) (x : List UInt8) : Calls Tryz.prog 58 #[.pointer none, .int .i64 n, .agg (bva x)] w (RetB (.int .i64 2) w) := mchoose_no x (fun w' _ => has_nil w' n)
set_option maxRecDepth 100000 in
set_option maxHeartbeats 6400000 in
theorem mchoose_any (h : (ML C G g).At w s F) {k : Nat} (hk : s.ok k) (n : Int) (x : List UInt8) (hx : x.length = 128) (hm : C.most s.d < 900000) : Calls Tryz.prog 58 #[.pointer (some ⟨g, 0, none⟩), .int .i64 n, .agg (bva x)] w (RetA (ML C G g) (.int .i64 (s.choose n x).1) (s.choose n x).2 F w) := by
  cases hh : has s n with
  | false =>
    rw [Mr.choose, hh, if_neg (by simp)]
    refine (mchoose_no x (fun w' hb => ?_)).mono fun _ _ hr => RetB.reta h hr
    have := has_any ((ML C G g).below h hb) n
    rwa [hh] at this
  | true =>
    obtain ⟨j, rfl⟩ : ∃ j : Nat, n = (j : Int) := ⟨n.toNat, by rw [has] at hh; simp at hh; omega⟩
    have hj : j < k := by rw [has] at hh; simp at hh; rw [← hk.1]; exact hh
    obtain ⟨w3, hw3, h0, h1, h2, hb⟩ := three_boxes w (.cells #[.pointer (some ⟨g, 0, none⟩)] 29) (.cells #[.int .i64 j] 3) (.cells (bva x) 101)
    have M3 := Lib.hid ((Mv.start h).below hb)
    obtain ⟨b, hbe⟩ : ∃ b, b = w.heap.size := ⟨_, rfl⟩
    have X3 := Lib.hid (show ∀ y ∈ argB g j x b, Bx w w3 F y.1 y.2.1 y.2.2 from by
      have hl := (ML C G g).lt h
      intro y hy
      rw [argB, hbe] at hy
      rcases List.mem_cons.1 hy with rfl | hy
      · exact ⟨h0, Nat.le_refl _, fun hf => by have := hl _ hf; omega⟩
      rcases List.mem_cons.1 hy with rfl | hy
      · exact ⟨h1, Nat.le_succ _, fun hf => by have := hl _ hf; omega⟩
      rw [List.mem_singleton] at hy
      subst hy
      exact ⟨h2, by omega, fun hf => by have := hl _ hf; omega⟩)
    have hhas := has_any M3.out.at_ (j : Int)
    rw [hh] at hhas
    have HH1 := Lib.hid hhas
    obtain ⟨sv, hsv⟩ : ∃ sv, sv = s.choose (j : Int) x := ⟨_, rfl⟩
    rw [← hsv]
    have HSV := Lib.hid (show sv = ((s.c1 (j : Int) x 0).2.c1 (j : Int) x 1).2.reach j (s.c1 (j : Int) x 0).1 ((s.c1 (j : Int) x 0).2.c1 (j : Int) x 1).1 by rw [hsv, Mr.choose, hh, if_pos rfl, Int.toNat_natCast])
    have HK := Lib.hid hk
    have HJ := Lib.hid hj
    have HX3 := Lib.hid hx
    have HM := Lib.hid hm
    have c0 : w3.cell? ⟨b, 0, none⟩ = some (.pointer (some ⟨g, 0, none⟩)) := by rw [hbe]; exact Blk.cell (show Blk w3 w.heap.size #[.pointer (some ⟨g, 0, none⟩)] 29 from h0) 0
    have c1 : w3.cell? ⟨b + 1, 0, none⟩ = some (.int .i64 j) := by rw [hbe]; exact Blk.cell (show Blk w3 (w.heap.size + 1) #[.int .i64 j] 3 from h1) 0
    clear hsv hhas hh hb h0 h1 h2 hk hj hx hm h
    go_enter Tryz.func58, Tryz.ntmps58
    go_upto_region 1 with fail
    rw [← hw3, ← hbe]
    clear hw3 hbe
    go_wp2_with fail
    refine HH1.out.mono ?_
    rintro e w4 ⟨rfl, bw⟩
    have M4 := Lib.hid (M3.out.below bw)
    have X4 := Lib.hid (show ∀ y ∈ argB g j x b, Bx w w4 F y.1 y.2.1 y.2.2 from fun y hy => (X3.out y hy).below bw)
    have d0 : w4.cell? ⟨b, 0, none⟩ = some (.pointer (some ⟨g, 0, none⟩)) := (X4.out _ (by unfold argB; exact List.mem_cons_self)).1.cell 0
    have d1 : w4.cell? ⟨b + 1, 0, none⟩ = some (.int .i64 j) := (X4.out _ (by unfold argB; exact List.mem_cons_of_mem _ List.mem_cons_self)).1.cell 0
    clear bw M3 X3 c0 c1 HH1
    go_wp2_with fail
    have hcall := reached_any (and_start M4.out X4.out) (n := j) (b := #[]) (c := #[.pointer (some ⟨b, 0, none⟩), .pointer (some ⟨b + 1, 0, none⟩), .pointer (some ⟨b + 1 + 1, 0, none⟩)]) (N := k) (s1 := (s.c1 (j : Int) x 0).2) (s2 := ((s.c1 (j : Int) x 0).2.c1 (j : Int) x 1).2) (c1_ok (c1_ok HK.out)) HJ.out choose1_enter
      (fun w' F' h => choose1_any h (i := 0) (by omega) HX3.out (by have := HM.out; omega)) (fun w' F' h => choose1_any (s := (s.c1 (j : Int) x 0).2) h (i := 1) (by omega) HX3.out (by have := HM.out; have := c1_most (s := s) (i := 0) (n := j) (x := x) (by omega); omega))
    rw [← HSV.out] at hcall
    refine hcall.mono ?_
    clear hcall
    rintro e w5 ⟨rfl, F5, hm5⟩
    have M5 := Lib.hid (and_end M4.out X4.out hm5)
    go_wp2_with fail
    go_ret
    exact ⟨rfl, M5.out⟩
end
end Go.Proofs.YtnplhagfmfggcaaGreat.Mi
/-
  One device, of a power of its own, or none; two of them beside each other; two of one power.
-/
namespace Go.Proofs.YtnplhagfmfggcaaGreat.Mi
open Go.RowKit Kd
/-- One device. -/
structure Uno where
  L : Laid
  ptr : Option Addr
  rd : L.St → Int → Int × List UInt8
  wr : L.St → Int → List UInt8 → Int × L.St
  fl : L.St → Int × L.St
  len : L.St → Nat
  most : L.St → Nat
  len_le : ∀ {w s F}, L.At w s F → len s ≤ 4096
  rd_len : ∀ {w s F n}, L.At w s F → (rd s n).2.length = 128
  wr_most : ∀ {s n x}, most (wr s n x).2 ≤ most s + 1
  fl_most : ∀ {s}, most (fl s).2 ≤ most s
  crd : ∀ {w s F}, L.At w s F → ∀ n, Calls Tryz.prog 64 #[.pointer ptr, .int .i64 n] w (RetB (.tuple #[.agg (bva (rd s n).2), .int .i64 (rd s n).1]) w)
  cwr : ∀ {w s F}, L.At w s F → most s < 1000000 → ∀ n x, x.length = 128 → Calls Tryz.prog 73 #[.pointer ptr, .int .i64 n, .agg (bva x)] w (RetA L (.int .i64 (wr s n x).1) (wr s n x).2 F w)
  cfl : ∀ {w s F}, L.At w s F → Calls Tryz.prog 10 #[.pointer ptr] w (RetA L (.int .i64 (fl s).1) (fl s).2 F w)
  clen : ∀ {w s F}, L.At w s F → Calls Tryz.prog 41 #[.pointer ptr] w (RetB (.int .i64 (len s : Int)) w)
/-! ### How many wait -/
theorem count_wtM (S : Sy) (j : Nat) : (S.count.at j).wt.length ≤ (S.at j).wt.length := by
  unfold Sy.count
  split
  · show ((S.ds.map Dv.fall).getD j noDv).wt.length ≤ (S.ds.getD j noDv).wt.length
    rw [List.getD_eq_getElem?_getD, List.getD_eq_getElem?_getD, List.getElem?_map]
    cases h : S.ds[j]? with
    | none => exact Nat.le_refl _
    | some d =>
      show d.fall.wt.length ≤ d.wt.length
      unfold Dv.fall; split
      · exact Nat.le_refl _
      · exact Nat.zero_le _
  · exact Nat.le_refl _
theorem put_wtM (S : Sy) (k : Nat) (d : Dv) (j : Nat) : ((S.put k d).at j).wt.length ≤ max d.wt.length (S.at j).wt.length := by
  show ((S.ds.set k d).getD j noDv).wt.length ≤ max _ (S.ds.getD j noDv).wt.length
  rw [List.getD_eq_getElem?_getD, List.getD_eq_getElem?_getD, List.getElem?_set]
  split
  · split
    · exact Nat.le_max_left _ _
    · rename_i h1 h2
      subst h1
      rw [List.getElem?_eq_none (by omega)]; exact Nat.zero_le _
  · exact Nat.le_max_right _ _
theorem write_wtM (S : Sy) (k : Nat) (n : Int) (x : List UInt8) (m : Nat) (h : ∀ j, (S.at j).wt.length ≤ m) (j : Nat) : ((S.write k n x).2.at j).wt.length ≤ m + 1 := by
  unfold Sy.write; dsimp only; split
  · exact Nat.le_succ_of_le (h j)
  · refine Nat.le_trans (count_wtM _ j) (Nat.le_trans (put_wtM _ _ _ j) (Nat.max_le.2 ⟨?_, Nat.le_succ_of_le (h j)⟩))
    show ((S.at k).wt ++ _).length ≤ _
    rw [List.length_append]; have := h k; simp; omega
theorem flush_wtM (S : Sy) (k : Nat) (m : Nat) (h : ∀ j, (S.at j).wt.length ≤ m) (j : Nat) : ((S.flush k).2.at j).wt.length ≤ m := by
  unfold Sy.flush; dsimp only; split
  · exact h j
  · split
    · exact Nat.le_trans (count_wtM _ j) (h j)
    · split
      · exact Nat.le_trans (count_wtM _ j) (h j)
      · exact Nat.le_trans (put_wtM _ _ _ j) (Nat.max_le.2 ⟨Nat.zero_le _, Nat.le_trans (count_wtM _ j) (h j)⟩)
theorem write_dsM (S : Sy) (k : Nat) (n : Int) (x : List UInt8) : (S.write k n x).2.ds.length = S.ds.length := by
  unfold Sy.write; dsimp only; split
  · rfl
  · rw [count_length, len_put]
theorem flush_dsM (S : Sy) (k : Nat) : (S.flush k).2.ds.length = S.ds.length := by
  unfold Sy.flush; dsimp only; split
  · rfl
  · split
    · exact count_length S
    · split
      · exact count_length S
      · rw [len_put, count_length]
theorem at_far {S : Sy} {j : Nat} (h : S.ds.length ≤ j) : S.at j = noDv := by
  show S.ds.getD j noDv = noDv
  rw [List.getD_eq_getElem?_getD, List.getElem?_eq_none h]; rfl
/-! ### The devices of one power -/
/-- k devices of one power, as they are laid. -/
def SysL (p : Nat) (gs : List Nat) (k : Nat) : Laid where
  St := Sy
  At w S F := Kd.Sys w p gs S F ∧ S.ds.length = k
  but h hb hd := ⟨h.1.but hb hd, h.2⟩
  lt h := h.1.lt
theorem RetS.reta {p k : Nat} {gs : List Nat} {S : Sy} {F : Nat → Prop} {w w' : World} {v : Value} {e : Ending} (hk : S.ds.length = k) (h : RetS v p gs S F w e w') : RetA (SysL p gs k) v S F w e w' := by
  obtain ⟨rfl, F', h1, h2, h3⟩ := h
  exact ⟨rfl, F', ⟨h1, hk⟩, h2, h3⟩
theorem sys_okM {w : World} {p : Nat} {gs : List Nat} {S : Sy} {F : Nat → Prop} (h : Kd.Sys w p gs S F) {k : Nat} (hk : k < S.ds.length) : (S.at k).ok := by
  obtain ⟨bs, Fs, FA, fc, lf, h, _, _⟩ := h
  obtain ⟨A, n, c, W, m, e, M, D, hd, _⟩ := h.dev k hk
  exact hd.ok
theorem few_one {S : Sy} {m : Nat} (h1 : S.ds.length = 1) (h : (S.at 0).wt.length ≤ m) (j : Nat) : (S.at j).wt.length ≤ m := by
  rcases j with _ | j
  · exact h
  · rw [at_far (by omega)]; exact Nat.zero_le _
def mostS (S : Sy) : Nat := if S.ds.length = 1 then (S.at 0).wt.length else 0
theorem mostS_write (S : Sy) (n : Int) (x : List UInt8) : mostS (S.write 0 n x).2 ≤ mostS S + 1 := by
  unfold mostS
  rw [write_dsM]
  split
  · rename_i h1
    exact write_wtM S 0 n x _ (few_one h1 (Nat.le_refl _)) 0
  · exact Nat.zero_le _
theorem mostS_flush (S : Sy) : mostS (S.flush 0).2 ≤ mostS S := by
  unfold mostS
  rw [flush_dsM]
  split
  · rename_i h1
    exact flush_wtM S 0 _ (few_one h1 (Nat.le_refl _)) 0
  · exact Nat.le_refl _
/-- A device of a power of its own. -/
def uno (p g : Nat) : Uno where
  L := SysL p [g] 1
  ptr := some ⟨g, 0, none⟩
  rd S n := (refuseN S.p (S.at 0) n, readS S.p (S.at 0) n)
  wr S n x := S.write 0 n x
  fl S := S.flush 0
  len S := (S.at 0).st.length
  most S := mostS S
  len_le h := (sys_okM h.1 (k := 0) (by rw [h.2]; omega)).len
  rd_len h := readS_length (sys_okM h.1 (k := 0) (by rw [h.2]; omega)) _
  wr_most {S n x} := mostS_write S n x
  fl_most {S} := mostS_flush S
  crd h n := dread_any h.1 0 (by rw [h.2]; omega) n
  cwr {w S F} h hm n x hx := (write_any h.1 0 (by rw [h.2]; omega) n x hx (by have h1 : mostS S = (Sy.at S 0).wt.length := if_pos h.2
                                                                              rw [← h1]; exact hm)).mono fun _ _ hr => RetS.reta ((write_dsM S 0 n x).trans h.2) hr
  cfl {w S F} h := (flush_any h.1 0 (by rw [h.2]; omega)).mono fun _ _ hr => RetS.reta ((flush_dsM S 0).trans h.2) hr
  clen h := (len_sys h.1 0 (by rw [h.2]; omega)).mono fun _ _ hr => by
    obtain ⟨rfl, rfl⟩ := hr
    exact ⟨rfl, Below.refl _ _⟩
/-- A device that isn't there at all. -/
def unoNil : Uno where
  L := { St := Unit, At := fun w _ F => ∀ q, F q → q < w.heap.size, but := fun h hb _ q hq => Nat.lt_of_lt_of_le (h q hq) hb.size, lt := fun h => h }
  ptr := none
  rd _ _ := (1, zeroS)
  wr s _ _ := (1, s)
  fl s := (1, s)
  len _ := 0
  most _ := 0
  len_le _ := Nat.zero_le _
  rd_len _ := zeroS_length
  wr_most := Nat.zero_le _
  fl_most := Nat.le_refl _
  crd {w s F} _ n := dread_nil w n
  cwr {w s F} h _ n x _ := (dwrite_nil w n x).mono fun _ _ hr => RetB.reta h hr
  cfl {w s F} h := (dflush_nil w).mono fun _ _ hr => RetB.reta h (by obtain ⟨rfl, rfl⟩ := hr; exact ⟨rfl, Below.refl _ _⟩)
  clen _ := len_nil.mono fun _ _ hr => by
    obtain ⟨rfl, rfl⟩ := hr
    exact ⟨rfl, Below.refl _ _⟩
/-! ### Two beside each other -/
def pairL (A B : Laid) : Laid where
  St := A.St × B.St
  At w s F := ∃ F1 F2, A.At w s.1 F1 ∧ B.At w s.2 F2 ∧ (∀ q, F1 q → F2 q → False) ∧ (∀ q, F1 q → F q) ∧ (∀ q, F2 q → F q) ∧ ∀ q, F q → q < w.heap.size
  but := fun ⟨F1, F2, h1, h2, h3, h4, h5, h6⟩ hb hd => ⟨F1, F2, A.but h1 hb (fun q hq => hd q (h4 q hq)), B.but h2 hb (fun q hq => hd q (h5 q hq)), h3, h4, h5, fun q hq => Nat.lt_of_lt_of_le (h6 q hq) hb.size⟩
  lt := fun ⟨_, _, _, _, _, _, _, h6⟩ => h6
section
variable {A B : Laid} {w w' : World} {s : A.St × B.St} {F : Nat → Prop}
theorem pair_fst (h : (pairL A B).At w s F) : ∃ F1, A.At w s.1 F1 ∧ ∀ {v : Value} {a : A.St} {e w'}, RetA A v a F1 w e w' → RetA (pairL A B) v (a, s.2) F w e w' := by
  obtain ⟨F1, F2, h1, h2, h3, h4, h5, h6⟩ := h
  refine ⟨F1, h1, ?_⟩
  rintro v a e w' ⟨rfl, F', hm⟩
  refine ⟨rfl, fun q => F q ∨ F' q, ⟨F', F2, hm.at_, B.but h2 hm.but (fun q a b => h3 q b a), ?_, fun q hq => .inr hq, fun q hq => .inl (h5 q hq), ?_⟩, ?_, hm.but.mono h4⟩
  · intro q a b
    rcases hm.new q a with h7 | h7
    · exact h3 q h7 b
    · have := B.lt h2 q b; omega
  · rintro q (hq | hq)
    · exact Nat.lt_of_lt_of_le (h6 q hq) hm.but.size
    · exact hm.lt q hq
  · rintro q (hq | hq)
    · exact .inl hq
    · exact (hm.new q hq).imp (h4 q) id
theorem pair_snd (h : (pairL A B).At w s F) : ∃ F2, B.At w s.2 F2 ∧ ∀ {v : Value} {b : B.St} {e w'}, RetA B v b F2 w e w' → RetA (pairL A B) v (s.1, b) F w e w' := by
  obtain ⟨F1, F2, h1, h2, h3, h4, h5, h6⟩ := h
  refine ⟨F2, h2, ?_⟩
  rintro v b e w' ⟨rfl, F', hm⟩
  refine ⟨rfl, fun q => F q ∨ F' q, ⟨F1, F', A.but h1 hm.but (fun q a b => h3 q a b), hm.at_, ?_, fun q hq => .inl (h4 q hq), fun q hq => .inr hq, ?_⟩, ?_, hm.but.mono h5⟩
  · intro q a b
    rcases hm.new q b with h7 | h7
    · exact h3 q a h7
    · have := A.lt h1 q a; omega
  · rintro q (hq | hq)
    · exact Nat.lt_of_lt_of_le (h6 q hq) hm.but.size
    · exact hm.lt q hq
  · rintro q (hq | hq)
    · exact .inl hq
    · exact (hm.new q hq).imp (h5 q) id
end
def duo (U V : Uno) : Duo where
  L := pairL U.L V.L
  ptr i := if i = 0 then U.ptr else V.ptr
  rd s i n := if i = 0 then U.rd s.1 n else V.rd s.2 n
  wr s i n x := if i = 0 then ((U.wr s.1 n x).1, ((U.wr s.1 n x).2, s.2)) else ((V.wr s.2 n x).1, (s.1, (V.wr s.2 n x).2))
  fl s i := if i = 0 then ((U.fl s.1).1, ((U.fl s.1).2, s.2)) else ((V.fl s.2).1, (s.1, (V.fl s.2).2))
  len s i := if i = 0 then U.len s.1 else V.len s.2
  most s := max (U.most s.1) (V.most s.2)
  len_le {w s F i} h hi := by
    obtain ⟨F1, F2, h1, h2, _⟩ := h
    rcases (show i = 0 ∨ i = 1 by omega) with rfl | rfl
    · exact U.len_le h1
    · exact V.len_le h2
  rd_len {w s F i n} h hi := by
    obtain ⟨F1, F2, h1, h2, _⟩ := h
    rcases (show i = 0 ∨ i = 1 by omega) with rfl | rfl
    · exact U.rd_len h1
    · exact V.rd_len h2
  wr_most {s i n x} hi := by
    have h1 := U.wr_most (s := s.1) (n := n) (x := x)
    have h2 := V.wr_most (s := s.2) (n := n) (x := x)
    rcases (show i = 0 ∨ i = 1 by omega) with rfl | rfl
    · show max (U.most (U.wr s.1 n x).2) (V.most s.2) ≤ max (U.most s.1) (V.most s.2) + 1; omega
    · show max (U.most s.1) (V.most (V.wr s.2 n x).2) ≤ max (U.most s.1) (V.most s.2) + 1; omega
  fl_most {s i} hi := by
    have h1 := U.fl_most (s := s.1)
    have h2 := V.fl_most (s := s.2)
    rcases (show i = 0 ∨ i = 1 by omega) with rfl | rfl
    · show max (U.most (U.fl s.1).2) (V.most s.2) ≤ max (U.most s.1) (V.most s.2); omega
    · show max (U.most s.1) (V.most (V.fl s.2).2) ≤ max (U.most s.1) (V.most s.2); omega
  crd {w s F i} h hi n := by
    obtain ⟨F1, F2, h1, h2, _⟩ := h
    rcases (show i = 0 ∨ i = 1 by omega) with rfl | rfl
    · exact U.crd h1 n
    · exact V.crd h2 n
  cwr {w s F i} h hi hm n x hx := by
    rcases (show i = 0 ∨ i = 1 by omega) with rfl | rfl
    · obtain ⟨F1, h1, hl⟩ := pair_fst h
      exact (U.cwr h1 (Nat.lt_of_le_of_lt (Nat.le_max_left _ _) hm) n x hx).mono fun _ _ hr => hl hr
    · obtain ⟨F1, h1, hl⟩ := pair_snd h
      exact (V.cwr h1 (Nat.lt_of_le_of_lt (Nat.le_max_right _ _) hm) n x hx).mono fun _ _ hr => hl hr
  cfl {w s F i} h hi := by
    rcases (show i = 0 ∨ i = 1 by omega) with rfl | rfl
    · obtain ⟨F1, h1, hl⟩ := pair_fst h
      exact (U.cfl h1).mono fun _ _ hr => hl hr
    · obtain ⟨F1, h1, hl⟩ := pair_snd h
      exact (V.cfl h1).mono fun _ _ hr => hl hr
  clen {w s F i} h hi := by
    obtain ⟨F1, F2, h1, h2, _⟩ := h
    rcases (show i = 0 ∨ i = 1 by omega) with rfl | rfl
    · exact U.clen h1
    · exact V.clen h2
end Go.Proofs.YtnplhagfmfggcaaGreat.Mi
/-
  A byte that rots, twice. No program.
-/
namespace Go.Proofs.YtnplhagfmfggcaaGreat.Kd
theorem rotS_get {s : List UInt8} {a j : Nat} {x : UInt8} (hj : j < s.length) : (rotS s a x).getD j 0 = if j = a then s.getD j 0 ^^^ x else s.getD j 0 := by
  unfold rotS
  rw [List.getD_eq_getElem?_getD, List.getElem?_set]
  by_cases h : a = j
  · subst h; rw [if_pos rfl, if_pos hj, if_pos rfl]; rfl
  · rw [if_neg h, if_neg (fun e => h e.symm), List.getD_eq_getElem?_getD]
theorem rotL_get {st : List (List UInt8)} {n a i : Nat} {x : UInt8} (hi : i < st.length) : (rotL st n a x).getD i zeroS = if i = n then rotS (st.getD i zeroS) a x else st.getD i zeroS := by
  unfold rotL
  rw [List.getD_eq_getElem?_getD, List.getElem?_set]
  by_cases h : n = i
  · subst h; rw [if_pos rfl, if_pos hi, if_pos rfl]; rfl
  · rw [if_neg h, if_neg (fun e => h e.symm), List.getD_eq_getElem?_getD]
theorem rotS_back (s : List UInt8) (a : Nat) (x : UInt8) (ha : a < s.length) : rotS (rotS s a x) a x = s := by
  unfold rotS
  rw [List.set_set]
  have h1 : (s.set a (s.getD a 0 ^^^ x)).getD a 0 = s.getD a 0 ^^^ x := by
    rw [List.getD_eq_getElem?_getD, List.getElem?_set, if_pos rfl, if_pos ha]; rfl
  rw [h1, UInt8.xor_assoc, UInt8.xor_self, UInt8.xor_zero, List.getD_eq_getElem?_getD, List.getElem?_eq_getElem ha]
  exact List.set_getElem_self ..
theorem rotL_back (st : List (List UInt8)) (n a : Nat) (x : UInt8) (hn : n < st.length) (ha : a < (st.getD n zeroS).length) : rotL (rotL st n a x) n a x = st := by
  have h1 : (rotL st n a x).getD n zeroS = rotS (st.getD n zeroS) a x := by rw [rotL_get hn, if_pos rfl]
  rw [rotL, h1, rotS_back _ _ _ ha]
  unfold rotL
  rw [List.set_set, List.getD_eq_getElem?_getD, List.getElem?_eq_getElem hn]
  exact List.set_getElem_self ..
variable {S : Sy} {k : Nat} {i a : Int} {x : UInt8}
theorem rot_p : (S.rot k i a x).p = S.p := by unfold Sy.rot; split <;> rfl
theorem rot_len : (S.rot k i a x).ds.length = S.ds.length := by unfold Sy.rot; split; exact len_put _; rfl
/-- What is stable behind it. -/
theorem rot_at (hk : k < S.ds.length) : ((S.rot k i a x).at k).st = if hasByte (S.at k).st.length i a then rotL (S.at k).st i.toNat a.toNat x else (S.at k).st := by
  unfold Sy.rot
  split
  · rw [at_put _ hk, if_pos rfl]; rfl
  · rfl
theorem rot_at_len (hk : k < S.ds.length) : ((S.rot k i a x).at k).st.length = (S.at k).st.length := by
  rw [rot_at hk]; split
  · exact rotL_length
  · rfl
theorem hasByte_iff {n : Nat} {i a : Int} : hasByte n i a = true ↔ 0 ≤ i ∧ i < (n : Int) ∧ 0 ≤ a ∧ a < 128 := by
  unfold hasByte; simp only [Bool.and_eq_true, decide_eq_true_eq, and_assoc]
/-- Twice: as it was. -/
theorem rot_twice (hk : k < S.ds.length) (h3 : ∀ s ∈ (S.at k).st, s.length = 128) : (((S.rot k i a x).rot k i a x).at k).st = (S.at k).st := by
  rw [rot_at (by rw [rot_len]; exact hk), rot_at_len hk, rot_at hk]
  by_cases h : hasByte (S.at k).st.length i a = true
  · rw [if_pos h, if_pos h]
    have := hasByte_iff.1 h
    exact rotL_back _ _ _ _ (by omega) (by rw [getD_ok h3]; omega)
  · rw [if_neg h, if_neg h]
/-- What stands at a place behind it. -/
theorem rot_byte (hk : k < S.ds.length) (h3 : ∀ s ∈ (S.at k).st, s.length = 128) {u v : Nat} (hu : u < (S.at k).st.length) (hv : v < 128) :
    ((((S.rot k i a x).at k).st.getD u zeroS).getD v 0) = if hasByte (S.at k).st.length i a = true ∧ (u : Int) = i ∧ (v : Int) = a then ((S.at k).st.getD u zeroS).getD v 0 ^^^ x else ((S.at k).st.getD u zeroS).getD v 0 := by
  rw [rot_at hk]
  by_cases h : hasByte (S.at k).st.length i a = true
  · have hb := hasByte_iff.1 h
    rw [if_pos h, rotL_get hu]
    by_cases h1 : u = i.toNat
    · rw [if_pos h1, rotS_get (by rw [getD_ok h3]; exact hv)]
      by_cases h2 : v = a.toNat
      · rw [if_pos h2, if_pos ⟨h, by omega, by omega⟩]
      · rw [if_neg h2, if_neg (fun e => h2 (by omega))]
    · rw [if_neg h1, if_neg (fun e => h1 (by omega))]
  · rw [if_neg h, if_neg (fun e => h e.1)]
end Go.Proofs.YtnplhagfmfggcaaGreat.Kd
/-
  What is seen of a device whose power never fails: its sectors as they are read, and whether it is out. No program.
-/
namespace Go.Proofs.YtnplhagfmfggcaaGreat.Mi
open Kd
theorem count_plain {S : Sy} (h : S.p = ⟨false, -1⟩) : S.count = S := by
  obtain ⟨P, ds⟩ := S
  replace h : P = ⟨false, -1⟩ := h
  subst h; rfl
/-- A device's sectors, as it reads them, whether it is out, and at most how many writes wait. -/
structure See (S : Sy) (L : List (List UInt8)) (g : Bool) (m : Nat) : Prop where
  ds : S.ds.length = 1
  p : S.p = ⟨false, -1⟩
  len : (S.at 0).st.length = L.length
  now : ∀ k, k < L.length → (S.at 0).now k = L.getD k zeroS
  gone : (S.at 0).gone = g
  lies : (S.at 0).lies = false
  few : (S.at 0).wt.length ≤ m
section
variable {S : Sy} {L : List (List UInt8)} {g : Bool} {m : Nat}
theorem See.more (h : See S L g m) {m' : Nat} (hm : m ≤ m') : See S L g m' := ⟨h.ds, h.p, h.len, h.now, h.gone, h.lies, Nat.le_trans h.few hm⟩
theorem see_new (n : Nat) (hn : n ≤ 4096) : See (S0.new (n : Int)) (List.replicate n zeroS) false 0 := by
  have hc : clampN (n : Int) = n := by unfold clampN; omega
  have h1 : (S0.new (n : Int)).at 0 = newDv n := by rw [Sy.new, hc]; rfl
  refine ⟨rfl, rfl, by rw [h1, List.length_replicate]; exact List.length_replicate, fun k hk => ?_, by rw [h1]; rfl, by rw [h1]; rfl, by rw [h1]; exact Nat.le_refl _⟩
  rw [h1]; rfl
theorem See.refuse (h : See S L g m) (n : Int) : refuseN S.p (S.at 0) n = if g then 13 else if n < 0 ∨ (L.length : Int) ≤ n then 2 else 0 := by
  rw [refuseN, h.p, h.gone, h.len]; rfl
theorem See.read (h : See S L g m) (n : Int) : readS S.p (S.at 0) n = if (g = false ∧ 0 ≤ n ∧ n < (L.length : Int)) then L.getD n.toNat zeroS else zeroS := by
  rw [readS, h.refuse]
  cases g with
  | true => simp
  | false =>
    by_cases hc : n < 0 ∨ (L.length : Int) ≤ n
    · rw [if_neg (show ¬ ((if false = true then (13 : Int) else if n < 0 ∨ (L.length : Int) ≤ n then 2 else 0) = 0) by rw [if_neg (by simp), if_pos hc]; omega), if_neg (fun h => by omega)]
    · rw [if_pos (show (if false = true then (13 : Int) else if n < 0 ∨ (L.length : Int) ≤ n then 2 else 0) = 0 by rw [if_neg (by simp), if_neg hc]), if_pos ⟨rfl, by omega, by omega⟩]
      exact h.now _ (by omega)
theorem See.write_no (h : See S L g m) {n : Int} {x : List UInt8} (hn : ¬ (g = false ∧ 0 ≤ n ∧ n < (L.length : Int))) : S.write 0 n x = (if g then 13 else 2, S) := by
  have hr : refuseN S.p (S.at 0) n = if g then 13 else 2 := by
    rw [h.refuse]
    cases g with
    | true => rfl
    | false =>
      have hc : n < 0 ∨ (L.length : Int) ≤ n := by
        by_cases h1 : n < 0
        · exact .inl h1
        · by_cases h2 : n < (L.length : Int)
          · exact absurd ⟨rfl, by omega, h2⟩ hn
          · exact .inr (by omega)
      show (if false = true then (13 : Int) else if n < 0 ∨ (L.length : Int) ≤ n then 2 else 0) = 2
      rw [if_neg (by simp), if_pos hc]
  rw [Kd.write_no (by rw [hr]; cases g <;> simp), hr]
theorem See.write_yes (h : See S L g m) {k : Nat} {x : List UInt8} (hg : g = false) (hk : k < L.length) : (S.write 0 (k : Int) x).1 = 0 ∧ See (S.write 0 (k : Int) x).2 (L.set k x) g (m + 1) := by
  have hr : refuseN S.p (S.at 0) (k : Int) = 0 := by rw [h.refuse, hg, if_neg (by simp), if_neg (by omega)]
  have hw := Kd.write_yes (s := x) hr
  have hp : S.p.fails = false := by rw [h.p]; rfl
  have hd0 : 0 < S.ds.length := by rw [h.ds]; omega
  have hpp : (S.put 0 ((S.at 0).add k x)).p = ⟨false, -1⟩ := h.p
  rw [hp, count_plain hpp] at hw
  rw [hw]
  have ha : (S.put 0 ((S.at 0).add k x)).at 0 = (S.at 0).add k x := by rw [at_put _ hd0, if_pos rfl]
  refine ⟨rfl, by rw [len_put]; exact h.ds, hpp, by rw [ha, List.length_set]; exact h.len, fun j hj => ?_, by rw [ha]; exact h.gone, by rw [ha]; exact h.lies, ?_⟩
  · rw [List.length_set] at hj
    rw [ha, set_getD _ _ _ _ hj]
    show nowL (S.at 0).st ((S.at 0).wt ++ [(k, x)]) j = _
    rw [now_snoc]
    split
    · rfl
    · exact h.now j hj
  · rw [ha]
    show ((S.at 0).wt ++ [(k, x)]).length ≤ m + 1
    rw [List.length_append]; have := h.few; simp; exact this
theorem See.flush_no (h : See S L g m) (hg : g = true) : S.flush 0 = (13, S) := by
  unfold Sy.flush; dsimp only; rw [h.p, h.gone, hg]; rfl
theorem See.flush_yes (h : See S L g m) (hg : g = false) : (S.flush 0).1 = 0 ∧ See (S.flush 0).2 L g 0 := by
  have hd0 : 0 < S.ds.length := by rw [h.ds]; omega
  have hp : S.p.fails = false := by rw [h.p]; rfl
  have hw : S.flush 0 = (0, S.put 0 { S.at 0 with st := flushL (S.at 0).st (S.at 0).wt, wt := [] }) := by
    unfold Sy.flush; dsimp only
    rw [if_neg (by rw [h.p, h.gone, hg]; simp), hp, if_neg (by simp), h.lies, if_neg (by simp), count_plain h.p]
  have ha : (S.put 0 { S.at 0 with st := flushL (S.at 0).st (S.at 0).wt, wt := [] }).at 0 = { S.at 0 with st := flushL (S.at 0).st (S.at 0).wt, wt := [] } := by rw [at_put _ hd0, if_pos rfl]
  rw [hw]
  refine ⟨rfl, by rw [len_put]; exact h.ds, h.p, by rw [ha]; exact (flush_length _ _).trans h.len, fun j hj => ?_, by rw [ha]; exact h.gone, by rw [ha]; exact h.lies, by rw [ha]; exact Nat.le_refl _⟩
  rw [ha]
  show nowL (flushL (S.at 0).st (S.at 0).wt) [] j = _
  rw [Kd.flush_nil, flush_get _ _ _ (by rw [h.len]; exact hj)]
  exact h.now j hj
theorem See.dry (h : See S L g 0) : (S.at 0).wt = [] := List.length_eq_zero_iff.1 (Nat.le_zero.1 h.few)
theorem See.stable (h : See S L g 0) : (S.at 0).st = L := by
  apply List.ext_getElem?
  intro k
  by_cases hk : k < L.length
  · have h1 := h.now k hk
    rw [Dv.now, h.dry, Kd.flush_nil, List.getD_eq_getElem?_getD, List.getD_eq_getElem?_getD, List.getElem?_eq_getElem (by rw [h.len]; exact hk), List.getElem?_eq_getElem hk] at h1
    rw [List.getElem?_eq_getElem (by rw [h.len]; exact hk), List.getElem?_eq_getElem hk]
    exact congrArg some h1
  · rw [List.getElem?_eq_none (by rw [h.len]; omega), List.getElem?_eq_none (by omega)]
theorem See.out (h : See S L g 0) (on : Bool) : See (S.put 0 ((S.at 0).out on)) L on 0 := by
  have hd0 : 0 < S.ds.length := by rw [h.ds]; omega
  have ha : (S.put 0 ((S.at 0).out on)).at 0 = (S.at 0).out on := by rw [at_put _ hd0, if_pos rfl]
  have hw : ((S.at 0).out on).wt = [] := by show (if on then [] else (S.at 0).wt) = []; rw [h.dry]; split <;> rfl
  refine ⟨by rw [len_put]; exact h.ds, h.p, by rw [ha]; exact h.len, fun j hj => ?_, by rw [ha]; rfl, by rw [ha]; exact h.lies, by rw [ha, hw]; exact Nat.le_refl _⟩
  rw [ha, Dv.now, hw]
  show nowL (S.at 0).st [] j = _
  rw [← h.now j hj, Dv.now, h.dry]
end
end Go.Proofs.YtnplhagfmfggcaaGreat.Mi
/-
  Two devices of one power that never fails: as they are laid, and what is seen of each.
-/
namespace Go.Proofs.YtnplhagfmfggcaaGreat.Mu
open Go.RowKit Kd Mi
def most2 (S : Sy) : Nat := max (S.at 0).wt.length (S.at 1).wt.length
theorem few_two {S : Sy} (h : S.ds.length = 2) (j : Nat) : (S.at j).wt.length ≤ most2 S := by
  rcases j with _ | _ | j
  · exact Nat.le_max_left _ _
  · exact Nat.le_max_right _ _
  · rw [at_far (by omega)]; exact Nat.zero_le _
def mostD (S : Sy) : Nat := if S.ds.length = 2 then most2 S else 0
theorem mostD_write (S : Sy) (i : Nat) (n : Int) (x : List UInt8) : mostD (S.write i n x).2 ≤ mostD S + 1 := by
  unfold mostD
  rw [write_dsM]
  split
  · rename_i h
    exact Nat.max_le.2 ⟨write_wtM S i n x _ (few_two h) 0, write_wtM S i n x _ (few_two h) 1⟩
  · exact Nat.zero_le _
theorem mostD_flush (S : Sy) (i : Nat) : mostD (S.flush i).2 ≤ mostD S := by
  unfold mostD
  rw [flush_dsM]
  split
  · rename_i h
    exact Nat.max_le.2 ⟨flush_wtM S i _ (few_two h) 0, flush_wtM S i _ (few_two h) 1⟩
  · exact Nat.le_refl _
theorem ptr2 {g1 g2 i : Nat} (hi : i < 2) : (if i = 0 then some (⟨g1, 0, none⟩ : Addr) else some ⟨g2, 0, none⟩) = some ⟨[g1, g2].getD i 0, 0, none⟩ := by
  rcases (show i = 0 ∨ i = 1 by omega) with rfl | rfl <;> rfl
/-- Two devices of one power. -/
def one (p g1 g2 : Nat) : Duo where
  L := SysL p [g1, g2] 2
  ptr i := if i = 0 then some ⟨g1, 0, none⟩ else some ⟨g2, 0, none⟩
  rd S i n := (refuseN S.p (S.at i) n, readS S.p (S.at i) n)
  wr S i n x := S.write i n x
  fl S i := S.flush i
  len S i := (S.at i).st.length
  most S := mostD S
  len_le {w s F i} h hi := (sys_okM h.1 (k := i) (by rw [h.2]; exact hi)).len
  rd_len {w s F i n} h hi := readS_length (sys_okM h.1 (k := i) (by rw [h.2]; exact hi)) _
  wr_most {S i n x} _ := mostD_write S i n x
  fl_most {S i} _ := mostD_flush S i
  crd {w s F i} h hi n := by rw [ptr2 hi]; exact dread_any h.1 i (by rw [h.2]; exact hi) n
  cwr {w S F i} h hi hm n x hx := by
    rw [ptr2 hi]
    exact (write_any h.1 i (by rw [h.2]; exact hi) n x hx (by
      have h1 : mostD S = most2 S := if_pos h.2
      have h2 := few_two h.2 i
      omega)).mono fun _ _ hr => RetS.reta ((write_dsM S i n x).trans h.2) hr
  cfl {w S F i} h hi := by
    rw [ptr2 hi]
    exact (flush_any h.1 i (by rw [h.2]; exact hi)).mono fun _ _ hr => RetS.reta ((flush_dsM S i).trans h.2) hr
  clen {w S F i} h hi := by
    rw [ptr2 hi]
    exact (len_sys h.1 i (by rw [h.2]; exact hi)).mono fun _ _ hr => by
      obtain ⟨rfl, rfl⟩ := hr
      exact ⟨rfl, Below.refl _ _⟩
/-- A device's sectors, as it reads them, whether it is out, and at most how many writes wait. -/
structure See (S : Sy) (i : Nat) (L : List (List UInt8)) (g : Bool) (m : Nat) : Prop where
  ds : S.ds.length = 2
  p : S.p = ⟨false, -1⟩
  lt : i < 2
  len : (S.at i).st.length = L.length
  now : ∀ k, k < L.length → (S.at i).now k = L.getD k zeroS
  gone : (S.at i).gone = g
  lies : (S.at i).lies = false
  few : (S.at i).wt.length ≤ m
section
variable {S : Sy} {i j : Nat} {L L' : List (List UInt8)} {g g' : Bool} {m m' : Nat}
theorem See.more (h : See S i L g m) {m' : Nat} (hm : m ≤ m') : See S i L g m' := ⟨h.ds, h.p, h.lt, h.len, h.now, h.gone, h.lies, Nat.le_trans h.few hm⟩
theorem See.put (h : See S j L' g' m') (d : Dv) (hij : j ≠ i) : See (S.put i d) j L' g' m' := by
  have ha : (S.put i d).at j = S.at j := by
    show (S.ds.set i d).getD j noDv = S.ds.getD j noDv
    rw [List.getD_eq_getElem?_getD, List.getD_eq_getElem?_getD, List.getElem?_set, if_neg (fun e => hij e.symm)]
  exact ⟨by rw [len_put]; exact h.ds, h.p, h.lt, by rw [ha]; exact h.len, by rw [ha]; exact h.now, by rw [ha]; exact h.gone, by rw [ha]; exact h.lies, by rw [ha]; exact h.few⟩
theorem see_new (n : Nat) (hn : n ≤ 4096) : See ((S0.new (n : Int)).new (n : Int)) 0 (List.replicate n zeroS) false 0 ∧ See ((S0.new (n : Int)).new (n : Int)) 1 (List.replicate n zeroS) false 0 := by
  have hc : clampN (n : Int) = n := by unfold clampN; omega
  have h1 : ((S0.new (n : Int)).new (n : Int)).at 0 = newDv n := by rw [Sy.new, Sy.new, hc]; rfl
  have h2 : ((S0.new (n : Int)).new (n : Int)).at 1 = newDv n := by rw [Sy.new, Sy.new, hc]; rfl
  refine ⟨⟨rfl, rfl, by omega, by rw [h1, List.length_replicate]; exact List.length_replicate, fun k hk => ?_, by rw [h1]; rfl, by rw [h1]; rfl, by rw [h1]; exact Nat.le_refl _⟩, ⟨rfl, rfl, by omega, by rw [h2, List.length_replicate]; exact List.length_replicate, fun k hk => ?_, by rw [h2]; rfl, by rw [h2]; rfl, by rw [h2]; exact Nat.le_refl _⟩⟩
  · rw [h1]; rfl
  · rw [h2]; rfl
theorem See.refuse (h : See S i L g m) (n : Int) : refuseN S.p (S.at i) n = if g then 13 else if n < 0 ∨ (L.length : Int) ≤ n then 2 else 0 := by
  rw [refuseN, h.p, h.gone, h.len]; rfl
theorem See.read (h : See S i L g m) (n : Int) : readS S.p (S.at i) n = if (g = false ∧ 0 ≤ n ∧ n < (L.length : Int)) then L.getD n.toNat zeroS else zeroS := by
  rw [readS, h.refuse]
  cases g with
  | true => simp
  | false =>
    by_cases hc : n < 0 ∨ (L.length : Int) ≤ n
    · rw [if_neg (show ¬ ((if false = true then (13 : Int) else if n < 0 ∨ (L.length : Int) ≤ n then 2 else 0) = 0) by rw [if_neg (by simp), if_pos hc]; omega), if_neg (fun h => by omega)]
    · rw [if_pos (show (if false = true then (13 : Int) else if n < 0 ∨ (L.length : Int) ≤ n then 2 else 0) = 0 by rw [if_neg (by simp), if_neg hc]), if_pos ⟨rfl, by omega, by omega⟩]
      exact h.now _ (by omega)
theorem See.write_no (h : See S i L g m) {n : Int} {x : List UInt8} (hn : ¬ (g = false ∧ 0 ≤ n ∧ n < (L.length : Int))) : S.write i n x = (if g then 13 else 2, S) := by
  have hr : refuseN S.p (S.at i) n = if g then 13 else 2 := by
    rw [h.refuse]
    cases g with
    | true => rfl
    | false =>
      have hc : n < 0 ∨ (L.length : Int) ≤ n := by
        by_cases h1 : n < 0
        · exact .inl h1
        · by_cases h2 : n < (L.length : Int)
          · exact absurd ⟨rfl, by omega, h2⟩ hn
          · exact .inr (by omega)
      show (if false = true then (13 : Int) else if n < 0 ∨ (L.length : Int) ≤ n then 2 else 0) = 2
      rw [if_neg (by simp), if_pos hc]
  rw [Kd.write_no (by rw [hr]; cases g <;> simp), hr]
theorem See.write_yes (h : See S i L g m) {k : Nat} {x : List UInt8} (hg : g = false) (hk : k < L.length) :
    (S.write i (k : Int) x).1 = 0 ∧ See (S.write i (k : Int) x).2 i (L.set k x) g (m + 1) ∧ ∀ {j L' g' m'}, j ≠ i → See S j L' g' m' → See (S.write i (k : Int) x).2 j L' g' m' := by
  have hr : refuseN S.p (S.at i) (k : Int) = 0 := by rw [h.refuse, hg, if_neg (by simp), if_neg (by omega)]
  have hw := Kd.write_yes (s := x) hr
  have hp : S.p.fails = false := by rw [h.p]; rfl
  have hd0 : i < S.ds.length := by rw [h.ds]; exact h.lt
  have hpp : (S.put i ((S.at i).add k x)).p = ⟨false, -1⟩ := h.p
  rw [hp, count_plain hpp] at hw
  rw [hw]
  have ha : (S.put i ((S.at i).add k x)).at i = (S.at i).add k x := by rw [at_put _ hd0, if_pos rfl]
  refine ⟨rfl, ⟨by rw [len_put]; exact h.ds, hpp, h.lt, by rw [ha, List.length_set]; exact h.len, fun j hj => ?_, by rw [ha]; exact h.gone, by rw [ha]; exact h.lies, ?_⟩, fun hne hj => hj.put _ hne⟩
  · rw [List.length_set] at hj
    rw [ha, set_getD _ _ _ _ hj]
    show nowL (S.at i).st ((S.at i).wt ++ [(k, x)]) j = _
    rw [now_snoc]
    split
    · rfl
    · exact h.now j hj
  · rw [ha]
    show ((S.at i).wt ++ [(k, x)]).length ≤ m + 1
    rw [List.length_append]; have := h.few; simp; exact this
theorem See.flush_no (h : See S i L g m) (hg : g = true) : S.flush i = (13, S) := by
  unfold Sy.flush; dsimp only; rw [h.p, h.gone, hg]; rfl
theorem See.flush_yes (h : See S i L g m) (hg : g = false) : (S.flush i).1 = 0 ∧ See (S.flush i).2 i L g 0 ∧ ∀ {j L' g' m'}, j ≠ i → See S j L' g' m' → See (S.flush i).2 j L' g' m' := by
  have hd0 : i < S.ds.length := by rw [h.ds]; exact h.lt
  have hp : S.p.fails = false := by rw [h.p]; rfl
  have hw : S.flush i = (0, S.put i { S.at i with st := flushL (S.at i).st (S.at i).wt, wt := [] }) := by
    unfold Sy.flush; dsimp only
    rw [if_neg (by rw [h.p, h.gone, hg]; simp), hp, if_neg (by simp), h.lies, if_neg (by simp), count_plain h.p]
  have ha : (S.put i { S.at i with st := flushL (S.at i).st (S.at i).wt, wt := [] }).at i = { S.at i with st := flushL (S.at i).st (S.at i).wt, wt := [] } := by rw [at_put _ hd0, if_pos rfl]
  rw [hw]
  refine ⟨rfl, ⟨by rw [len_put]; exact h.ds, h.p, h.lt, by rw [ha]; exact (flush_length _ _).trans h.len, fun j hj => ?_, by rw [ha]; exact h.gone, by rw [ha]; exact h.lies, by rw [ha]; exact Nat.le_refl _⟩, fun hne hj => hj.put _ hne⟩
  rw [ha]
  show nowL (flushL (S.at i).st (S.at i).wt) [] j = _
  rw [Kd.flush_nil, flush_get _ _ _ (by rw [h.len]; exact hj)]
  exact h.now j hj
theorem See.dry (h : See S i L g 0) : (S.at i).wt = [] := List.length_eq_zero_iff.1 (Nat.le_zero.1 h.few)
theorem See.stable (h : See S i L g 0) : (S.at i).st = L := by
  apply List.ext_getElem?
  intro k
  by_cases hk : k < L.length
  · have h1 := h.now k hk
    rw [Dv.now, h.dry, Kd.flush_nil, List.getD_eq_getElem?_getD, List.getD_eq_getElem?_getD, List.getElem?_eq_getElem (by rw [h.len]; exact hk), List.getElem?_eq_getElem hk] at h1
    rw [List.getElem?_eq_getElem (by rw [h.len]; exact hk), List.getElem?_eq_getElem hk]
    exact congrArg some h1
  · rw [List.getElem?_eq_none (by rw [h.len]; omega), List.getElem?_eq_none (by omega)]
theorem See.out (h : See S i L g 0) (on : Bool) : See (S.put i ((S.at i).out on)) i L on 0 := by
  have hd0 : i < S.ds.length := by rw [h.ds]; exact h.lt
  have ha : (S.put i ((S.at i).out on)).at i = (S.at i).out on := by rw [at_put _ hd0, if_pos rfl]
  have hw : ((S.at i).out on).wt = [] := by show (if on then [] else (S.at i).wt) = []; rw [h.dry]; split <;> rfl
  refine ⟨by rw [len_put]; exact h.ds, h.p, h.lt, by rw [ha]; exact h.len, fun j hj => ?_, by rw [ha]; rfl, by rw [ha]; exact h.lies, by rw [ha, hw]; exact Nat.le_refl _⟩
  rw [ha, Dv.now, hw]
  show nowL (S.at i).st [] j = _
  rw [← h.now j hj, Dv.now, h.dry]
theorem See.rot (h : See S i L g 0) (n a : Int) (b : UInt8) : See (S.rot i n a b) i (if hasByte L.length n a then rotL L n.toNat a.toNat b else L) g 0 := by
  have hl : (S.at i).st.length = L.length := h.len
  rw [Sy.rot, hl]
  split
  · have hd0 : i < S.ds.length := by rw [h.ds]; exact h.lt
    have ha : (S.put i ((S.at i).rot n.toNat a.toNat b)).at i = (S.at i).rot n.toNat a.toNat b := by rw [at_put _ hd0, if_pos rfl]
    refine ⟨by rw [len_put]; exact h.ds, h.p, h.lt, ?_, fun j hj => ?_, by rw [ha]; exact h.gone, by rw [ha]; exact h.lies, by rw [ha]; exact h.few⟩
    · rw [ha, ← h.stable]; rfl
    · rw [ha, Dv.now]
      show nowL (rotL (S.at i).st n.toNat a.toNat b) (S.at i).wt j = _
      rw [h.dry, Kd.flush_nil, h.stable]
  · exact h
theorem See.rot_other (h : See S j L' g' m') (n a : Int) (b : UInt8) (hij : j ≠ i) : See (S.rot i n a b) j L' g' m' := by
  rw [Sy.rot]; split
  · exact h.put _ hij
  · exact h
end
end Go.Proofs.YtnplhagfmfggcaaGreat.Mu
/-
  The contract of the mirror's Heal.
-/
namespace Go.Proofs.YtnplhagfmfggcaaGreat.Mi
open Go.RowKit Kd
attribute [local go_sem ↓] Go.wp_at_zero Go.wp_at_succ
section
variable {C : Duo} {G : Gd} {g : Nat} {w : World} {s : Mr C} {F : Nat → Prop}
def Mr.healTo (s : Mr C) (i n : Nat) (x : List UInt8) : (Int × Int) × Mr C := (if (s.mend i n x).1 = 0 then (1, 0) else (0, (s.mend i n x).1), (s.mend i n x).2)
/-- What Heal tells, and makes of a mirror. -/
def Mr.heal (G : Gd) (s : Mr C) (n : Int) : (Int × Int) × Mr C :=
  if has s n then
    if C.there s.d 0 && C.there s.d 1 then
      (if right C G s 0 n.toNat then
        (if right C G s 1 n.toNat then (if rightV C G s 0 n.toNat = rightV C G s 1 n.toNat then ((0, 0), s) else s.healTo 1 n.toNat (rightV C G s 0 n.toNat))
         else s.healTo 1 n.toNat (rightV C G s 0 n.toNat))
       else if right C G s 1 n.toNat then s.healTo 0 n.toNat (rightV C G s 1 n.toNat) else ((2, 0), s))
    else ((0, 13), s)
  else ((0, 2), s)
def tup2 (x : Int × Int) : Value := .tuple #[.int .i64 x.1, .int .i64 x.2]
end
end Go.Proofs.YtnplhagfmfggcaaGreat.Mi
