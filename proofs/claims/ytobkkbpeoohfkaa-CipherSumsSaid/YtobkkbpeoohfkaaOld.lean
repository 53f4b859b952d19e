/-
  Behind an append onto a row of the call's own the elder slice still reads as it did.
-/
import Derived.Test.YtobkkbpeoohfkaaWords
namespace Go.Proofs.Ytobkkbpeoohfkaa
open Go.RowKit
section
variable {P : Program} (w : World)
/-- Behind an append the elder slice still reads as it did. -/
theorem run_app_old {t e ty : TypeId} {z : Value} {bytes : Nat} (E : Elt P t e z bytes) {base g n cap : Nat} {xs : List Value} (hown : w.ownsRow base e 1 (.slice (some ⟨g, 0, none⟩) n cap) n xs)
    {B m c : Nat} {A : Option Addr} {news : List Value} (hr : Rd B w A news) (hm : news.length = m) (h1 : ∀ u ∈ news, u.oneCell' = true)
    (hsz : (n + m) * bytes ≤ 140737488355328) {v' : Value} {w' : World} (hrun : (Builtin.append_ #[t, t] ty #[.slice (some ⟨g, 0, none⟩) n cap, .slice A m c]).run P w = .ok v' w') :
    ∀ j u, xs[j]? = some u → w'.cell? ⟨g, j, none⟩ = some u := by
  obtain ⟨i, hi, hz, hs, hby⟩ := info_parts E.info
  have holds : ∀ j u, xs[j]? = some u → w.cell? ((⟨g, 0, none⟩ : Addr).add j) = some u := hown.cells (g := g) rfl
  have hsmall := small_len E.some_ hsz
  unfold maxLen at hsmall
  have hxl := own_len hown
  rcases A with _ | ad
  · have hn : news = [] := by
      rcases news with _ | ⟨u, r⟩
      · rfl
      · obtain ⟨_, h, _⟩ := hr 0 u rfl
        cases h
    subst hn
    subst hm
    have hww : w' = w := by
      rcases hown.2 with ⟨h, _⟩ | ⟨g', cap', cur, h, _, _, hnc, _⟩
      · cases h
      · injection h with ha hb hc
        subst hc
        simp [Builtin.append_, run_underlying E.under, sizeOf, typeInfo, hi, Builtin.lenOf, Builtin.firstCells, hnc, storeCells] at hrun
        exact hrun.2.symm
    subst hww
    intro j u hu
    have := holds j u hu
    rwa [show (⟨g, 0, none⟩ : Addr).add j = ⟨g, j, none⟩ by unfold Addr.add; split <;> simp_all] at this
  · have hnews : ∀ j u, news[j]? = some u → w.cell? (ad.add j) = some u := by
      intro j u hu
      obtain ⟨ad', h, _, hc⟩ := hr j u hu
      injection h with h
      subst h
      exact hc
    rcases hown.2 with ⟨h, _⟩ | ⟨g', cap', cur, h, _, hg, hnc, hcm, hcs, htake⟩
    · cases h
    · injection h with ha hb hc
      injection ha with ha
      injection ha with ha
      subst ha; subst hc
      by_cases hroom : n + m ≤ cap
      · have hrr := run_append_room (P := P) w t ty e i E.under hi g n cap cur hg ad m c news (by rw [hs]; omega) hnews h1 hroom (by rw [hs, hcs, hm]; omega)
        rw [hrr] at hrun
        injection hrun with _ hw
        subst hw
        intro j u hu
        have hj : j < n := by have := (List.getElem?_eq_some_iff.1 hu).1; omega
        rw [cell_of_row _ g j _ e (0, 0) (setRow_heap w g cur _ e _ hg)]
        have h2 : (List.take (n * i.size) cur.toList ++ news ++ List.drop (n * i.size + news.length) cur.toList)[j]? = xs[j]? := by
          rw [hs, htake, List.append_assoc, List.getElem?_append_left (by omega)]
        rw [List.getElem?_toArray, h2]
        exact hu
      · have hrr := run_append_grow (P := P) w t ty e i z E.under hi hz ⟨g, 0, none⟩ n cap xs (by rw [hs]; omega) holds ad m c news (by rw [hs]; omega) hnews (by omega) (by omega) (growslice_fits (by omega) (by rw [hby]; exact hsz))
        rw [hrr] at hrun
        injection hrun with _ hw
        subst hw
        intro j u hu
        have h3 := holds j u hu
        rw [show (⟨g, 0, none⟩ : Addr).add j = ⟨g, j, none⟩ by unfold Addr.add; split <;> simp_all] at h3
        have hlt : g < w.heap.size := (Array.getElem?_eq_some_iff.1 hg).1
        rw [World.cell?_alloc_lt _ _ _ hlt]
        exact h3
theorem step_app_old {ops : Array Oper} {o : Oper} {a : Act} {K : Act → World → Prop} {Q : Exit → Act → World → Prop} {F : Prop} (hgd : o.guard = none) (s x : Operand) (t : TypeId)
    (ho : o.op = .call { callee := .builtin .append, args := #[s, x], argTypes := #[t, t] })
    {e : TypeId} {z : Value} {bytes : Nat} (E : Elt P t e z bytes) {base g n cap : Nat} {xs : List Value} (hs : a.eval s = .slice (some ⟨g, 0, none⟩) n cap) (hown : w.ownsRow base e 1 (.slice (some ⟨g, 0, none⟩) n cap) n xs)
    {B m c : Nat} {A : Option Addr} {news : List Value} (hx : a.eval x = .slice A m c) (hr : Rd B w A news) (hm : news.length = m) (h1 : ∀ u ∈ news, u.oneCell' = true)
    (hsz : (n + m) * bytes ≤ 140737488355328) (hbase : base ≤ w.heap.size)
    (h : ∀ A' c' w', w'.ownsRow base e 1 (.slice A' (n + m) c') (n + m) (xs ++ news) → w.grownBy w' (some g) →
      (∀ j u, xs[j]? = some u → w'.cell? ⟨g, j, none⟩ = some u) → K (a.put o.dst (.slice A' (n + m) c')) w') :
    if Region.wanted o (yielded ops a.tmps) = true then Oper.wp P o a w K Q else F := by
  have hw : Region.wanted o (yielded ops a.tmps) = true := by simp [Region.wanted, hgd]
  rw [if_pos hw]
  obtain ⟨A', c', w', hrun, h2, h3, _⟩ := run_app w (ty := o.type) (c := c) E hown hr hm h1 hsz hbase
  have h4 := run_app_old w E hown hr hm h1 hsz hrun
  unfold Oper.wp execOp
  simp only [ho, resolve, invoke, builtin, Sem.run_bind, Sem.run_pure, Result.andThen_ok, List.map_toArray, List.map_cons, List.map_nil, hs, hx, hrun]
  exact h A' c' w' h2 h3 h4
theorem wpList_app_if {ops : Array Oper} {rest : List Oper} {o : Oper} {a : Act} {Q : Exit → Act → World → Prop} (hgd : Region.wanted o (yielded ops a.tmps) = true) (s x : Operand) (t : TypeId)
    (ho : o.op = .call { callee := .builtin .append, args := #[s, x], argTypes := #[t, t] })
    {e : TypeId} {z : Value} {bytes : Nat} (E : Elt P t e z bytes) {base n : Nat} {v : Value} {xs : List Value} (hs : a.eval s = v) (hown : w.ownsRow base e 1 v n xs)
    {B m c : Nat} {A : Option Addr} {news : List Value} (hx : a.eval x = .slice A m c) (hr : Rd B w A news) (hm : news.length = m) (h1 : ∀ u ∈ news, u.oneCell' = true)
    (hsz : (n + m) * bytes ≤ 140737488355328) (hbase : base ≤ w.heap.size)
    (h : ∀ A' c' w', w'.ownsRow base e 1 (.slice A' (n + m) c') (n + m) (xs ++ news) → w.grownBy w' v.ownBlock →
      ((Value.slice A' (n + m) c').ownBlock = v.ownBlock ∨ (Value.slice A' (n + m) c').ownBlock = some w.heap.size) → wpList P ops Q rest (a.put o.dst (.slice A' (n + m) c')) w') :
    wpList P ops Q (o :: rest) a w := by
  unfold wpList
  rw [if_pos hgd]
  exact .inl (wp_app w s x t ho E hs hown hx hr hm h1 hsz hbase h)
end
end Go.Proofs.Ytobkkbpeoohfkaa
