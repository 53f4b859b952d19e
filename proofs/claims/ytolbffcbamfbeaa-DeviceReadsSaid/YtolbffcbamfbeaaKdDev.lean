/-
  A device in memory: its struct, its rows, its map of last writes; power, and all of a power's devices.
-/
import Derived.Test.YtolbffcbamfbeaaKdOut
import Derived.Test.YtolbffcbamfbeaaKtArr
import Derived.Maps.OwnSet
import Derived.Deep.MidRow
namespace Go.Proofs.Ytolbffcbamfbeaa.Kd
open Go.RowKit Go.Maps
attribute [local go_sem ↓] Go.wp_at_zero Go.wp_at_succ
/-- Where the last write of a sector stands among those that wait. -/
def lastG (n : Nat) : Nat → List (Nat × List UInt8) → Option Nat → Option Nat
  | _, [], r => r
  | k, x :: ws, r => lastG n (k + 1) ws (if x.1 = n then some k else r)
def lastL (ws : List (Nat × List UInt8)) (n : Nat) : Option Nat := lastG n 0 ws none
theorem lastG_snoc (n m : Nat) (s : List UInt8) : ∀ (ws : List (Nat × List UInt8)) (k : Nat) (r : Option Nat), lastG n k (ws ++ [(m, s)]) r = if m = n then some (k + ws.length) else lastG n k ws r
  | [], k, r => rfl
  | x :: ws, k, r => by
    show lastG n (k + 1) (ws ++ [(m, s)]) _ = if m = n then _ else lastG n (k + 1) ws _
    rw [lastG_snoc n m s ws (k + 1), List.length_cons, show k + 1 + ws.length = k + (ws.length + 1) by omega]
theorem lastL_snoc (n m : Nat) (s : List UInt8) (ws : List (Nat × List UInt8)) : lastL (ws ++ [(m, s)]) n = if m = n then some ws.length else lastL ws n := by
  rw [lastL, lastG_snoc, Nat.zero_add]; rfl
theorem lastG_now (n : Nat) : ∀ (ws : List (Nat × List UInt8)) (k : Nat) (r : Option Nat) (s : List UInt8),
    (lastG n k ws r = r ∧ ws.foldl (fun s w => if w.1 = n then w.2 else s) s = s) ∨ ∃ i, lastG n k ws r = some (k + i) ∧ ∃ h : i < ws.length, ws.foldl (fun s w => if w.1 = n then w.2 else s) s = ws[i].2
  | [], _, _, _ => .inl ⟨rfl, rfl⟩
  | x :: ws, k, r, s => by
    by_cases hx : x.1 = n
    · rcases lastG_now n ws (k + 1) (some k) x.2 with ⟨h1, h2⟩ | ⟨i, h1, hi, h2⟩
      · refine .inr ⟨0, ?_, by simp, ?_⟩
        · show lastG n (k + 1) ws (if x.1 = n then some k else r) = _
          rw [if_pos hx, h1]; rfl
        · rw [List.foldl_cons, if_pos hx, h2]; rfl
      · refine .inr ⟨i + 1, ?_, by simpa using hi, ?_⟩
        · show lastG n (k + 1) ws (if x.1 = n then some k else r) = _
          rw [if_pos hx, h1, show k + 1 + i = k + (i + 1) by omega]
        · rw [List.foldl_cons, if_pos hx, h2]; rfl
    · rcases lastG_now n ws (k + 1) r s with ⟨h1, h2⟩ | ⟨i, h1, hi, h2⟩
      · refine .inl ⟨?_, ?_⟩
        · show lastG n (k + 1) ws (if x.1 = n then some k else r) = _
          rw [if_neg hx, h1]
        · rw [List.foldl_cons, if_neg hx, h2]
      · refine .inr ⟨i + 1, ?_, by simpa using hi, ?_⟩
        · show lastG n (k + 1) ws (if x.1 = n then some k else r) = _
          rw [if_neg hx, h1, show k + 1 + i = k + (i + 1) by omega]
        · rw [List.foldl_cons, if_neg hx, h2]; rfl
theorem last_none {st : List (List UInt8)} {ws : List (Nat × List UInt8)} {n : Nat} (h : lastL ws n = none) : nowL st ws n = st.getD n zeroS := by
  rcases lastG_now n ws 0 none (st.getD n zeroS) with ⟨_, h2⟩ | ⟨i, h1, _⟩
  · exact h2
  · rw [lastL, h1] at h; cases h
theorem last_some {st : List (List UInt8)} {ws : List (Nat × List UInt8)} {n i : Nat} (h : lastL ws n = some i) : ∃ hi : i < ws.length, nowL st ws n = ws[i].2 := by
  rcases lastG_now n ws 0 none (st.getD n zeroS) with ⟨h1, _⟩ | ⟨j, h1, hj, h2⟩
  · rw [lastL, h1] at h; cases h
  · rw [lastL, h1, Nat.zero_add] at h
    injection h with h
    subst h
    exact ⟨hj, h2⟩
/-- The datum D tells of each sector that a write waits for where its last one stands. -/
structure LastM (D : DataW Unit) (ws : List (Nat × List UInt8)) : Prop where
  tidy : Tidy D
  has : ∀ n : Nat, Maps.has D (.int .i64 (n : Int)) = (lastL ws n).isSome
  at_ : ∀ n k : Nat, lastL ws n = some k → D.atKey (.int .i64 (n : Int)) (.lit (.int .i64 0)) = .lit (.int .i64 (k : Int))
theorem last_empty : LastM (.map []) [] := ⟨tidy_empty, fun _ => rfl, fun n k h => by cases h⟩
theorem lit_ne8 {m z : Nat} (h : ¬ m = z) : (Lit.int .i64 (z : Int)) ≠ Lit.int .i64 (m : Int) := fun e => h (by injection e with _ e; omega)
theorem LastM.put {D : DataW Unit} {ws : List (Nat × List UInt8)} (h : LastM D ws) (m : Nat) (s : List UInt8) : LastM (D.put (.int .i64 (m : Int)) (.lit (.int .i64 (ws.length : Int)))) (ws ++ [(m, s)]) := by
  have hk : WideAt.IsKeyLit (Lit.int .i64 (m : Int)) := trivial
  have hm := h.tidy.isMap
  refine ⟨h.tidy.put hk _, fun n => ?_, fun n k => ?_⟩
  · rw [lastL_snoc]
    by_cases hz : m = n
    · subst hz
      rw [has_put_same hm hk, if_pos rfl]; rfl
    · rw [has_put_other (lit_ne8 hz), h.has, if_neg hz]
  · rw [lastL_snoc]
    by_cases hz : m = n
    · subst hz
      rw [if_pos rfl, atKey_put_same hm hk]
      intro e; injection e with e; rw [e]
    · rw [if_neg hz, atKey_put_other (lit_ne8 hz)]
      exact h.at_ n k
theorem lawI : Keyed Try.prog 3 := int_keyed Try.underlying3
/-- How the map's elements read. -/
def intP (P : Program) : Value → Option (DataW Unit × List MemPlace) := plainElem P 3
/-! ### A device -/
/-- The blocks of a device. -/
def DevF (g : Nat) (A : Option Addr) (n c : Nat) (W : Option Addr) (m e M : Nat) : Nat → Prop := fun q => q = g ∨ q = M ∨ (Value.slice A n c).ownBlock = some q ∨ (Value.slice W m e).ownBlock = some q
structure DevR (w : World) (p g : Nat) (d : Dv) (A : Option Addr) (n c : Nat) (W : Option Addr) (m e M : Nat) (D : DataW Unit) : Prop where
  blk : Blk w g #[.pointer (some ⟨p, 0, none⟩), .slice A n c, .slice W m e, .map (some M), .int .i64 d.kept, .int .i64 d.bytes, .bool d.lies, .bool d.gone] 74
  st : w.ownsRow 0 38 128 (.slice A n c) n (svs d.st)
  wt : w.ownsRow 0 82 129 (.slice W m e) m (wvs d.wt)
  map : w.ownsMap Try.prog 3 (intP Try.prog) M m D
  last : LastM D d.wt
  stn : d.st.length = n
  wtn : d.wt.length = m
  ok : d.ok
  idle : d.gone = true → d.wt = []
/-- A device whose blocks lie in F. -/
def DevAt (w : World) (p g : Nat) (d : Dv) (F : Nat → Prop) : Prop :=
  ∃ A n c W m e M D, DevR w p g d A n c W m e M D ∧ ∀ q, DevF g A n c W m e M q → F q
section
variable {w w' : World} {p g : Nat} {d : Dv} {F G S : Nat → Prop} {A W : Option Addr} {n c m e M : Nat} {D : DataW Unit}
theorem imap_below {b k : Nat} (h : w.ownsMap Try.prog 3 (intP Try.prog) b k D) (hb : Below w.heap.size w w') : w'.ownsMap Try.prog 3 (intP Try.prog) b k D :=
  h.kept (row := none) ⟨hb.os, hb.tape, hb.output, hb.size, fun k hk _ => hb.block k hk⟩ (by simp)
theorem imap_but {b k : Nat} (h : w.ownsMap Try.prog 3 (intP Try.prog) b k D) (hb : But S w w') (hs : ¬ S b) : w'.ownsMap Try.prog 3 (intP Try.prog) b k D := by
  have hlt := h.lt
  obtain ⟨es, clock, hbk, F, hsz, hD⟩ := h
  exact ⟨es, clock, (hb.block b hlt hs).trans hbk, F, hsz, hD⟩
theorem DevR.below (h : DevR w p g d A n c W m e M D) (hb : Below w.heap.size w w') : DevR w' p g d A n c W m e M D :=
  ⟨h.blk.below hb, own_belowN h.st hb, own_belowN h.wt hb, imap_below h.map hb, h.last, h.stn, h.wtn, h.ok, h.idle⟩
theorem DevR.but (h : DevR w p g d A n c W m e M D) (hb : But S w w') (hs : ∀ q, DevF g A n c W m e M q → ¬ S q) : DevR w' p g d A n c W m e M D :=
  ⟨h.blk.but hb (hs _ (.inl rfl)), Own.but h.st hb (fun _ hk => hs _ (.inr (.inr (.inl hk)))), Own.but h.wt hb (fun _ hk => hs _ (.inr (.inr (.inr hk)))), imap_but h.map hb (hs _ (.inr (.inl rfl))), h.last, h.stn, h.wtn, h.ok, h.idle⟩
theorem DevR.lt (h : DevR w p g d A n c W m e M D) : ∀ q, DevF g A n c W m e M q → q < w.heap.size := by
  rintro q (rfl | rfl | hq | hq)
  · exact h.blk.lt
  · exact h.map.lt
  · exact (h.st.lt q hq).2
  · exact (h.wt.lt q hq).2
theorem DevAt.below (h : DevAt w p g d F) (hb : Below w.heap.size w w') : DevAt w' p g d F := by
  obtain ⟨A, n, c, W, m, e, M, D, h, hF⟩ := h
  exact ⟨A, n, c, W, m, e, M, D, h.below hb, hF⟩
theorem DevAt.but (h : DevAt w p g d F) (hb : But S w w') (hs : ∀ q, F q → S q → False) : DevAt w' p g d F := by
  obtain ⟨A, n, c, W, m, e, M, D, h, hF⟩ := h
  exact ⟨A, n, c, W, m, e, M, D, h.but hb (fun q hq => hs q (hF q hq)), hF⟩
theorem DevAt.more (h : DevAt w p g d F) (hG : ∀ q, F q → G q) : DevAt w p g d G := by
  obtain ⟨A, n, c, W, m, e, M, D, h, hF⟩ := h
  exact ⟨A, n, c, W, m, e, M, D, h, fun q hq => hG q (hF q hq)⟩
/-- Blocks that are the device's, or new. -/
def grow (F : Nat → Prop) (w w' : World) : Nat → Prop := fun q => F q ∨ (w.heap.size ≤ q ∧ q < w'.heap.size)
/-- The map's block, and the device's, are none of its rows'. -/
theorem DevR.apart (h : DevR w p g d A n c W m e M D) : g ≠ M ∧ (∀ q, (Value.slice A n c).ownBlock = some q → q ≠ g ∧ q ≠ M) ∧ (∀ q, (Value.slice W m e).ownBlock = some q → q ≠ g ∧ q ≠ M) ∧ (∀ q, (Value.slice A n c).ownBlock = some q → (Value.slice W m e).ownBlock = some q → False) := by
  have hM : ∀ cs t l, w.heap[M]? ≠ some (.cells cs t l) := fun cs t l hc => by
    obtain ⟨es, clock, hbk, _⟩ := h.map
    rw [hc] at hbk; cases hbk
  have hrow : ∀ {k e size : Nat} {v : Value} {xs : List Value} {ty : TypeId}, w.ownsRow 0 ty size v k xs → ∀ q, v.ownBlock = some q → ∃ cs, w.heap[q]? = some (.cells cs ty (0, 0)) := fun ho q hq => by
    rcases ho.2 with ⟨rfl, _⟩ | ⟨g', cap, cur, rfl, _, h2, _⟩
    · cases hq
    · injection hq with hq; subst hq; exact ⟨_, h2⟩
  have hg : w.heap[g]? = some (.cells _ 74 (0, 0)) := h.blk
  refine ⟨fun e => hM _ _ _ (e ▸ hg), fun q hq => ?_, fun q hq => ?_, fun q hq hq' => ?_⟩
  · obtain ⟨cs, hc⟩ := hrow (e := 0) h.st q hq
    refine ⟨?_, fun e => hM _ _ _ (e ▸ hc)⟩
    rintro rfl
    rw [hc] at hg; injection hg with hg; injection hg with _ hg; exact absurd hg (by decide)
  · obtain ⟨cs, hc⟩ := hrow (e := 0) h.wt q hq
    refine ⟨?_, fun e => hM _ _ _ (e ▸ hc)⟩
    rintro rfl
    rw [hc] at hg; injection hg with hg; injection hg with _ hg; exact absurd hg (by decide)
  · obtain ⟨cs, hc⟩ := hrow (e := 0) h.st q hq
    obtain ⟨cs', hc'⟩ := hrow (e := 0) h.wt q hq'
    rw [hc] at hc'; injection hc' with hc'; injection hc' with _ hc'; exact absurd hc' (by decide)
end
end Go.Proofs.Ytolbffcbamfbeaa.Kd
