/-
  Words for slices of bytes and slices of such slices, over any program: what they read as, and how that is kept.
-/
import Derived.ProofKit
import Derived.WalkKit
import Derived.WalkSpells
import Derived.WalkLawsBesides
import Derived.Deep.Draws
import Derived.Deep.AppendLies
import Derived.Maps.AppendAt
import Derived.Deep.RegionLaw
import Derived.Lib.Hide
import Derived.IntWalk
namespace Go.Proofs.Ytmokigcplgjgiaa
open Go.RowKit

/-- The cells of a row of bytes. -/
def bv (l : List UInt8) : List Value := l.map fun c => Value.int .u8 (c.toNat : Int)

theorem bv_length (l : List UInt8) : (bv l).length = l.length := by simp [bv]
theorem bv_get {l : List UInt8} {k : Nat} (h : k < l.length) : (bv l)[k]? = some (.int .u8 (l[k].toNat : Int)) := by
  simp [bv, List.getElem?_eq_getElem h]
theorem bv_one (l : List UInt8) : ∀ u ∈ bv l, u.oneCell' = true := by
  intro u hu
  simp only [bv, List.mem_map] at hu
  obtain ⟨c, _, rfl⟩ := hu
  rfl
theorem bv_append (a b : List UInt8) : bv (a ++ b) = bv a ++ bv b := by simp [bv]

/-- Below block B the slice at A reads the cells xs. -/
def Rd (B : Nat) (w : World) (A : Option Addr) (xs : List Value) : Prop :=
  ∀ k u, xs[k]? = some u → ∃ ad, A = some ad ∧ ad.block < B ∧ w.cell? (ad.add k) = some u

theorem add_block (a : Addr) (n : Nat) : (a.add n).block = a.block := by unfold Addr.add; split <;> rfl
theorem add_twice (a : Addr) (i j : Nat) : (a.add i).add j = a.add (i + j) := by
  unfold Addr.add
  by_cases hi : i = 0 <;> by_cases hj : j = 0 <;> simp [hi, hj, Nat.add_assoc]
theorem add_zero (a : Addr) : a.add 0 = a := by unfold Addr.add; simp

section
variable {B B' : Nat} {w w' : World} {A : Option Addr} {xs : List Value}
theorem Rd.none : Rd B w A [] := fun k u h => by simp at h
theorem Rd.more (h : Rd B w A xs) (hB : B ≤ B') : Rd B' w A xs := fun k u hu => by
  obtain ⟨ad, e, hb, hc⟩ := h k u hu
  exact ⟨ad, e, by omega, hc⟩
theorem Rd.below (h : Rd B w A xs) (hb : Below B w w') : Rd B w' A xs := fun k u hu => by
  obtain ⟨ad, e, hl, hc⟩ := h k u hu
  exact ⟨ad, e, hl, (hb.cell (by rw [add_block]; exact hl)).trans hc⟩
theorem Rd.drewN (h : Rd B w A xs) (n : Nat) : Rd B (w.drewN n) A xs := h
theorem Rd.own {base n c : Nat} {e : TypeId} (h : w.ownsRow base e 1 (.slice A n c) n xs) : Rd w.heap.size w A xs := fun k u hu => by
  have hk : k < xs.length := (List.getElem?_eq_some_iff.1 hu).1
  have hn : xs.length = n := by have := h.1; omega
  obtain ⟨g, cap, hv, _, hlt⟩ := h.form (by omega)
  have hA : A = some ⟨g, 0, .none⟩ := by injection hv
  subst hA
  exact ⟨_, rfl, hlt, h.cells (g := g) rfl k u hu⟩
theorem Rd.at_ {l : List UInt8} (h : Rd B w A (bv l)) {k : Nat} (hk : k < l.length) : ∃ ad, A = some ad ∧ ad.block < B ∧ w.cell? (ad.add k) = some (.int .u8 (l[k].toNat : Int)) :=
  h k _ (bv_get hk)
end

/-- It returns v, having only drawn. -/
def RetQ (v : Value) (w : World) (e : Ending) (w' : World) : Prop := e = .returned v ∧ ∃ k, w' = w.drewN k

theorem RetQ.mk0 {v : Value} {w : World} {e : Ending} (h : e = .returned v) : RetQ v w e w := ⟨h, 0, rfl⟩
theorem RetQ.mk1 {v : Value} {w : World} {e : Ending} {q : Nat} (h : e = .returned v) : RetQ v w e (w.drewN q) := ⟨h, q, rfl⟩
theorem RetQ.mk2 {v : Value} {w : World} {e : Ending} {q r : Nat} (h : e = .returned v) : RetQ v w e ((w.drewN q).drewN r) := ⟨h, q + r, World.drewN_drewN _ _ _⟩
theorem ret_bool {a b : Bool} (h : a = b) : Ending.returned (.bool a) = .returned (.bool b) := by rw [h]
theorem ret_int {k : IntKind} {a b : Int} (h : a = b) : Ending.returned (.int k a) = .returned (.int k b) := by rw [h]
/-- What a quiet callee says, met inside a region that only reads. -/
theorem RetQ.quiet {P : Program} {f : FuncId} {args : Array Value} {w : World} {n : Nat} {v : Value} (h : Calls P f args (w.drewN n) (RetQ v (w.drewN n))) :
    Calls P f args (w.drewN n) fun e w'' => e = .returned v ∧ ∃ m, w'' = w.drewN m :=
  h.mono fun _ _ ⟨he, m, hm⟩ => ⟨he, n + m, by rw [hm, World.drewN_drewN]⟩

theorem own_len {w : World} {base n : Nat} {e : TypeId} {v : Value} {xs : List Value} (h : w.ownsRow base e 1 v n xs) : xs.length = n := by have := h.1; omega
theorem own_max {w : World} {base n : Nat} {e : TypeId} {v : Value} {xs : List Value} (h : w.ownsRow base e 1 v n xs) : n ≤ maxLen := by
  rcases h.2 with ⟨_, h0⟩ | ⟨_, _, _, _, _, _, h1, h2, _⟩ <;> omega
theorem own_blen {w : World} {base n : Nat} {e : TypeId} {v : Value} {l : List UInt8} (h : w.ownsRow base e 1 v n (bv l)) : l.length = n := by rw [← own_len h, bv_length]
theorem own_drewN {w : World} {base n : Nat} {e : TypeId} {v : Value} {xs : List Value} (h : w.ownsRow base e 1 v n xs) (q : Nat) : (w.drewN q).ownsRow base e 1 v n xs := h
/-- What a call owned stays so behind a step that turns nothing below the heap's size. -/
theorem own_below {w w' : World} {base n : Nat} {e : TypeId} {v : Value} {xs : List Value} (h : w.ownsRow base e 1 v n xs) (hb : Below w.heap.size w w') : w'.ownsRow base e 1 v n xs :=
  h.kept (row := none) ⟨hb.os, hb.tape, hb.output, hb.size, fun k hk _ => hb.block k hk⟩ (by cases v.ownBlock <;> simp)
theorem own_more {w : World} {base base' n : Nat} {e : TypeId} {v : Value} {xs : List Value} (h : w.ownsRow base e 1 v n xs) (hb : base' ≤ base) : w.ownsRow base' e 1 v n xs := by
  refine ⟨h.1, ?_⟩
  rcases h.2 with h0 | ⟨g, cap, cur, h1, h2, h3⟩
  · exact .inl h0
  · exact .inr ⟨g, cap, cur, h1, Nat.le_trans hb h2, h3⟩
theorem below_drewN' {B : Nat} {a w : World} (h : Below B a w) (n : Nat) : Below B a (w.drewN n) := ⟨h.os, h.tape, h.output, h.size, h.block⟩

/-- It returns a new row of cells xs of type t; what there was is as it was. -/
def RetRow (t : TypeId) (xs : List Value) (w : World) (e : Ending) (w' : World) : Prop :=
  ∃ A n c, e = .returned (.slice A n c) ∧ w'.ownsRow w.heap.size t 1 (.slice A n c) n xs ∧ Below w.heap.size w w'
theorem RetRow.mk {t : TypeId} {xs : List Value} {w : World} {e : Ending} {w' : World} {A : Option Addr} {n c : Nat} (h : e = .returned (.slice A n c))
    (ho : w'.ownsRow w.heap.size t 1 (.slice A n c) n xs) (hb : Below w.heap.size w w') : RetRow t xs w e w' := ⟨A, n, c, h, ho, hb⟩

/-- t is a slice type of elements e of one cell, whose zero is z, of so many bytes each. -/
structure Elt (P : Program) (t e : TypeId) (z : Value) (bytes : Nat) : Prop where
  under : P.underlying t = some (.slice e)
  info : (P.info? e).map (fun i => (i.zero, i.size, i.bytes)) = some (some z, 1, bytes)
  one : z.cells.size = 1
  some_ : 0 < bytes

theorem own_form {w : World} {base n : Nat} {e : TypeId} {v : Value} {xs : List Value} (h : w.ownsRow base e 1 v n xs) : ∃ A c, v = .slice A n c := by
  rcases h.2 with ⟨rfl, rfl⟩ | ⟨g, cap, _, rfl, _⟩
  · exact ⟨_, _, rfl⟩
  · exact ⟨_, _, rfl⟩
theorem small_len {n b : Nat} (hb : 0 < b) (h : n * b ≤ 140737488355328) : n ≤ maxLen := by
  have := Nat.le_mul_of_pos_right n hb
  unfold maxLen; omega

section
variable {P : Program} (w : World)
/-- append onto a row of the call's own, from whatever slice can be read, nil let in. -/
theorem run_app {t e ty : TypeId} {z : Value} {bytes : Nat} (E : Elt P t e z bytes) {base n : Nat} {v : Value} {xs : List Value} (hown : w.ownsRow base e 1 v n xs)
    {B m c : Nat} {A : Option Addr} {news : List Value} (hr : Rd B w A news) (hm : news.length = m) (h1 : ∀ u ∈ news, u.oneCell' = true)
    (hsz : (n + m) * bytes ≤ 140737488355328) (hbase : base ≤ w.heap.size) :
    ∃ A' c' w', (Builtin.append_ #[t, t] ty #[v, .slice A m c]).run P w = .ok (.slice A' (n + m) c') w' ∧ w'.ownsRow base e 1 (.slice A' (n + m) c') (n + m) (xs ++ news) ∧ w.grownBy w' v.ownBlock ∧
      ((Value.slice A' (n + m) c').ownBlock = v.ownBlock ∨ (Value.slice A' (n + m) c').ownBlock = some w.heap.size) := by
  obtain ⟨i, hi, hz, hs, hby⟩ := info_parts E.info
  have fin : ∀ ad : Addr, (∀ j u, news[j]? = some u → w.cell? (ad.add j) = some u) → ∃ A' c' w', (Builtin.append_ #[t, t] ty #[v, .slice (some ad) m c]).run P w = .ok (.slice A' (n + m) c') w' ∧ w'.ownsRow base e 1 (.slice A' (n + m) c') (n + m) (xs ++ news) ∧ w.grownBy w' v.ownBlock ∧
      ((Value.slice A' (n + m) c').ownBlock = v.ownBlock ∨ (Value.slice A' (n + m) c').ownBlock = some w.heap.size) := by
    intro ad hc
    obtain ⟨v', w', hrun, h2, h3, _, h5⟩ := run_append_own_at (P := P) w base t ty e i z 1 bytes E.under hi hz hs hby E.one (by omega) v n xs hown ad m c news (by omega) hc h1 (small_len E.some_ hsz) hsz hbase
    obtain ⟨A', c', rfl⟩ := own_form h2
    exact ⟨A', c', w', hrun, h2, h3, h5⟩
  rcases A with _ | ad
  · have hn : news = [] := by
      rcases news with _ | ⟨u, r⟩
      · rfl
      · obtain ⟨_, h, _⟩ := hr 0 u rfl
        cases h
    subst hn
    subst hm
    obtain ⟨A', c', rfl⟩ := own_form hown
    refine ⟨A', c', w, ?_, by simpa using hown, World.grownBy.refl w _, .inl rfl⟩
    rcases hown.2 with ⟨h, rfl⟩ | ⟨g, cap, cur, h, _, _, hnc, _⟩
    · injection h with ha hb hc
      subst ha; subst hc
      simp [Builtin.append_, run_underlying E.under, sizeOf, typeInfo, hi, Builtin.lenOf, Builtin.firstCells]
    · injection h with ha hb hc
      subst ha; subst hc
      simp [Builtin.append_, run_underlying E.under, sizeOf, typeInfo, hi, Builtin.lenOf, Builtin.firstCells, hnc, storeCells]
  · refine fin ad fun j u hu => ?_
    obtain ⟨ad', h, _, hc⟩ := hr j u hu
    injection h with h
    subst h
    exact hc

theorem wp_app {o : Oper} {a : Act} {K : Act → World → Prop} {Q : Exit → Act → World → Prop} (s x : Operand) (t : TypeId)
    (ho : o.op = .call { callee := .builtin .append, args := #[s, x], argTypes := #[t, t] })
    {e : TypeId} {z : Value} {bytes : Nat} (E : Elt P t e z bytes) {base n : Nat} {v : Value} {xs : List Value} (hs : a.eval s = v) (hown : w.ownsRow base e 1 v n xs)
    {B m c : Nat} {A : Option Addr} {news : List Value} (hx : a.eval x = .slice A m c) (hr : Rd B w A news) (hm : news.length = m) (h1 : ∀ u ∈ news, u.oneCell' = true)
    (hsz : (n + m) * bytes ≤ 140737488355328) (hbase : base ≤ w.heap.size)
    (h : ∀ A' c' w', w'.ownsRow base e 1 (.slice A' (n + m) c') (n + m) (xs ++ news) → w.grownBy w' v.ownBlock →
      ((Value.slice A' (n + m) c').ownBlock = v.ownBlock ∨ (Value.slice A' (n + m) c').ownBlock = some w.heap.size) → K (a.put o.dst (.slice A' (n + m) c')) w') : o.wp P a w K Q := by
  obtain ⟨A', c', w', hrun, h2, h3, h4⟩ := run_app w (ty := o.type) (c := c) E hown hr hm h1 hsz hbase
  unfold Oper.wp execOp
  simp only [ho, resolve, invoke, builtin, Sem.run_bind, Sem.run_pure, Result.andThen_ok, List.map_toArray, List.map_cons, List.map_nil, hs, hx, hrun]
  exact h A' c' w' h2 h3 h4

theorem wpList_app {ops : Array Oper} {rest : List Oper} {o : Oper} {a : Act} {Q : Exit → Act → World → Prop} (hgd : o.guard = none) (s x : Operand) (t : TypeId)
    (ho : o.op = .call { callee := .builtin .append, args := #[s, x], argTypes := #[t, t] })
    {e : TypeId} {z : Value} {bytes : Nat} (E : Elt P t e z bytes) {base n : Nat} {v : Value} {xs : List Value} (hs : a.eval s = v) (hown : w.ownsRow base e 1 v n xs)
    {B m c : Nat} {A : Option Addr} {news : List Value} (hx : a.eval x = .slice A m c) (hr : Rd B w A news) (hm : news.length = m) (h1 : ∀ u ∈ news, u.oneCell' = true)
    (hsz : (n + m) * bytes ≤ 140737488355328) (hbase : base ≤ w.heap.size)
    (h : ∀ A' c' w', w'.ownsRow base e 1 (.slice A' (n + m) c') (n + m) (xs ++ news) → w.grownBy w' v.ownBlock →
      ((Value.slice A' (n + m) c').ownBlock = v.ownBlock ∨ (Value.slice A' (n + m) c').ownBlock = some w.heap.size) → wpList P ops Q rest (a.put o.dst (.slice A' (n + m) c')) w') :
    wpList P ops Q (o :: rest) a w :=
  wpList_plain hgd fun _ hK => wp_app w s x t ho E hs hown hx hr hm h1 hsz hbase fun A' c' w' h2 h3 h4 => hK _ _ (h A' c' w' h2 h3 h4)

theorem step_app {ops : Array Oper} {o : Oper} {a : Act} {K : Act → World → Prop} {Q : Exit → Act → World → Prop} {F : Prop} (hgd : o.guard = none) (s x : Operand) (t : TypeId)
    (ho : o.op = .call { callee := .builtin .append, args := #[s, x], argTypes := #[t, t] })
    {e : TypeId} {z : Value} {bytes : Nat} (E : Elt P t e z bytes) {base n : Nat} {v : Value} {xs : List Value} (hs : a.eval s = v) (hown : w.ownsRow base e 1 v n xs)
    {B m c : Nat} {A : Option Addr} {news : List Value} (hx : a.eval x = .slice A m c) (hr : Rd B w A news) (hm : news.length = m) (h1 : ∀ u ∈ news, u.oneCell' = true)
    (hsz : (n + m) * bytes ≤ 140737488355328) (hbase : base ≤ w.heap.size)
    (h : ∀ A' c' w', w'.ownsRow base e 1 (.slice A' (n + m) c') (n + m) (xs ++ news) → w.grownBy w' v.ownBlock →
      ((Value.slice A' (n + m) c').ownBlock = v.ownBlock ∨ (Value.slice A' (n + m) c').ownBlock = some w.heap.size) → K (a.put o.dst (.slice A' (n + m) c')) w') :
    if Region.wanted o (yielded ops a.tmps) = true then Oper.wp P o a w K Q else F := by
  have hw : Region.wanted o (yielded ops a.tmps) = true := by simp [Region.wanted, hgd]
  rw [if_pos hw]
  exact wp_app w s x t ho E hs hown hx hr hm h1 hsz hbase h
end

/-- Behind an append onto a row of the call's own what lies below is as it was. -/
theorem app_below {a w w' : World} {B base n : Nat} {e : TypeId} {v : Value} {xs : List Value} (h : Below B a w) (hown : w.ownsRow base e 1 v n xs) (hg : w.grownBy w' v.ownBlock) (hB : B ≤ base) (hs : B ≤ w.heap.size) : Below B a w' :=
  h.grown hg hs fun k hk => Nat.le_trans hB (hown.lt k hk).1

theorem own_eq {w : World} {base n n' c : Nat} {e : TypeId} {A : Option Addr} {xs xs' : List Value} (h : w.ownsRow base e 1 (.slice A n c) n xs) (hn : n = n') (hx : xs = xs') : w.ownsRow base e 1 (.slice A n' c) n' xs' := by
  subst hn; subst hx; exact h
theorem slice_eq {A : Option Addr} {m n c : Nat} (h : m = n) : Value.slice A m c = .slice A n c := by rw [h]
theorem int_eq {k : IntKind} {a b : Int} (h : a = b) : Value.int k a = .int k b := by rw [h]
theorem bv_nil : bv [] = [] := rfl

/-- The bound of a number of 64 bits, behind a name: a walk that meets the numeral runs out of depth. -/
def U64 (n : Nat) : Prop := n < 18446744073709551616
theorem U64.mk {n : Nat} (h : (n : Int) < 18446744073709551616) : U64 n := by unfold U64; omega
theorem U64.int {n : Nat} (h : U64 n) : (n : Int) < 18446744073709551616 := by unfold U64 at h; omega
theorem U64.wrap {n : Nat} (h : U64 n) : IntKind.u64.wrap (n : Int) = n := by unfold U64 at h; exact IntWalk.u64_in _ (by omega)

/-- v is a slice of the bytes l. -/
def IsB (B : Nat) (w : World) (v : Value) (l : List UInt8) : Prop := ∃ A c, v = .slice A l.length c ∧ l.length ≤ c ∧ c ≤ maxLen ∧ Rd B w A (bv l)
/-- The slice at A reads elements of which each is R of its part of ls. -/
def RdL {α : Type} (B : Nat) (w : World) (R : Value → α → Prop) (A : Option Addr) (ls : List α) : Prop :=
  ∃ vs : List Value, vs.length = ls.length ∧ Rd B w A vs ∧ ∀ (k : Nat) (v : Value) (l : α), vs[k]? = some v → ls[k]? = some l → R v l
/-- v is a slice of such elements. -/
def IsL {α : Type} (B : Nat) (w : World) (R : Value → α → Prop) (v : Value) (ls : List α) : Prop := ∃ A c, v = .slice A ls.length c ∧ ls.length ≤ c ∧ c ≤ maxLen ∧ RdL B w R A ls

section
variable {α : Type} {B B' : Nat} {w w' : World} {R R' : Value → α → Prop} {A : Option Addr} {ls : List α} {v : Value} {l : List UInt8}
theorem IsB.below (h : IsB B w v l) (hb : Below B w w') : IsB B w' v l := by
  obtain ⟨A, c, e, h1, h2, h3⟩ := h
  exact ⟨A, c, e, h1, h2, h3.below hb⟩
theorem IsB.more (h : IsB B w v l) (hB : B ≤ B') : IsB B' w v l := by
  obtain ⟨A, c, e, h1, h2, h3⟩ := h
  exact ⟨A, c, e, h1, h2, h3.more hB⟩
theorem IsB.own {base n c : Nat} {e : TypeId} (h : w.ownsRow base e 1 (.slice A n c) n (bv l)) : IsB w.heap.size w (.slice A n c) l := by
  have hn := own_blen h
  refine ⟨A, c, by rw [hn], ?_, ?_, Rd.own h⟩
  · rcases h.2 with ⟨h0, h1⟩ | ⟨_, cap, _, h0, _, _, h1, _⟩
    · omega
    · injection h0 with _ _ h0
      omega
  · rcases h.2 with ⟨h0, h1⟩ | ⟨_, cap, _, h0, _, _, h1, h2, _⟩
    · injection h0 with _ _ h0
      rw [h0]; unfold maxLen; omega
    · injection h0 with _ _ h0
      omega
theorem RdL.imp (h : RdL B w R A ls) (hR : ∀ v l, l ∈ ls → R v l → R' v l) : RdL B w R' A ls := by
  obtain ⟨vs, e, h1, h2⟩ := h
  exact ⟨vs, e, h1, fun k v l hv hl => hR v l (List.mem_of_getElem? hl) (h2 k v l hv hl)⟩
theorem RdL.below (h : RdL B w R A ls) (hb : Below B w w') : RdL B w' R A ls := by
  obtain ⟨vs, e, h1, h2⟩ := h
  exact ⟨vs, e, h1.below hb, h2⟩
theorem RdL.more (h : RdL B w R A ls) (hB : B ≤ B') : RdL B' w R A ls := by
  obtain ⟨vs, e, h1, h2⟩ := h
  exact ⟨vs, e, h1.more hB, h2⟩
theorem RdL.at_ (h : RdL B w R A ls) {k : Nat} (hk : k < ls.length) : ∃ ad v, A = some ad ∧ ad.block < B ∧ w.cell? (ad.add k) = some v ∧ R v ls[k] := by
  obtain ⟨vs, e, h1, h2⟩ := h
  have hv : vs[k]? = some (vs[k]'(by omega)) := List.getElem?_eq_getElem (by omega)
  obtain ⟨ad, e1, e2, e3⟩ := h1 k _ hv
  exact ⟨ad, _, e1, e2, e3, h2 k _ _ hv (List.getElem?_eq_getElem hk)⟩
theorem RdL.none : RdL B w R A [] := ⟨[], rfl, Rd.none, fun _ _ _ h => by simp at h⟩
end

/-- Rows of bytes. -/
def RdB (B : Nat) (w : World) (A : Option Addr) (ls : List (List UInt8)) : Prop := RdL B w (IsB B w) A ls
section
variable {B B' : Nat} {w w' : World} {A : Option Addr} {ls : List (List UInt8)}
theorem RdB.below (h : RdB B w A ls) (hb : Below B w w') : RdB B w' A ls := (RdL.below h hb).imp fun _ _ _ hh => hh.below hb
theorem RdB.more (h : RdB B w A ls) (hB : B ≤ B') : RdB B' w A ls := (RdL.more h hB).imp fun _ _ _ hh => hh.more hB
theorem RdB.at_ (h : RdB B w A ls) {k : Nat} (hk : k < ls.length) : ∃ ad A' c, A = some ad ∧ ad.block < B ∧ w.cell? (ad.add k) = some (.slice A' ls[k].length c) ∧ ls[k].length ≤ c ∧ c ≤ maxLen ∧ Rd B w A' (bv ls[k]) := by
  obtain ⟨ad, v, e1, e2, e3, A', c, rfl, h1, h2, h3⟩ := RdL.at_ h hk
  exact ⟨ad, A', c, e1, e2, e3, h1, h2, h3⟩
end

/-- A block that was just laid reads as its cells. -/
theorem Rd.lit (w : World) (t : TypeId) (xs : List Value) : Rd (w.heap.size + 1) (w.alloc (.cells xs.toArray t)) (some ⟨w.heap.size, 0, .none⟩) xs := fun k u hu =>
  ⟨_, rfl, Nat.lt_succ_self _, World.news_of_block (cs := xs.toArray) (heap_alloc_new w _) k u (by simpa using hu)⟩
theorem two_le_maxLen : 2 ≤ maxLen := by unfold maxLen; omega
/-- It returns a new row and true. -/
def RetRowT (t : TypeId) (xs : List Value) (w : World) (e : Ending) (w' : World) : Prop :=
  ∃ A n c, e = .returned (.tuple #[.slice A n c, .bool true]) ∧ w'.ownsRow w.heap.size t 1 (.slice A n c) n xs ∧ Below w.heap.size w w'
theorem RetRowT.mk {t : TypeId} {xs : List Value} {w : World} {e : Ending} {w' : World} {A : Option Addr} {n c : Nat} (h : e = .returned (.tuple #[.slice A n c, .bool true]))
    (ho : w'.ownsRow w.heap.size t 1 (.slice A n c) n xs) (hb : Below w.heap.size w w') : RetRowT t xs w e w' := ⟨A, n, c, h, ho, hb⟩
/-- It returns v; what there was is as it was. -/
def RetB (v : Value) (w : World) (e : Ending) (w' : World) : Prop := e = .returned v ∧ Below w.heap.size w w'

theorem own_addr {w : World} {base n c : Nat} {e : TypeId} {A : Option Addr} {xs : List Value} (h : w.ownsRow base e 1 (.slice A n c) n xs) (hn : 0 < n) : ∃ g, A = some ⟨g, 0, none⟩ ∧ base ≤ g ∧ n ≤ c ∧ c ≤ maxLen := by
  rcases h.2 with ⟨_, h0⟩ | ⟨g, cap, _, h0, hb, _, h1, h2, _⟩
  · omega
  · injection h0 with e1 _ e3
    exact ⟨g, e1, hb, by omega, by omega⟩
theorem bv_take (l : List UInt8) (k : Nat) : bv (l.take k) = (bv l).take k := by simp [bv]
theorem bv_drop (l : List UInt8) (k : Nat) : bv (l.drop k) = (bv l).drop k := by simp [bv]
/-- A cut 's[:k]', and 's[k:]' at an address that is written out. -/
theorem Rd.take {B : Nat} {w : World} {A : Option Addr} {l : List UInt8} (h : Rd B w A (bv l)) (k : Nat) : Rd B w A (bv (l.take k)) := fun j u hu => by
  rw [bv_take] at hu
  have hj : j < k := by have := (List.getElem?_eq_some_iff.1 hu).1; simp at this; omega
  rw [List.getElem?_take, if_pos hj] at hu
  exact h j u hu
theorem Rd.drop {B : Nat} {w : World} {a : Addr} {l : List UInt8} (h : Rd B w (some a) (bv l)) (k : Nat) : Rd B w (some (a.add k)) (bv (l.drop k)) := fun j u hu => by
  rw [bv_drop, List.getElem?_drop] at hu
  obtain ⟨ad, e, hb, hc⟩ := h (k + j) u hu
  injection e with e
  subst e
  exact ⟨_, rfl, by rw [add_block]; exact hb, by rw [add_twice]; exact hc⟩
theorem add_head (g k : Nat) : (⟨g, 0, none⟩ : Addr).add k = ⟨g, k, none⟩ := by
  unfold Addr.add; split <;> simp_all

end Go.Proofs.Ytmokigcplgjgiaa
