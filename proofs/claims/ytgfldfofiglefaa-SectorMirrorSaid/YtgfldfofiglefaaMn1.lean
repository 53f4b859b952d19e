/-
  Texts of this seat, one behind the other: MiLaid, MiDuo, MiUno, KdRotP, MiSee, MuSee, MiThere, MiReads, MiEach, MiHas, MiMend, MiReach, MiWrite, MiChoose, MiHeal, MiFlush, MiSync, KdDeed, KdLieP, MiBoth, MiRead, MiRepeat.
-/
import Derived.OrdersHeld
import Derived.Deep.RegionHeld
import Derived.Laws.Bits64b
import Derived.Test.YtgfldfofiglefaaMa3
/-
  Things laid in memory, in blocks of their own; what a call makes of them.
-/
namespace Go.Proofs.Ytgfldfofiglefaa.Mi
open Go.RowKit
/-- States, and how each is laid in the blocks F. -/
structure Laid where
  St : Type
  At : World → St → (Nat → Prop) → Prop
  but : ∀ {w w' : World} {s : St} {F T : Nat → Prop}, At w s F → But T w w' → (∀ q, F q → T q → False) → At w' s F
  lt : ∀ {w : World} {s : St} {F : Nat → Prop}, At w s F → ∀ q, F q → q < w.heap.size
/-- Behind the world w, in which F was all of its blocks, s is laid in F'. -/
structure Mv (L : Laid) (w : World) (F : Nat → Prop) (w' : World) (s : L.St) (F' : Nat → Prop) : Prop where
  at_ : L.At w' s F'
  new : ∀ q, F' q → F q ∨ w.heap.size ≤ q
  but : But F w w'
/-- It returns v; s is laid now. -/
def RetA (L : Laid) (v : Value) (s : L.St) (F : Nat → Prop) (w : World) (e : Ending) (w' : World) : Prop := e = .returned v ∧ ∃ F', Mv L w F w' s F'
section
variable {L : Laid} {w w0 w1 w2 : World} {s s1 s2 : L.St} {F F1 F2 T : Nat → Prop} {v : Value} {e : Ending}
theorem but_step {U : Nat → Prop} (h : But T w w1) (h' : But U w1 w2) (hu : ∀ q, U q → T q ∨ w.heap.size ≤ q) : But T w w2 :=
  ⟨h'.os.trans h.os, h'.tape.trans h.tape, h'.output.trans h.output, Nat.le_trans h.size h'.size, fun k hk hT => (h'.block k (Nat.lt_of_lt_of_le hk h.size) (fun hU => by
    rcases hu k hU with h1 | h1
    · exact hT h1
    · omega)).trans (h.block k hk hT)⟩
theorem but_below (hb : Below w.heap.size w w1) : But T w w1 := But.of_below hb (fun k a b => by omega)
theorem Laid.below (L : Laid) {s : L.St} (h : L.At w s F) (hb : Below w.heap.size w w1) : L.At w1 s F := L.but h (but_below (T := fun _ => False) hb) (fun _ _ h => h)
theorem Mv.start (h : L.At w s F) : Mv L w F w s F := ⟨h, fun _ h => .inl h, But.refl _⟩
theorem Mv.trans (h : Mv L w F w1 s1 F1) (h' : Mv L w1 F1 w2 s2 F2) : Mv L w F w2 s2 F2 :=
  ⟨h'.at_, fun q hq => by
    rcases h'.new q hq with h1 | h1
    · exact h.new q h1
    · exact .inr (Nat.le_trans h.but.size h1), but_step h.but h'.but h.new⟩
theorem Mv.below (h : Mv L w F w1 s F1) (hb : Below w1.heap.size w1 w2) : Mv L w F w2 s F1 := ⟨L.below h.at_ hb, h.new, but_step h.but (but_below (T := fun _ => False) hb) (fun _ h => h.elim)⟩
theorem Mv.own (h : Mv L w F w1 s F1) (hb : But T w1 w2) (ht : ∀ q, T q → w.heap.size ≤ q) (hd : ∀ q, F1 q → T q → False) : Mv L w F w2 s F1 :=
  ⟨L.but h.at_ hb hd, h.new, but_step h.but hb (fun q hq => .inr (ht q hq))⟩
/-- Memory that is none of its blocks changes. -/
theorem Mv.other (h : L.At w s F) (hb : But T w w1) (hd : ∀ q, F q → T q → False) (hT : ∀ q, T q → F q) : Mv L w F w1 s F := ⟨L.but h hb hd, fun _ h => .inl h, hb.mono hT⟩
theorem Mv.ret (h : Mv L w F w1 s F1) : RetA L v s F w (.returned v) w1 := ⟨rfl, F1, h⟩
theorem RetA.step (h : Mv L w F w1 s1 F1) (h' : RetA L v s2 F1 w1 e w2) : RetA L v s2 F w e w2 := by
  obtain ⟨rfl, F', h'⟩ := h'
  exact ⟨rfl, F', h.trans h'⟩
theorem RetB.reta (h : L.At w s F) (hr : RetB v w e w1) : RetA L v s F w e w1 := by
  obtain ⟨rfl, hb⟩ := hr
  exact ⟨rfl, F, (Mv.start h).below hb⟩
theorem Mv.size (h : Mv L w F w1 s F1) : w.heap.size ≤ w1.heap.size := h.but.size
theorem Mv.lt (h : Mv L w F w1 s F1) : ∀ q, F1 q → q < w1.heap.size := L.lt h.at_
/-- A box behind w that is none of its blocks. -/
def Bx (w w1 : World) (F1 : Nat → Prop) (b : Nat) (cs : Array Value) (t : TypeId) : Prop := Blk w1 b cs t ∧ w.heap.size ≤ b ∧ ¬ F1 b
theorem Bx.step {b : Nat} {cs : Array Value} {t : TypeId} (h : Bx w w1 F1 b cs t) (m : Mv L w1 F1 w2 s F2) : Bx w w2 F2 b cs t :=
  ⟨h.1.but m.but h.2.2, h.2.1, fun hf => by
    rcases m.new b hf with h1 | h1
    · exact h.2.2 h1
    · have := h.1.lt; omega⟩
theorem Bx.below {b : Nat} {cs : Array Value} {t : TypeId} (h : Bx w w1 F1 b cs t) (hb : Below w1.heap.size w1 w2) : Bx w w2 F1 b cs t := ⟨h.1.below hb, h.2⟩
theorem Bx.new {b : Nat} {cs : Array Value} {t : TypeId} (m : Mv L w F w1 s F1) (hb : Blk w2 b cs t) (h : w1.heap.size ≤ b) : Bx w w2 F1 b cs t :=
  ⟨hb, Nat.le_trans m.size h, fun hf => by have := m.lt b hf; omega⟩
theorem Bx.ne {b b' : Nat} {cs cs' : Array Value} {t t' : TypeId} (h : Bx w w1 F1 b cs t) (h' : Blk w1 b' cs' t') (ht : t ≠ t') : b ≠ b' := fun e => by
  subst e
  have h1 : w1.heap[b]? = some (.cells cs t (0, 0)) := h.1
  have h2 : w1.heap[b]? = some (.cells cs' t' (0, 0)) := h'
  rw [h1] at h2; injection h2 with h2; injection h2 with _ h2; exact ht h2
/-- What all is new behind w0, and w0's is as it was. -/
structure LiveA (L : Laid) (w0 w : World) (s : L.St) (F : Nat → Prop) : Prop where
  at_ : L.At w s F
  new : ∀ q, F q → w0.heap.size ≤ q
  bel : Below w0.heap.size w0 w
theorem LiveA.step (h : LiveA L w0 w1 s1 F1) (m : Mv L w1 F1 w2 s2 F2) : LiveA L w0 w2 s2 F2 :=
  ⟨m.at_, fun q hq => by
    rcases m.new q hq with h1 | h1
    · exact h.new q h1
    · exact Nat.le_trans h.bel.size h1, h.bel.trans (m.but.below (fun k hk hq => by have := h.new k hq; omega) h.bel.size)⟩
theorem LiveA.below (h : LiveA L w0 w1 s F) (hb : Below w1.heap.size w1 w2) : LiveA L w0 w2 s F := ⟨L.below h.at_ hb, h.new, h.bel.trans (hb.mono h.bel.size)⟩
end
end Go.Proofs.Ytgfldfofiglefaa.Mi
/-
  Two devices, of whatever power: what is asked of them; a function that tells what may stand; the mirror in memory.
-/
namespace Go.Proofs.Ytgfldfofiglefaa.Mi
open Go.RowKit Kd
/-- Two devices: how they are laid, what they read, what a write and a flush make of them. -/
structure Duo where
  L : Laid
  ptr : Nat → Option Addr
  rd : L.St → Nat → Int → Int × List UInt8
  wr : L.St → Nat → Int → List UInt8 → Int × L.St
  fl : L.St → Nat → Int × L.St
  len : L.St → Nat → Nat
  most : L.St → Nat
  len_le : ∀ {w s F i}, L.At w s F → i < 2 → len s i ≤ 4096
  rd_len : ∀ {w s F i n}, L.At w s F → i < 2 → (rd s i n).2.length = 128
  wr_most : ∀ {s i n x}, i < 2 → most (wr s i n x).2 ≤ most s + 1
  fl_most : ∀ {s i}, i < 2 → most (fl s i).2 ≤ most s
  crd : ∀ {w s F i}, L.At w s F → i < 2 → ∀ n, Calls Try.prog 49 #[.pointer (ptr i), .int .i64 n] w (RetB (.tuple #[.agg (bva (rd s i n).2), .int .i64 (rd s i n).1]) w)
  cwr : ∀ {w s F i}, L.At w s F → i < 2 → most s < 1000000 → ∀ n x, x.length = 128 → Calls Try.prog 58 #[.pointer (ptr i), .int .i64 n, .agg (bva x)] w (RetA L (.int .i64 (wr s i n x).1) (wr s i n x).2 F w)
  cfl : ∀ {w s F i}, L.At w s F → i < 2 → Calls Try.prog 60 #[.pointer (ptr i)] w (RetA L (.int .i64 (fl s i).1) (fl s i).2 F w)
  clen : ∀ {w s F i}, L.At w s F → i < 2 → Calls Try.prog 22 #[.pointer (ptr i)] w (RetB (.int .i64 (len s i : Int)) w)
/-- A function that tells what may stand; or none. -/
abbrev Bxs := List (Nat × Array Value × TypeId)
structure Gd where
  k : Option Nat
  c : Array Value := #[]
  l : Bxs := []
  ty : ∀ x ∈ l, x.2.2 ≠ 4 ∧ x.2.2 ≠ 131 := by intro x hx; cases hx
  f : Int → List UInt8 → Bool
  R : Option Addr → Nat → Nat → Option Addr → Nat → Nat → Prop
  none_ : k = none → ∀ n x, f n x = false
  enter : ∀ k', k = some k' → ∀ (args : Array Value) (W : World), (callFunc k' args).run Try.prog W = .ok (.enter k' args) W
  call : ∀ k', k = some k' → ∀ (w : World) (n : Int) (x : List UInt8), (∀ b ∈ l, Blk w b.1 b.2.1 b.2.2) → x.length = 128 → Calls Try.prog k' (#[.int .i64 n, .agg (bva x)] ++ c) w (RetB (.bool (f n x)) w)
def Gd.v (G : Gd) : Value := match G.k with
  | none => .nilFunc
  | some k => .func (.func k) #[] G.c
/-- A mirror: its devices, and of each which places are stale. -/
structure Mr (C : Duo) where
  d : C.L.St
  a : List Bool
  b : List Bool
def bs (l : List Bool) : List Value := l.map .bool
theorem bs_length (l : List Bool) : (bs l).length = l.length := by simp [bs]
/-- A mirror's cells. -/
def mrC (C : Duo) (G : Gd) (A : Option Addr) (n c : Nat) (B : Option Addr) (m e : Nat) : Array Value := #[.pointer (C.ptr 0), .pointer (C.ptr 1), .slice A n c, .slice B m e, G.v]
def mrF (G : Gd) (g : Nat) (A : Option Addr) (n c : Nat) (B : Option Addr) (m e : Nat) (F1 : Nat → Prop) : Nat → Prop := fun q => q = g ∨ (Value.slice A n c).ownBlock = some q ∨ (Value.slice B m e).ownBlock = some q ∨ F1 q ∨ ∃ x ∈ G.l, q = x.1
structure MrR (C : Duo) (G : Gd) (g : Nat) (w : World) (s : Mr C) (A : Option Addr) (n c : Nat) (B : Option Addr) (m e : Nat) (F1 : Nat → Prop) : Prop where
  blk : Blk w g (mrC C G A n c B m e) 131
  a : w.ownsRow 0 4 1 (.slice A n c) n (bs s.a)
  b : w.ownsRow 0 4 1 (.slice B m e) m (bs s.b)
  an : s.a.length = n
  bn : s.b.length = m
  d : C.L.At w s.d F1
  ag : ¬ F1 g
  aa : ∀ q, (Value.slice A n c).ownBlock = some q → ¬ F1 q
  ab : ∀ q, (Value.slice B m e).ownBlock = some q → ¬ F1 q
  apart : ∀ q, (Value.slice A n c).ownBlock = some q → (Value.slice B m e).ownBlock = some q → False
  pin : G.R A n c B m e
  gb : ∀ x ∈ G.l, Blk w x.1 x.2.1 x.2.2 ∧ ¬ F1 x.1
section
variable {C : Duo} {G : Gd} {g : Nat} {w w' : World} {s : Mr C} {A B : Option Addr} {n c m e : Nat} {F1 F T : Nat → Prop}
theorem MrR.but (h : MrR C G g w s A n c B m e F1) (hb : But T w w') (hd : ∀ q, mrF G g A n c B m e F1 q → T q → False) : MrR C G g w' s A n c B m e F1 :=
  ⟨h.blk.but hb (hd g (.inl rfl)), Own.but h.a hb (fun q hq => hd q (.inr (.inl hq))), Own.but h.b hb (fun q hq => hd q (.inr (.inr (.inl hq)))), h.an, h.bn, C.L.but h.d hb (fun q hq => hd q (.inr (.inr (.inr (.inl hq))))), h.ag, h.aa, h.ab, h.apart, h.pin, fun x hx => ⟨(h.gb x hx).1.but hb (hd _ (.inr (.inr (.inr (.inr ⟨x, hx, rfl⟩))))), (h.gb x hx).2⟩⟩
/-- A box of the function is no block of another kind. -/
theorem MrR.box_ne (h : MrR C G g w s A n c B m e F1) {x : Nat × Array Value × TypeId} (hx : x ∈ G.l) {q : Nat} {cs : Array Value} {t : TypeId} {z : Nat × Nat} (hq : w.heap[q]? = some (.cells cs t z)) (ht : t = 4 ∨ t = 131) : x.1 ≠ q := by
  rintro rfl
  have hb : w.heap[x.1]? = some (.cells x.2.1 x.2.2 (0, 0)) := (h.gb x hx).1
  rw [hb] at hq; injection hq with hq; injection hq with _ hq
  rcases ht with rfl | rfl
  · exact (G.ty x hx).1 hq
  · exact (G.ty x hx).2 hq
theorem MrR.lt (h : MrR C G g w s A n c B m e F1) : ∀ q, mrF G g A n c B m e F1 q → q < w.heap.size := by
  rintro q (rfl | hq | hq | hq | ⟨x, hx, rfl⟩)
  · exact h.blk.lt
  · exact (h.a.lt q hq).2
  · exact (h.b.lt q hq).2
  · exact C.L.lt h.d q hq
  · exact (h.gb x hx).1.lt
theorem own_cap {k N j size : Nat} {D : Option Addr} {xs : List Value} {ty : TypeId} (ho : w.ownsRow k ty size (.slice D N j) N xs) : N ≤ j ∧ j ≤ maxLen := by
  rcases ho.2 with ⟨h0, h1⟩ | ⟨_, cap, _, h0, _, _, h1, h2, _⟩
  · injection h0 with _ _ h0
    rw [h0, h1]; unfold maxLen; omega
  · injection h0 with _ _ h0
    omega
theorem row_type {k e size : Nat} {v : Value} {xs : List Value} {ty : TypeId} (ho : w.ownsRow k ty size v e xs) : ∀ q, v.ownBlock = some q → ∃ cs, w.heap[q]? = some (.cells cs ty (0, 0)) := fun q hq => by
  rcases ho.2 with ⟨rfl, _⟩ | ⟨g', cap, cur, rfl, _, h2, _⟩
  · cases hq
  · injection hq with hq; subst hq; exact ⟨_, h2⟩
theorem MrR.rows (h : MrR C G g w s A n c B m e F1) : (∀ q, (Value.slice A n c).ownBlock = some q → q ≠ g) ∧ (∀ q, (Value.slice B m e).ownBlock = some q → q ≠ g) := by
  have hg : w.heap[g]? = some (.cells _ 131 (0, 0)) := h.blk
  refine ⟨fun q hq => ?_, fun q hq => ?_⟩
  · obtain ⟨cs, hc⟩ := row_type h.a q hq
    rintro rfl
    rw [hc] at hg; injection hg with hg; injection hg with _ hg; exact absurd hg (by decide)
  · obtain ⟨cs, hc⟩ := row_type h.b q hq
    rintro rfl
    rw [hc] at hg; injection hg with hg; injection hg with _ hg; exact absurd hg (by decide)
end
/-- A mirror as it is laid. -/
def ML (C : Duo) (G : Gd) (g : Nat) : Laid where
  St := Mr C
  At w s F := ∃ A n c B m e F1, MrR C G g w s A n c B m e F1 ∧ (∀ q, mrF G g A n c B m e F1 q → F q) ∧ ∀ q, F q → q < w.heap.size
  but := fun ⟨A, n, c, B, m, e, F1, h, h1, h2⟩ hb hd => ⟨A, n, c, B, m, e, F1, h.but hb (fun q hq => hd q (h1 q hq)), h1, fun q hq => Nat.lt_of_lt_of_le (h2 q hq) hb.size⟩
  lt := fun ⟨_, _, _, _, _, _, _, _, _, h2⟩ => h2
section
variable {C : Duo} {G : Gd} {g : Nat} {w w1 w' : World} {s : Mr C} {A B : Option Addr} {n c m e : Nat} {F1 F2 F T : Nat → Prop} {s2 : C.L.St} {v : Value} {x : Ending}
/-- What is done to the devices alone. -/
theorem MrR.dev (h : MrR C G g w s A n c B m e F1) (h1 : ∀ q, mrF G g A n c B m e F1 q → F q) (h2 : ∀ q, F q → q < w.heap.size) (hm : Mv C.L w F1 w' s2 F2) : Mv (ML C G g) w F w' ⟨s2, s.a, s.b⟩ (fun q => F q ∨ F2 q) := by
  have hlt := h.lt
  refine ⟨⟨A, n, c, B, m, e, F2, ⟨h.blk.but hm.but h.ag, Own.but h.a hm.but h.aa, Own.but h.b hm.but h.ab, h.an, h.bn, hm.at_, ?_, ?_, ?_, h.apart, h.pin, fun x hx => ⟨(h.gb x hx).1.but hm.but (h.gb x hx).2, fun hf => ?_⟩⟩, ?_, ?_⟩, ?_, hm.but.mono (fun q hq => h1 q (.inr (.inr (.inr (.inl hq)))))⟩
  · intro hf
    rcases hm.new g hf with h3 | h3
    · exact h.ag h3
    · have := hlt g (.inl rfl); omega
  · intro q hq hf
    rcases hm.new q hf with h3 | h3
    · exact h.aa q hq h3
    · have := hlt q (.inr (.inl hq)); omega
  · intro q hq hf
    rcases hm.new q hf with h3 | h3
    · exact h.ab q hq h3
    · have := hlt q (.inr (.inr (.inl hq))); omega
  · rcases hm.new x.1 hf with h3 | h3
    · exact (h.gb x hx).2 h3
    · have := (h.gb x hx).1.lt; omega
  · rintro q (hq | hq | hq | hq | hq)
    · exact .inl (h1 q (.inl hq))
    · exact .inl (h1 q (.inr (.inl hq)))
    · exact .inl (h1 q (.inr (.inr (.inl hq))))
    · exact .inr hq
    · exact .inl (h1 q (.inr (.inr (.inr (.inr hq)))))
  · rintro q (hq | hq)
    · exact Nat.lt_of_lt_of_le (h2 q hq) hm.but.size
    · exact C.L.lt hm.at_ q hq
  · rintro q (hq | hq)
    · exact .inl hq
    · rcases hm.new q hq with h3 | h3
      · exact .inl (h1 q (.inr (.inr (.inr (.inl h3)))))
      · exact .inr h3
/-- A call that is the devices' own. -/
theorem ml_dev (h : (ML C G g).At w s F) : ∃ F1, C.L.At w s.d F1 ∧ ∀ {w' v s2 e}, RetA C.L v s2 F1 w e w' → RetA (ML C G g) v ⟨s2, s.a, s.b⟩ F w e w' := by
  obtain ⟨A, n, c, B, m, e, F1, h, h1, h2⟩ := h
  refine ⟨F1, h.d, ?_⟩
  rintro w' v s2 e ⟨rfl, F', hm⟩
  exact ⟨rfl, _, h.dev h1 h2 hm⟩
/-- The same function, and known rows of what is stale. -/
def Gd.at (G : Gd) (A : Option Addr) (n c : Nat) (B : Option Addr) (m e : Nat) : Gd := { G with R := fun A' n' c' B' m' e' => A' = A ∧ n' = n ∧ c' = c ∧ B' = B ∧ m' = m ∧ e' = e }
theorem ml_pin (h : (ML C G g).At w s F) : ∃ A n c B m e, G.R A n c B m e ∧ (ML C (G.at A n c B m e) g).At w s F := by
  obtain ⟨A, n, c, B, m, e, F1, h, h1, h2⟩ := h
  exact ⟨A, n, c, B, m, e, h.pin, A, n, c, B, m, e, F1, ⟨h.blk, h.a, h.b, h.an, h.bn, h.d, h.ag, h.aa, h.ab, h.apart, ⟨rfl, rfl, rfl, rfl, rfl, rfl⟩, h.gb⟩, h1, h2⟩
theorem ml_unpin (hR : G.R A n c B m e) (h : (ML C (G.at A n c B m e) g).At w s F) : (ML C G g).At w s F := by
  obtain ⟨A', n', c', B', m', e', F1, h, h1, h2⟩ := h
  obtain ⟨rfl, rfl, rfl, rfl, rfl, rfl⟩ := h.pin
  exact ⟨_, _, _, _, _, _, F1, ⟨h.blk, h.a, h.b, h.an, h.bn, h.d, h.ag, h.aa, h.ab, h.apart, hR, h.gb⟩, h1, h2⟩
theorem mv_unpin (hR : G.R A n c B m e) (h : Mv (ML C (G.at A n c B m e) g) w F w' s T) : Mv (ML C G g) w F w' s T := ⟨ml_unpin hR h.at_, h.new, h.but⟩
end
end Go.Proofs.Ytgfldfofiglefaa.Mi
/-
  One device, of a power of its own, or none; two of them beside each other; two of one power.
-/
namespace Go.Proofs.Ytgfldfofiglefaa.Mi
open Go.RowKit Kd
/-- One device. -/
structure Uno where
  L : Laid
  ptr : Option Addr
  rd : L.St → Int → Int × List UInt8
  wr : L.St → Int → List UInt8 → Int × L.St
  fl : L.St → Int × L.St
  len : L.St → Nat
  most : L.St → Nat
  len_le : ∀ {w s F}, L.At w s F → len s ≤ 4096
  rd_len : ∀ {w s F n}, L.At w s F → (rd s n).2.length = 128
  wr_most : ∀ {s n x}, most (wr s n x).2 ≤ most s + 1
  fl_most : ∀ {s}, most (fl s).2 ≤ most s
  crd : ∀ {w s F}, L.At w s F → ∀ n, Calls Try.prog 49 #[.pointer ptr, .int .i64 n] w (RetB (.tuple #[.agg (bva (rd s n).2), .int .i64 (rd s n).1]) w)
  cwr : ∀ {w s F}, L.At w s F → most s < 1000000 → ∀ n x, x.length = 128 → Calls Try.prog 58 #[.pointer ptr, .int .i64 n, .agg (bva x)] w (RetA L (.int .i64 (wr s n x).1) (wr s n x).2 F w)
  cfl : ∀ {w s F}, L.At w s F → Calls Try.prog 60 #[.pointer ptr] w (RetA L (.int .i64 (fl s).1) (fl s).2 F w)
  clen : ∀ {w s F}, L.At w s F → Calls Try.prog 22 #[.pointer ptr] w (RetB (.int .i64 (len s : Int)) w)
/-! ### How many wait -/
theorem count_wtM (S : Sy) (j : Nat) : (S.count.at j).wt.length ≤ (S.at j).wt.length := by
  unfold Sy.count
  split
  · show ((S.ds.map Dv.fall).getD j noDv).wt.length ≤ (S.ds.getD j noDv).wt.length
    rw [List.getD_eq_getElem?_getD, List.getD_eq_getElem?_getD, List.getElem?_map]
    cases h : S.ds[j]? with
    | none => exact Nat.le_refl _
    | some d =>
      show d.fall.wt.length ≤ d.wt.length
      unfold Dv.fall; split
      · exact Nat.le_refl _
      · exact Nat.zero_le _
  · exact Nat.le_refl _
theorem put_wtM (S : Sy) (k : Nat) (d : Dv) (j : Nat) : ((S.put k d).at j).wt.length ≤ max d.wt.length (S.at j).wt.length := by
  show ((S.ds.set k d).getD j noDv).wt.length ≤ max _ (S.ds.getD j noDv).wt.length
  rw [List.getD_eq_getElem?_getD, List.getD_eq_getElem?_getD, List.getElem?_set]
  split
  · split
    · exact Nat.le_max_left _ _
    · rename_i h1 h2
      subst h1
      rw [List.getElem?_eq_none (by omega)]; exact Nat.zero_le _
  · exact Nat.le_max_right _ _
theorem write_wtM (S : Sy) (k : Nat) (n : Int) (x : List UInt8) (m : Nat) (h : ∀ j, (S.at j).wt.length ≤ m) (j : Nat) : ((S.write k n x).2.at j).wt.length ≤ m + 1 := by
  unfold Sy.write; dsimp only; split
  · exact Nat.le_succ_of_le (h j)
  · refine Nat.le_trans (count_wtM _ j) (Nat.le_trans (put_wtM _ _ _ j) (Nat.max_le.2 ⟨?_, Nat.le_succ_of_le (h j)⟩))
    show ((S.at k).wt ++ _).length ≤ _
    rw [List.length_append]; have := h k; simp; omega
theorem flush_wtM (S : Sy) (k : Nat) (m : Nat) (h : ∀ j, (S.at j).wt.length ≤ m) (j : Nat) : ((S.flush k).2.at j).wt.length ≤ m := by
  unfold Sy.flush; dsimp only; split
  · exact h j
  · split
    · exact Nat.le_trans (count_wtM _ j) (h j)
    · split
      · exact Nat.le_trans (count_wtM _ j) (h j)
      · exact Nat.le_trans (put_wtM _ _ _ j) (Nat.max_le.2 ⟨Nat.zero_le _, Nat.le_trans (count_wtM _ j) (h j)⟩)
theorem write_dsM (S : Sy) (k : Nat) (n : Int) (x : List UInt8) : (S.write k n x).2.ds.length = S.ds.length := by
  unfold Sy.write; dsimp only; split
  · rfl
  · rw [count_length, len_put]
theorem flush_dsM (S : Sy) (k : Nat) : (S.flush k).2.ds.length = S.ds.length := by
  unfold Sy.flush; dsimp only; split
  · rfl
  · split
    · exact count_length S
    · split
      · exact count_length S
      · rw [len_put, count_length]
theorem at_far {S : Sy} {j : Nat} (h : S.ds.length ≤ j) : S.at j = noDv := by
  show S.ds.getD j noDv = noDv
  rw [List.getD_eq_getElem?_getD, List.getElem?_eq_none h]; rfl
/-! ### The devices of one power -/
/-- k devices of one power, as they are laid. -/
def SysL (p : Nat) (gs : List Nat) (k : Nat) : Laid where
  St := Sy
  At w S F := Kd.Sys w p gs S F ∧ S.ds.length = k
  but h hb hd := ⟨h.1.but hb hd, h.2⟩
  lt h := h.1.lt
theorem RetS.reta {p k : Nat} {gs : List Nat} {S : Sy} {F : Nat → Prop} {w w' : World} {v : Value} {e : Ending} (hk : S.ds.length = k) (h : RetS v p gs S F w e w') : RetA (SysL p gs k) v S F w e w' := by
  obtain ⟨rfl, F', h1, h2, h3⟩ := h
  exact ⟨rfl, F', ⟨h1, hk⟩, h2, h3⟩
theorem sys_okM {w : World} {p : Nat} {gs : List Nat} {S : Sy} {F : Nat → Prop} (h : Kd.Sys w p gs S F) {k : Nat} (hk : k < S.ds.length) : (S.at k).ok := by
  obtain ⟨bs, Fs, FA, fc, lf, h, _, _⟩ := h
  obtain ⟨A, n, c, W, m, e, M, D, hd, _⟩ := h.dev k hk
  exact hd.ok
theorem few_one {S : Sy} {m : Nat} (h1 : S.ds.length = 1) (h : (S.at 0).wt.length ≤ m) (j : Nat) : (S.at j).wt.length ≤ m := by
  rcases j with _ | j
  · exact h
  · rw [at_far (by omega)]; exact Nat.zero_le _
def mostS (S : Sy) : Nat := if S.ds.length = 1 then (S.at 0).wt.length else 0
theorem mostS_write (S : Sy) (n : Int) (x : List UInt8) : mostS (S.write 0 n x).2 ≤ mostS S + 1 := by
  unfold mostS
  rw [write_dsM]
  split
  · rename_i h1
    exact write_wtM S 0 n x _ (few_one h1 (Nat.le_refl _)) 0
  · exact Nat.zero_le _
theorem mostS_flush (S : Sy) : mostS (S.flush 0).2 ≤ mostS S := by
  unfold mostS
  rw [flush_dsM]
  split
  · rename_i h1
    exact flush_wtM S 0 _ (few_one h1 (Nat.le_refl _)) 0
  · exact Nat.le_refl _
/-- A device of a power of its own. -/
def uno (p g : Nat) : Uno where
  L := SysL p [g] 1
  ptr := some ⟨g, 0, none⟩
  rd S n := (refuseN S.p (S.at 0) n, readS S.p (S.at 0) n)
  wr S n x := S.write 0 n x
  fl S := S.flush 0
  len S := (S.at 0).st.length
  most S := mostS S
  len_le h := (sys_okM h.1 (k := 0) (by rw [h.2]; omega)).len
  rd_len h := readS_length (sys_okM h.1 (k := 0) (by rw [h.2]; omega)) _
  wr_most {S n x} := mostS_write S n x
  fl_most {S} := mostS_flush S
  crd h n := dread_any h.1 0 (by rw [h.2]; omega) n
  cwr {w S F} h hm n x hx := (write_any h.1 0 (by rw [h.2]; omega) n x hx (by have h1 : mostS S = (Sy.at S 0).wt.length := if_pos h.2
                                                                              rw [← h1]; exact hm)).mono fun _ _ hr => RetS.reta ((write_dsM S 0 n x).trans h.2) hr
  cfl {w S F} h := (flush_any h.1 0 (by rw [h.2]; omega)).mono fun _ _ hr => RetS.reta ((flush_dsM S 0).trans h.2) hr
  clen h := (len_sys h.1 0 (by rw [h.2]; omega)).mono fun _ _ hr => by
    obtain ⟨rfl, rfl⟩ := hr
    exact ⟨rfl, Below.refl _ _⟩
/-- A device that isn't there at all. -/
def unoNil : Uno where
  L := { St := Unit, At := fun w _ F => ∀ q, F q → q < w.heap.size, but := fun h hb _ q hq => Nat.lt_of_lt_of_le (h q hq) hb.size, lt := fun h => h }
  ptr := none
  rd _ _ := (1, zeroS)
  wr s _ _ := (1, s)
  fl s := (1, s)
  len _ := 0
  most _ := 0
  len_le _ := Nat.zero_le _
  rd_len _ := zeroS_length
  wr_most := Nat.zero_le _
  fl_most := Nat.le_refl _
  crd {w s F} _ n := dread_nil w n
  cwr {w s F} h _ n x _ := (dwrite_nil w n x).mono fun _ _ hr => RetB.reta h hr
  cfl {w s F} h := (dflush_nil w).mono fun _ _ hr => RetB.reta h (by obtain ⟨rfl, rfl⟩ := hr; exact ⟨rfl, Below.refl _ _⟩)
  clen _ := len_nil.mono fun _ _ hr => by
    obtain ⟨rfl, rfl⟩ := hr
    exact ⟨rfl, Below.refl _ _⟩
/-! ### Two beside each other -/
def pairL (A B : Laid) : Laid where
  St := A.St × B.St
  At w s F := ∃ F1 F2, A.At w s.1 F1 ∧ B.At w s.2 F2 ∧ (∀ q, F1 q → F2 q → False) ∧ (∀ q, F1 q → F q) ∧ (∀ q, F2 q → F q) ∧ ∀ q, F q → q < w.heap.size
  but := fun ⟨F1, F2, h1, h2, h3, h4, h5, h6⟩ hb hd => ⟨F1, F2, A.but h1 hb (fun q hq => hd q (h4 q hq)), B.but h2 hb (fun q hq => hd q (h5 q hq)), h3, h4, h5, fun q hq => Nat.lt_of_lt_of_le (h6 q hq) hb.size⟩
  lt := fun ⟨_, _, _, _, _, _, _, h6⟩ => h6
section
variable {A B : Laid} {w w' : World} {s : A.St × B.St} {F : Nat → Prop}
theorem pair_fst (h : (pairL A B).At w s F) : ∃ F1, A.At w s.1 F1 ∧ ∀ {v : Value} {a : A.St} {e w'}, RetA A v a F1 w e w' → RetA (pairL A B) v (a, s.2) F w e w' := by
  obtain ⟨F1, F2, h1, h2, h3, h4, h5, h6⟩ := h
  refine ⟨F1, h1, ?_⟩
  rintro v a e w' ⟨rfl, F', hm⟩
  refine ⟨rfl, fun q => F q ∨ F' q, ⟨F', F2, hm.at_, B.but h2 hm.but (fun q a b => h3 q b a), ?_, fun q hq => .inr hq, fun q hq => .inl (h5 q hq), ?_⟩, ?_, hm.but.mono h4⟩
  · intro q a b
    rcases hm.new q a with h7 | h7
    · exact h3 q h7 b
    · have := B.lt h2 q b; omega
  · rintro q (hq | hq)
    · exact Nat.lt_of_lt_of_le (h6 q hq) hm.but.size
    · exact hm.lt q hq
  · rintro q (hq | hq)
    · exact .inl hq
    · exact (hm.new q hq).imp (h4 q) id
theorem pair_snd (h : (pairL A B).At w s F) : ∃ F2, B.At w s.2 F2 ∧ ∀ {v : Value} {b : B.St} {e w'}, RetA B v b F2 w e w' → RetA (pairL A B) v (s.1, b) F w e w' := by
  obtain ⟨F1, F2, h1, h2, h3, h4, h5, h6⟩ := h
  refine ⟨F2, h2, ?_⟩
  rintro v b e w' ⟨rfl, F', hm⟩
  refine ⟨rfl, fun q => F q ∨ F' q, ⟨F1, F', A.but h1 hm.but (fun q a b => h3 q a b), hm.at_, ?_, fun q hq => .inl (h4 q hq), fun q hq => .inr hq, ?_⟩, ?_, hm.but.mono h5⟩
  · intro q a b
    rcases hm.new q b with h7 | h7
    · exact h3 q a h7
    · have := A.lt h1 q a; omega
  · rintro q (hq | hq)
    · exact Nat.lt_of_lt_of_le (h6 q hq) hm.but.size
    · exact hm.lt q hq
  · rintro q (hq | hq)
    · exact .inl hq
    · exact (hm.new q hq).imp (h5 q) id
end
def duo (U V : Uno) : Duo where
  L := pairL U.L V.L
  ptr i := if i = 0 then U.ptr else V.ptr
  rd s i n := if i = 0 then U.rd s.1 n else V.rd s.2 n
  wr s i n x := if i = 0 then ((U.wr s.1 n x).1, ((U.wr s.1 n x).2, s.2)) else ((V.wr s.2 n x).1, (s.1, (V.wr s.2 n x).2))
  fl s i := if i = 0 then ((U.fl s.1).1, ((U.fl s.1).2, s.2)) else ((V.fl s.2).1, (s.1, (V.fl s.2).2))
  len s i := if i = 0 then U.len s.1 else V.len s.2
  most s := max (U.most s.1) (V.most s.2)
  len_le {w s F i} h hi := by
    obtain ⟨F1, F2, h1, h2, _⟩ := h
    rcases (show i = 0 ∨ i = 1 by omega) with rfl | rfl
    · exact U.len_le h1
    · exact V.len_le h2
  rd_len {w s F i n} h hi := by
    obtain ⟨F1, F2, h1, h2, _⟩ := h
    rcases (show i = 0 ∨ i = 1 by omega) with rfl | rfl
    · exact U.rd_len h1
    · exact V.rd_len h2
  wr_most {s i n x} hi := by
    have h1 := U.wr_most (s := s.1) (n := n) (x := x)
    have h2 := V.wr_most (s := s.2) (n := n) (x := x)
    rcases (show i = 0 ∨ i = 1 by omega) with rfl | rfl
    · show max (U.most (U.wr s.1 n x).2) (V.most s.2) ≤ max (U.most s.1) (V.most s.2) + 1; omega
    · show max (U.most s.1) (V.most (V.wr s.2 n x).2) ≤ max (U.most s.1) (V.most s.2) + 1; omega
  fl_most {s i} hi := by
    have h1 := U.fl_most (s := s.1)
    have h2 := V.fl_most (s := s.2)
    rcases (show i = 0 ∨ i = 1 by omega) with rfl | rfl
    · show max (U.most (U.fl s.1).2) (V.most s.2) ≤ max (U.most s.1) (V.most s.2); omega
    · show max (U.most s.1) (V.most (V.fl s.2).2) ≤ max (U.most s.1) (V.most s.2); omega
  crd {w s F i} h hi n := by
    obtain ⟨F1, F2, h1, h2, _⟩ := h
    rcases (show i = 0 ∨ i = 1 by omega) with rfl | rfl
    · exact U.crd h1 n
    · exact V.crd h2 n
  cwr {w s F i} h hi hm n x hx := by
    rcases (show i = 0 ∨ i = 1 by omega) with rfl | rfl
    · obtain ⟨F1, h1, hl⟩ := pair_fst h
      exact (U.cwr h1 (Nat.lt_of_le_of_lt (Nat.le_max_left _ _) hm) n x hx).mono fun _ _ hr => hl hr
    · obtain ⟨F1, h1, hl⟩ := pair_snd h
      exact (V.cwr h1 (Nat.lt_of_le_of_lt (Nat.le_max_right _ _) hm) n x hx).mono fun _ _ hr => hl hr
  cfl {w s F i} h hi := by
    rcases (show i = 0 ∨ i = 1 by omega) with rfl | rfl
    · obtain ⟨F1, h1, hl⟩ := pair_fst h
      exact (U.cfl h1).mono fun _ _ hr => hl hr
    · obtain ⟨F1, h1, hl⟩ := pair_snd h
      exact (V.cfl h1).mono fun _ _ hr => hl hr
  clen {w s F i} h hi := by
    obtain ⟨F1, F2, h1, h2, _⟩ := h
    rcases (show i = 0 ∨ i = 1 by omega) with rfl | rfl
    · exact U.clen h1
    · exact V.clen h2
end Go.Proofs.Ytgfldfofiglefaa.Mi
/-
  A byte that rots, twice. No program.
-/
namespace Go.Proofs.Ytgfldfofiglefaa.Kd
theorem rotS_get {s : List UInt8} {a j : Nat} {x : UInt8} (hj : j < s.length) : (rotS s a x).getD j 0 = if j = a then s.getD j 0 ^^^ x else s.getD j 0 := by
  unfold rotS
  rw [List.getD_eq_getElem?_getD, List.getElem?_set]
  by_cases h : a = j
  · subst h; rw [if_pos rfl, if_pos hj, if_pos rfl]; rfl
  · rw [if_neg h, if_neg (fun e => h e.symm), List.getD_eq_getElem?_getD]
theorem rotL_get {st : List (List UInt8)} {n a i : Nat} {x : UInt8} (hi : i < st.length) : (rotL st n a x).getD i zeroS = if i = n then rotS (st.getD i zeroS) a x else st.getD i zeroS := by
  unfold rotL
  rw [List.getD_eq_getElem?_getD, List.getElem?_set]
  by_cases h : n = i
  · subst h; rw [if_pos rfl, if_pos hi, if_pos rfl]; rfl
  · rw [if_neg h, if_neg (fun e => h e.symm), List.getD_eq_getElem?_getD]
theorem rotS_back (s : List UInt8) (a : Nat) (x : UInt8) (ha : a < s.length) : rotS (rotS s a x) a x = s := by
  unfold rotS
  rw [List.set_set]
  have h1 : (s.set a (s.getD a 0 ^^^ x)).getD a 0 = s.getD a 0 ^^^ x := by
    rw [List.getD_eq_getElem?_getD, List.getElem?_set, if_pos rfl, if_pos ha]; rfl
  rw [h1, UInt8.xor_assoc, UInt8.xor_self, UInt8.xor_zero, List.getD_eq_getElem?_getD, List.getElem?_eq_getElem ha]
  exact List.set_getElem_self ..
theorem rotL_back (st : List (List UInt8)) (n a : Nat) (x : UInt8) (hn : n < st.length) (ha : a < (st.getD n zeroS).length) : rotL (rotL st n a x) n a x = st := by
  have h1 : (rotL st n a x).getD n zeroS = rotS (st.getD n zeroS) a x := by rw [rotL_get hn, if_pos rfl]
  rw [rotL, h1, rotS_back _ _ _ ha]
  unfold rotL
  rw [List.set_set, List.getD_eq_getElem?_getD, List.getElem?_eq_getElem hn]
  exact List.set_getElem_self ..
variable {S : Sy} {k : Nat} {i a : Int} {x : UInt8}
theorem rot_p : (S.rot k i a x).p = S.p := by unfold Sy.rot; split <;> rfl
theorem rot_len : (S.rot k i a x).ds.length = S.ds.length := by unfold Sy.rot; split; exact len_put _; rfl
/-- What is stable behind it. -/
theorem rot_at (hk : k < S.ds.length) : ((S.rot k i a x).at k).st = if hasByte (S.at k).st.length i a then rotL (S.at k).st i.toNat a.toNat x else (S.at k).st := by
  unfold Sy.rot
  split
  · rw [at_put _ hk, if_pos rfl]; rfl
  · rfl
theorem rot_at_len (hk : k < S.ds.length) : ((S.rot k i a x).at k).st.length = (S.at k).st.length := by
  rw [rot_at hk]; split
  · exact rotL_length
  · rfl
theorem hasByte_iff {n : Nat} {i a : Int} : hasByte n i a = true ↔ 0 ≤ i ∧ i < (n : Int) ∧ 0 ≤ a ∧ a < 128 := by
  unfold hasByte; simp only [Bool.and_eq_true, decide_eq_true_eq, and_assoc]
/-- Twice: as it was. -/
theorem rot_twice (hk : k < S.ds.length) (h3 : ∀ s ∈ (S.at k).st, s.length = 128) : (((S.rot k i a x).rot k i a x).at k).st = (S.at k).st := by
  rw [rot_at (by rw [rot_len]; exact hk), rot_at_len hk, rot_at hk]
  by_cases h : hasByte (S.at k).st.length i a = true
  · rw [if_pos h, if_pos h]
    have := hasByte_iff.1 h
    exact rotL_back _ _ _ _ (by omega) (by rw [getD_ok h3]; omega)
  · rw [if_neg h, if_neg h]
/-- What stands at a place behind it. -/
theorem rot_byte (hk : k < S.ds.length) (h3 : ∀ s ∈ (S.at k).st, s.length = 128) {u v : Nat} (hu : u < (S.at k).st.length) (hv : v < 128) :
    ((((S.rot k i a x).at k).st.getD u zeroS).getD v 0) = if hasByte (S.at k).st.length i a = true ∧ (u : Int) = i ∧ (v : Int) = a then ((S.at k).st.getD u zeroS).getD v 0 ^^^ x else ((S.at k).st.getD u zeroS).getD v 0 := by
  rw [rot_at hk]
  by_cases h : hasByte (S.at k).st.length i a = true
  · have hb := hasByte_iff.1 h
    rw [if_pos h, rotL_get hu]
    by_cases h1 : u = i.toNat
    · rw [if_pos h1, rotS_get (by rw [getD_ok h3]; exact hv)]
      by_cases h2 : v = a.toNat
      · rw [if_pos h2, if_pos ⟨h, by omega, by omega⟩]
      · rw [if_neg h2, if_neg (fun e => h2 (by omega))]
    · rw [if_neg h1, if_neg (fun e => h1 (by omega))]
  · rw [if_neg h, if_neg (fun e => h e.1)]
end Go.Proofs.Ytgfldfofiglefaa.Kd
/-
  What is seen of a device whose power never fails: its sectors as they are read, and whether it is out. No program.
-/
namespace Go.Proofs.Ytgfldfofiglefaa.Mi
open Kd
theorem count_plain {S : Sy} (h : S.p = ⟨false, -1⟩) : S.count = S := by
  obtain ⟨P, ds⟩ := S
  replace h : P = ⟨false, -1⟩ := h
  subst h; rfl
/-- A device's sectors, as it reads them, whether it is out, and at most how many writes wait. -/
structure See (S : Sy) (L : List (List UInt8)) (g : Bool) (m : Nat) : Prop where
  ds : S.ds.length = 1
  p : S.p = ⟨false, -1⟩
  len : (S.at 0).st.length = L.length
  now : ∀ k, k < L.length → (S.at 0).now k = L.getD k zeroS
  gone : (S.at 0).gone = g
  lies : (S.at 0).lies = false
  few : (S.at 0).wt.length ≤ m
section
variable {S : Sy} {L : List (List UInt8)} {g : Bool} {m : Nat}
theorem See.more (h : See S L g m) {m' : Nat} (hm : m ≤ m') : See S L g m' := ⟨h.ds, h.p, h.len, h.now, h.gone, h.lies, Nat.le_trans h.few hm⟩
theorem see_new (n : Nat) (hn : n ≤ 4096) : See (S0.new (n : Int)) (List.replicate n zeroS) false 0 := by
  have hc : clampN (n : Int) = n := by unfold clampN; omega
  have h1 : (S0.new (n : Int)).at 0 = newDv n := by rw [Sy.new, hc]; rfl
  refine ⟨rfl, rfl, by rw [h1, List.length_replicate]; exact List.length_replicate, fun k hk => ?_, by rw [h1]; rfl, by rw [h1]; rfl, by rw [h1]; exact Nat.le_refl _⟩
  rw [h1]; rfl
theorem See.refuse (h : See S L g m) (n : Int) : refuseN S.p (S.at 0) n = if g then 13 else if n < 0 ∨ (L.length : Int) ≤ n then 2 else 0 := by
  rw [refuseN, h.p, h.gone, h.len]; rfl
theorem See.read (h : See S L g m) (n : Int) : readS S.p (S.at 0) n = if (g = false ∧ 0 ≤ n ∧ n < (L.length : Int)) then L.getD n.toNat zeroS else zeroS := by
  rw [readS, h.refuse]
  cases g with
  | true => simp
  | false =>
    by_cases hc : n < 0 ∨ (L.length : Int) ≤ n
    · rw [if_neg (show ¬ ((if false = true then (13 : Int) else if n < 0 ∨ (L.length : Int) ≤ n then 2 else 0) = 0) by rw [if_neg (by simp), if_pos hc]; omega), if_neg (fun h => by omega)]
    · rw [if_pos (show (if false = true then (13 : Int) else if n < 0 ∨ (L.length : Int) ≤ n then 2 else 0) = 0 by rw [if_neg (by simp), if_neg hc]), if_pos ⟨rfl, by omega, by omega⟩]
      exact h.now _ (by omega)
theorem See.write_no (h : See S L g m) {n : Int} {x : List UInt8} (hn : ¬ (g = false ∧ 0 ≤ n ∧ n < (L.length : Int))) : S.write 0 n x = (if g then 13 else 2, S) := by
  have hr : refuseN S.p (S.at 0) n = if g then 13 else 2 := by
    rw [h.refuse]
    cases g with
    | true => rfl
    | false =>
      have hc : n < 0 ∨ (L.length : Int) ≤ n := by
        by_cases h1 : n < 0
        · exact .inl h1
        · by_cases h2 : n < (L.length : Int)
          · exact absurd ⟨rfl, by omega, h2⟩ hn
          · exact .inr (by omega)
      show (if false = true then (13 : Int) else if n < 0 ∨ (L.length : Int) ≤ n then 2 else 0) = 2
      rw [if_neg (by simp), if_pos hc]
  rw [Kd.write_no (by rw [hr]; cases g <;> simp), hr]
theorem See.write_yes (h : See S L g m) {k : Nat} {x : List UInt8} (hg : g = false) (hk : k < L.length) : (S.write 0 (k : Int) x).1 = 0 ∧ See (S.write 0 (k : Int) x).2 (L.set k x) g (m + 1) := by
  have hr : refuseN S.p (S.at 0) (k : Int) = 0 := by rw [h.refuse, hg, if_neg (by simp), if_neg (by omega)]
  have hw := Kd.write_yes (s := x) hr
  have hp : S.p.fails = false := by rw [h.p]; rfl
  have hd0 : 0 < S.ds.length := by rw [h.ds]; omega
  have hpp : (S.put 0 ((S.at 0).add k x)).p = ⟨false, -1⟩ := h.p
  rw [hp, count_plain hpp] at hw
  rw [hw]
  have ha : (S.put 0 ((S.at 0).add k x)).at 0 = (S.at 0).add k x := by rw [at_put _ hd0, if_pos rfl]
  refine ⟨rfl, by rw [len_put]; exact h.ds, hpp, by rw [ha, List.length_set]; exact h.len, fun j hj => ?_, by rw [ha]; exact h.gone, by rw [ha]; exact h.lies, ?_⟩
  · rw [List.length_set] at hj
    rw [ha, set_getD _ _ _ _ hj]
    show nowL (S.at 0).st ((S.at 0).wt ++ [(k, x)]) j = _
    rw [now_snoc]
    split
    · rfl
    · exact h.now j hj
  · rw [ha]
    show ((S.at 0).wt ++ [(k, x)]).length ≤ m + 1
    rw [List.length_append]; have := h.few; simp; exact this
theorem See.flush_no (h : See S L g m) (hg : g = true) : S.flush 0 = (13, S) := by
  unfold Sy.flush; dsimp only; rw [h.p, h.gone, hg]; rfl
theorem See.flush_yes (h : See S L g m) (hg : g = false) : (S.flush 0).1 = 0 ∧ See (S.flush 0).2 L g 0 := by
  have hd0 : 0 < S.ds.length := by rw [h.ds]; omega
  have hp : S.p.fails = false := by rw [h.p]; rfl
  have hw : S.flush 0 = (0, S.put 0 { S.at 0 with st := flushL (S.at 0).st (S.at 0).wt, wt := [] }) := by
    unfold Sy.flush; dsimp only
    rw [if_neg (by rw [h.p, h.gone, hg]; simp), hp, if_neg (by simp), h.lies, if_neg (by simp), count_plain h.p]
  have ha : (S.put 0 { S.at 0 with st := flushL (S.at 0).st (S.at 0).wt, wt := [] }).at 0 = { S.at 0 with st := flushL (S.at 0).st (S.at 0).wt, wt := [] } := by rw [at_put _ hd0, if_pos rfl]
  rw [hw]
  refine ⟨rfl, by rw [len_put]; exact h.ds, h.p, by rw [ha]; exact (flush_length _ _).trans h.len, fun j hj => ?_, by rw [ha]; exact h.gone, by rw [ha]; exact h.lies, by rw [ha]; exact Nat.le_refl _⟩
  rw [ha]
  show nowL (flushL (S.at 0).st (S.at 0).wt) [] j = _
  rw [flush_nil, flush_get _ _ _ (by rw [h.len]; exact hj)]
  exact h.now j hj
theorem See.dry (h : See S L g 0) : (S.at 0).wt = [] := List.length_eq_zero_iff.1 (Nat.le_zero.1 h.few)
theorem See.stable (h : See S L g 0) : (S.at 0).st = L := by
  apply List.ext_getElem?
  intro k
  by_cases hk : k < L.length
  · have h1 := h.now k hk
    rw [Dv.now, h.dry, flush_nil, List.getD_eq_getElem?_getD, List.getD_eq_getElem?_getD, List.getElem?_eq_getElem (by rw [h.len]; exact hk), List.getElem?_eq_getElem hk] at h1
    rw [List.getElem?_eq_getElem (by rw [h.len]; exact hk), List.getElem?_eq_getElem hk]
    exact congrArg some h1
  · rw [List.getElem?_eq_none (by rw [h.len]; omega), List.getElem?_eq_none (by omega)]
theorem See.out (h : See S L g 0) (on : Bool) : See (S.put 0 ((S.at 0).out on)) L on 0 := by
  have hd0 : 0 < S.ds.length := by rw [h.ds]; omega
  have ha : (S.put 0 ((S.at 0).out on)).at 0 = (S.at 0).out on := by rw [at_put _ hd0, if_pos rfl]
  have hw : ((S.at 0).out on).wt = [] := by show (if on then [] else (S.at 0).wt) = []; rw [h.dry]; split <;> rfl
  refine ⟨by rw [len_put]; exact h.ds, h.p, by rw [ha]; exact h.len, fun j hj => ?_, by rw [ha]; rfl, by rw [ha]; exact h.lies, by rw [ha, hw]; exact Nat.le_refl _⟩
  rw [ha, Dv.now, hw]
  show nowL (S.at 0).st [] j = _
  rw [← h.now j hj, Dv.now, h.dry]
end
end Go.Proofs.Ytgfldfofiglefaa.Mi
/-
  Two devices of one power that never fails: as they are laid, and what is seen of each.
-/
namespace Go.Proofs.Ytgfldfofiglefaa.Mu
open Go.RowKit Kd Mi
def most2 (S : Sy) : Nat := max (S.at 0).wt.length (S.at 1).wt.length
theorem few_two {S : Sy} (h : S.ds.length = 2) (j : Nat) : (S.at j).wt.length ≤ most2 S := by
  rcases j with _ | _ | j
  · exact Nat.le_max_left _ _
  · exact Nat.le_max_right _ _
  · rw [at_far (by omega)]; exact Nat.zero_le _
def mostD (S : Sy) : Nat := if S.ds.length = 2 then most2 S else 0
theorem mostD_write (S : Sy) (i : Nat) (n : Int) (x : List UInt8) : mostD (S.write i n x).2 ≤ mostD S + 1 := by
  unfold mostD
  rw [write_dsM]
  split
  · rename_i h
    exact Nat.max_le.2 ⟨write_wtM S i n x _ (few_two h) 0, write_wtM S i n x _ (few_two h) 1⟩
  · exact Nat.zero_le _
theorem mostD_flush (S : Sy) (i : Nat) : mostD (S.flush i).2 ≤ mostD S := by
  unfold mostD
  rw [flush_dsM]
  split
  · rename_i h
    exact Nat.max_le.2 ⟨flush_wtM S i _ (few_two h) 0, flush_wtM S i _ (few_two h) 1⟩
  · exact Nat.le_refl _
theorem ptr2 {g1 g2 i : Nat} (hi : i < 2) : (if i = 0 then some (⟨g1, 0, none⟩ : Addr) else some ⟨g2, 0, none⟩) = some ⟨[g1, g2].getD i 0, 0, none⟩ := by
  rcases (show i = 0 ∨ i = 1 by omega) with rfl | rfl <;> rfl
/-- Two devices of one power. -/
def one (p g1 g2 : Nat) : Duo where
  L := SysL p [g1, g2] 2
  ptr i := if i = 0 then some ⟨g1, 0, none⟩ else some ⟨g2, 0, none⟩
  rd S i n := (refuseN S.p (S.at i) n, readS S.p (S.at i) n)
  wr S i n x := S.write i n x
  fl S i := S.flush i
  len S i := (S.at i).st.length
  most S := mostD S
  len_le {w s F i} h hi := (sys_okM h.1 (k := i) (by rw [h.2]; exact hi)).len
  rd_len {w s F i n} h hi := readS_length (sys_okM h.1 (k := i) (by rw [h.2]; exact hi)) _
  wr_most {S i n x} _ := mostD_write S i n x
  fl_most {S i} _ := mostD_flush S i
  crd {w s F i} h hi n := by rw [ptr2 hi]; exact dread_any h.1 i (by rw [h.2]; exact hi) n
  cwr {w S F i} h hi hm n x hx := by
    rw [ptr2 hi]
    exact (write_any h.1 i (by rw [h.2]; exact hi) n x hx (by
      have h1 : mostD S = most2 S := if_pos h.2
      have h2 := few_two h.2 i
      omega)).mono fun _ _ hr => RetS.reta ((write_dsM S i n x).trans h.2) hr
  cfl {w S F i} h hi := by
    rw [ptr2 hi]
    exact (flush_any h.1 i (by rw [h.2]; exact hi)).mono fun _ _ hr => RetS.reta ((flush_dsM S i).trans h.2) hr
  clen {w S F i} h hi := by
    rw [ptr2 hi]
    exact (len_sys h.1 i (by rw [h.2]; exact hi)).mono fun _ _ hr => by
      obtain ⟨rfl, rfl⟩ := hr
      exact ⟨rfl, Below.refl _ _⟩
/-- A device's sectors, as it reads them, whether it is out, and at most how many writes wait. -/
structure See (S : Sy) (i : Nat) (L : List (List UInt8)) (g : Bool) (m : Nat) : Prop where
  ds : S.ds.length = 2
  p : S.p = ⟨false, -1⟩
  lt : i < 2
  len : (S.at i).st.length = L.length
  now : ∀ k, k < L.length → (S.at i).now k = L.getD k zeroS
  gone : (S.at i).gone = g
  lies : (S.at i).lies = false
  few : (S.at i).wt.length ≤ m
section
variable {S : Sy} {i j : Nat} {L L' : List (List UInt8)} {g g' : Bool} {m m' : Nat}
theorem See.more (h : See S i L g m) {m' : Nat} (hm : m ≤ m') : See S i L g m' := ⟨h.ds, h.p, h.lt, h.len, h.now, h.gone, h.lies, Nat.le_trans h.few hm⟩
theorem See.put (h : See S j L' g' m') (d : Dv) (hij : j ≠ i) : See (S.put i d) j L' g' m' := by
  have ha : (S.put i d).at j = S.at j := by
    show (S.ds.set i d).getD j noDv = S.ds.getD j noDv
    rw [List.getD_eq_getElem?_getD, List.getD_eq_getElem?_getD, List.getElem?_set, if_neg (fun e => hij e.symm)]
  exact ⟨by rw [len_put]; exact h.ds, h.p, h.lt, by rw [ha]; exact h.len, by rw [ha]; exact h.now, by rw [ha]; exact h.gone, by rw [ha]; exact h.lies, by rw [ha]; exact h.few⟩
theorem see_new (n : Nat) (hn : n ≤ 4096) : See ((S0.new (n : Int)).new (n : Int)) 0 (List.replicate n zeroS) false 0 ∧ See ((S0.new (n : Int)).new (n : Int)) 1 (List.replicate n zeroS) false 0 := by
  have hc : clampN (n : Int) = n := by unfold clampN; omega
  have h1 : ((S0.new (n : Int)).new (n : Int)).at 0 = newDv n := by rw [Sy.new, Sy.new, hc]; rfl
  have h2 : ((S0.new (n : Int)).new (n : Int)).at 1 = newDv n := by rw [Sy.new, Sy.new, hc]; rfl
  refine ⟨⟨rfl, rfl, by omega, by rw [h1, List.length_replicate]; exact List.length_replicate, fun k hk => ?_, by rw [h1]; rfl, by rw [h1]; rfl, by rw [h1]; exact Nat.le_refl _⟩, ⟨rfl, rfl, by omega, by rw [h2, List.length_replicate]; exact List.length_replicate, fun k hk => ?_, by rw [h2]; rfl, by rw [h2]; rfl, by rw [h2]; exact Nat.le_refl _⟩⟩
  · rw [h1]; rfl
  · rw [h2]; rfl
theorem See.refuse (h : See S i L g m) (n : Int) : refuseN S.p (S.at i) n = if g then 13 else if n < 0 ∨ (L.length : Int) ≤ n then 2 else 0 := by
  rw [refuseN, h.p, h.gone, h.len]; rfl
theorem See.read (h : See S i L g m) (n : Int) : readS S.p (S.at i) n = if (g = false ∧ 0 ≤ n ∧ n < (L.length : Int)) then L.getD n.toNat zeroS else zeroS := by
  rw [readS, h.refuse]
  cases g with
  | true => simp
  | false =>
    by_cases hc : n < 0 ∨ (L.length : Int) ≤ n
    · rw [if_neg (show ¬ ((if false = true then (13 : Int) else if n < 0 ∨ (L.length : Int) ≤ n then 2 else 0) = 0) by rw [if_neg (by simp), if_pos hc]; omega), if_neg (fun h => by omega)]
    · rw [if_pos (show (if false = true then (13 : Int) else if n < 0 ∨ (L.length : Int) ≤ n then 2 else 0) = 0 by rw [if_neg (by simp), if_neg hc]), if_pos ⟨rfl, by omega, by omega⟩]
      exact h.now _ (by omega)
theorem See.write_no (h : See S i L g m) {n : Int} {x : List UInt8} (hn : ¬ (g = false ∧ 0 ≤ n ∧ n < (L.length : Int))) : S.write i n x = (if g then 13 else 2, S) := by
  have hr : refuseN S.p (S.at i) n = if g then 13 else 2 := by
    rw [h.refuse]
    cases g with
    | true => rfl
    | false =>
      have hc : n < 0 ∨ (L.length : Int) ≤ n := by
        by_cases h1 : n < 0
        · exact .inl h1
        · by_cases h2 : n < (L.length : Int)
          · exact absurd ⟨rfl, by omega, h2⟩ hn
          · exact .inr (by omega)
      show (if false = true then (13 : Int) else if n < 0 ∨ (L.length : Int) ≤ n then 2 else 0) = 2
      rw [if_neg (by simp), if_pos hc]
  rw [Kd.write_no (by rw [hr]; cases g <;> simp), hr]
theorem See.write_yes (h : See S i L g m) {k : Nat} {x : List UInt8} (hg : g = false) (hk : k < L.length) :
    (S.write i (k : Int) x).1 = 0 ∧ See (S.write i (k : Int) x).2 i (L.set k x) g (m + 1) ∧ ∀ {j L' g' m'}, j ≠ i → See S j L' g' m' → See (S.write i (k : Int) x).2 j L' g' m' := by
  have hr : refuseN S.p (S.at i) (k : Int) = 0 := by rw [h.refuse, hg, if_neg (by simp), if_neg (by omega)]
  have hw := Kd.write_yes (s := x) hr
  have hp : S.p.fails = false := by rw [h.p]; rfl
  have hd0 : i < S.ds.length := by rw [h.ds]; exact h.lt
  have hpp : (S.put i ((S.at i).add k x)).p = ⟨false, -1⟩ := h.p
  rw [hp, count_plain hpp] at hw
  rw [hw]
  have ha : (S.put i ((S.at i).add k x)).at i = (S.at i).add k x := by rw [at_put _ hd0, if_pos rfl]
  refine ⟨rfl, ⟨by rw [len_put]; exact h.ds, hpp, h.lt, by rw [ha, List.length_set]; exact h.len, fun j hj => ?_, by rw [ha]; exact h.gone, by rw [ha]; exact h.lies, ?_⟩, fun hne hj => hj.put _ hne⟩
  · rw [List.length_set] at hj
    rw [ha, set_getD _ _ _ _ hj]
    show nowL (S.at i).st ((S.at i).wt ++ [(k, x)]) j = _
    rw [now_snoc]
    split
    · rfl
    · exact h.now j hj
  · rw [ha]
    show ((S.at i).wt ++ [(k, x)]).length ≤ m + 1
    rw [List.length_append]; have := h.few; simp; exact this
theorem See.flush_no (h : See S i L g m) (hg : g = true) : S.flush i = (13, S) := by
  unfold Sy.flush; dsimp only; rw [h.p, h.gone, hg]; rfl
theorem See.flush_yes (h : See S i L g m) (hg : g = false) : (S.flush i).1 = 0 ∧ See (S.flush i).2 i L g 0 ∧ ∀ {j L' g' m'}, j ≠ i → See S j L' g' m' → See (S.flush i).2 j L' g' m' := by
  have hd0 : i < S.ds.length := by rw [h.ds]; exact h.lt
  have hp : S.p.fails = false := by rw [h.p]; rfl
  have hw : S.flush i = (0, S.put i { S.at i with st := flushL (S.at i).st (S.at i).wt, wt := [] }) := by
    unfold Sy.flush; dsimp only
    rw [if_neg (by rw [h.p, h.gone, hg]; simp), hp, if_neg (by simp), h.lies, if_neg (by simp), count_plain h.p]
  have ha : (S.put i { S.at i with st := flushL (S.at i).st (S.at i).wt, wt := [] }).at i = { S.at i with st := flushL (S.at i).st (S.at i).wt, wt := [] } := by rw [at_put _ hd0, if_pos rfl]
  rw [hw]
  refine ⟨rfl, ⟨by rw [len_put]; exact h.ds, h.p, h.lt, by rw [ha]; exact (flush_length _ _).trans h.len, fun j hj => ?_, by rw [ha]; exact h.gone, by rw [ha]; exact h.lies, by rw [ha]; exact Nat.le_refl _⟩, fun hne hj => hj.put _ hne⟩
  rw [ha]
  show nowL (flushL (S.at i).st (S.at i).wt) [] j = _
  rw [Kd.flush_nil, flush_get _ _ _ (by rw [h.len]; exact hj)]
  exact h.now j hj
theorem See.dry (h : See S i L g 0) : (S.at i).wt = [] := List.length_eq_zero_iff.1 (Nat.le_zero.1 h.few)
theorem See.stable (h : See S i L g 0) : (S.at i).st = L := by
  apply List.ext_getElem?
  intro k
  by_cases hk : k < L.length
  · have h1 := h.now k hk
    rw [Dv.now, h.dry, Kd.flush_nil, List.getD_eq_getElem?_getD, List.getD_eq_getElem?_getD, List.getElem?_eq_getElem (by rw [h.len]; exact hk), List.getElem?_eq_getElem hk] at h1
    rw [List.getElem?_eq_getElem (by rw [h.len]; exact hk), List.getElem?_eq_getElem hk]
    exact congrArg some h1
  · rw [List.getElem?_eq_none (by rw [h.len]; omega), List.getElem?_eq_none (by omega)]
theorem See.out (h : See S i L g 0) (on : Bool) : See (S.put i ((S.at i).out on)) i L on 0 := by
  have hd0 : i < S.ds.length := by rw [h.ds]; exact h.lt
  have ha : (S.put i ((S.at i).out on)).at i = (S.at i).out on := by rw [at_put _ hd0, if_pos rfl]
  have hw : ((S.at i).out on).wt = [] := by show (if on then [] else (S.at i).wt) = []; rw [h.dry]; split <;> rfl
  refine ⟨by rw [len_put]; exact h.ds, h.p, h.lt, by rw [ha]; exact h.len, fun j hj => ?_, by rw [ha]; rfl, by rw [ha]; exact h.lies, by rw [ha, hw]; exact Nat.le_refl _⟩
  rw [ha, Dv.now, hw]
  show nowL (S.at i).st [] j = _
  rw [← h.now j hj, Dv.now, h.dry]
theorem See.rot (h : See S i L g 0) (n a : Int) (b : UInt8) : See (S.rot i n a b) i (if hasByte L.length n a then rotL L n.toNat a.toNat b else L) g 0 := by
  have hl : (S.at i).st.length = L.length := h.len
  rw [Sy.rot, hl]
  split
  · have hd0 : i < S.ds.length := by rw [h.ds]; exact h.lt
    have ha : (S.put i ((S.at i).rot n.toNat a.toNat b)).at i = (S.at i).rot n.toNat a.toNat b := by rw [at_put _ hd0, if_pos rfl]
    refine ⟨by rw [len_put]; exact h.ds, h.p, h.lt, ?_, fun j hj => ?_, by rw [ha]; exact h.gone, by rw [ha]; exact h.lies, by rw [ha]; exact h.few⟩
    · rw [ha, ← h.stable]; rfl
    · rw [ha, Dv.now]
      show nowL (rotL (S.at i).st n.toNat a.toNat b) (S.at i).wt j = _
      rw [h.dry, Kd.flush_nil, h.stable]
  · exact h
theorem See.rot_other (h : See S j L' g' m') (n a : Int) (b : UInt8) (hij : j ≠ i) : See (S.rot i n a b) j L' g' m' := by
  rw [Sy.rot]; split
  · exact h.put _ hij
  · exact h
end
end Go.Proofs.Ytgfldfofiglefaa.Mu
/-
  The contracts of there, flush, reads, right: what a mirror asks of one of its devices.
-/
namespace Go.Proofs.Ytgfldfofiglefaa.Mi
open Go.RowKit Kd
attribute [local go_sem ↓] Go.wp_at_zero Go.wp_at_succ
section
variable {C : Duo} {G : Gd} {g : Nat} {w : World} {s : Mr C} {A B : Option Addr} {n c m e : Nat} {F1 F : Nat → Prop}
/-- Is the device there? -/
def Duo.there (C : Duo) (d : C.L.St) (i : Nat) : Bool := (C.ptr i).isSome && ((C.rd d i 0).1 != 13)
theorem two {i : Nat} (h : i < 2) : i = 0 ∨ i = 1 := by omega
theorem MrR.ptr_cell (h : MrR C G g w s A n c B m e F1) {i : Nat} (hi : i < 2) : w.cell? ⟨g, i, none⟩ = some (.pointer (C.ptr i)) := by
  rcases two hi with rfl | rfl
  · exact h.blk.cell 0
  · exact h.blk.cell 1
set_option maxRecDepth 100000 in
set_option maxHeartbeats 3200000 in
theorem there_r (h : MrR C G g w s A n c B m e F1) {i : Nat} (hi : i < 2) :
    Calls Try.prog 74 #[.pointer (some ⟨g, 0, none⟩), .int .i64 i] w (RetB (.bool (C.there s.d i)) w) := by
  have H := Lib.hid h
  have c0 := h.ptr_cell hi
  have HI := Lib.hid hi
  have i0 : (0 : Int) ≤ (i : Int) := by omega
  have i1 : (i : Int) < 2 := by omega
  obtain ⟨z, hz0⟩ : ∃ z : List UInt8, z = zeroS := ⟨_, rfl⟩
  have hz : ∀ W, (zeroValue 38).run Try.prog W = .ok (.agg (bva z)) W := fun _ => by rw [hz0]; kernel_rfl
  have HZ3 := Lib.hid (show z.length = 128 by rw [hz0]; exact zeroS_length)
  clear hz0
  obtain ⟨y, hy⟩ : ∃ y, y = (C.rd s.d i 0).2 := ⟨_, rfl⟩
  have HY3 := Lib.hid (show y.length = 128 by rw [hy]; exact C.rd_len H.out.d HI.out)
  have HIY : Hid ((Try.prog.info? 38).map (·.size) = some (bva y).size) := by rw [bva_size, HY3.out]; exact info_sec
  obtain ⟨r, hr⟩ : ∃ r, r = (C.rd s.d i 0).1 := ⟨_, rfl⟩
  have hc := C.crd H.out.d HI.out 0
  rw [← hr, ← hy] at hc
  have HC := Lib.hid hc
  have HT := Lib.hid (show C.there s.d i = ((C.ptr i).isSome && (r != 13)) by rw [Duo.there, hr])
  clear hc hr hy
  obtain ⟨P, hP⟩ : ∃ P, P = C.ptr i := ⟨_, rfl⟩
  rw [← hP] at c0 HC HT
  rw [HT.out]
  have HB := Lib.hid h
  clear h hP hi HT H
  go_enter Try.func74, Try.ntmps74
  go_wp2_with fail
  refine HC.out.mono ?_
  rintro e w1 ⟨rfl, bw⟩
  have BW := Lib.hid bw
  clear bw
  go_wp2_with (show wpList _ _ _ ({ dst := none, op := .store 38 (.tmp 5) (.tmp 15), type := _, pos := _, after := _, guard := _ } :: _) _ _; apply Classical.byContradiction; intro hneg)
  refine hneg ?_
  clear hneg
  refine wpList_store_row rfl 38 (.tmp 5) (.tmp 15) rfl w1.heap.size (bva y) rfl rfl 38 (bva z) (heap_alloc_new _ _) HIY.out (by rw [bva_size, bva_size, HY3.out, HZ3.out]) (bva_one _) ?_
  obtain ⟨w2, hw2⟩ : ∃ w2, w2 = (w1.alloc (.cells (bva z) 38)).setRow w1.heap.size (bva y) := ⟨_, rfl⟩
  have hb2 : Below w1.heap.size w1 w2 := by rw [hw2]; exact below_setRow ((Below.refl _ _).alloc (Nat.le_refl _) _) (Nat.le_refl _) _
  have hbw : Below w.heap.size w w2 := BW.out.trans (hb2.mono BW.out.size)
  have BW2 := Lib.hid hbw
  have c1 : w2.cell? ⟨g, i, none⟩ = some (.pointer P) := by rw [hbw.cell HB.out.blk.lt]; exact c0
  rw [← hw2]
  clear hw2 hb2 hbw c0 BW
  rcases P with _ | P
  · go_wp2_with fail
    go_ret
    exact ⟨by rfl, BW2.out⟩
  · by_cases hr : r = 13
    · go_wp2_with fail
      go_ret
      exact ⟨by subst hr; rfl, BW2.out⟩
    · go_wp2_with fail
      go_ret
      exact ⟨by rfl, BW2.out⟩
theorem there_any (h : (ML C G g).At w s F) {i : Nat} (hi : i < 2) : Calls Try.prog 74 #[.pointer (some ⟨g, 0, none⟩), .int .i64 i] w (RetB (.bool (C.there s.d i)) w) := by
  obtain ⟨A, n, c, B, m, e, F1, h, _⟩ := h
  exact there_r h hi
theorem mflush_any (h : (ML C G g).At w s F) {i : Nat} (hi : i < 2) :
    Calls Try.prog 88 #[.pointer (some ⟨g, 0, none⟩), .int .i64 i] w (RetA (ML C G g) (.bool ((C.fl s.d i).1 == 0)) ⟨(C.fl s.d i).2, s.a, s.b⟩ F w) := by
  obtain ⟨A, n, c, B, m, e, F1, h, h1, h2⟩ := h
  have H := Lib.hid h
  have H1 := Lib.hid h1
  have H2 := Lib.hid h2
  have c0 := h.ptr_cell hi
  have HI := Lib.hid hi
  have i0 : (0 : Int) ≤ (i : Int) := by omega
  have i1 : (i : Int) < 2 := by omega
  obtain ⟨r, hr⟩ : ∃ r, r = C.fl s.d i := ⟨_, rfl⟩
  have hc := C.cfl H.out.d HI.out
  rw [← hr] at hc
  have HC := Lib.hid hc
  rw [← hr]
  clear hc hr h h1 h2
  obtain ⟨P, hP⟩ : ∃ P, P = C.ptr i := ⟨_, rfl⟩
  rw [← hP] at c0 HC
  clear hP hi
  go_enter Try.func88, Try.ntmps88
  go_wp2_with fail
  refine HC.out.mono ?_
  rintro e w1 ⟨rfl, F2, hm⟩
  have HM := Lib.hid hm
  clear hm c0
  go_wp2_with fail
  go_ret
  exact ⟨rfl, _, H.out.dev H1.out H2.out HM.out⟩
end
end Go.Proofs.Ytgfldfofiglefaa.Mi
/-
  The contracts of reads and right: what a mirror reads of one device.
-/
namespace Go.Proofs.Ytgfldfofiglefaa.Mi
open Go.RowKit Kd
attribute [local go_sem ↓] Go.wp_at_zero Go.wp_at_succ
section
variable {C : Duo} {G : Gd} {g : Nat} {w : World} {s : Mr C} {A B : Option Addr} {n c m e : Nat} {F1 F : Nat → Prop}
/-- Does the device read what may stand? -/
def rdOk (C : Duo) (G : Gd) (d : C.L.St) (i : Nat) (n : Int) : Bool := ((C.rd d i n).1 == 0) && G.f n (C.rd d i n).2
def rdVal (C : Duo) (G : Gd) (d : C.L.St) (i : Nat) (n : Int) : List UInt8 := if rdOk C G d i n then (C.rd d i n).2 else zeroS
theorem MrR.good_cell (h : MrR C G g w s A n c B m e F1) : w.cell? ⟨g, 4, none⟩ = some G.v := h.blk.cell 4
set_option maxRecDepth 100000 in
set_option maxHeartbeats 6400000 in
theorem reads_r {N : Nat} (h : MrR C G g w s A N c B m e F1) {i : Nat} (hi : i < 2) (n : Int) :
    Calls Try.prog 93 #[.pointer (some ⟨g, 0, none⟩), .int .i64 i, .int .i64 n] w (RetB (.tuple #[.agg (bva (rdVal C G s.d i n)), .bool (rdOk C G s.d i n)]) w) := by
  have c0 := h.ptr_cell hi
  have c4 := h.good_cell
  have HI := Lib.hid hi
  have i0 : (0 : Int) ≤ (i : Int) := by omega
  have i1 : (i : Int) < 2 := by omega
  obtain ⟨z, hz0⟩ : ∃ z : List UInt8, z = zeroS := ⟨_, rfl⟩
  have hz : ∀ W, (zeroValue 38).run Try.prog W = .ok (.agg (bva z)) W := fun _ => by rw [hz0]; kernel_rfl
  have HBZ := Lib.hid (show ∀ W, (Instr.build 38 #[]).run Try.prog W = .ok (.agg (bva z)) W from fun _ => by rw [hz0]; kernel_rfl)
  have HZ3 := Lib.hid (show z.length = 128 by rw [hz0]; exact zeroS_length)
  have HIZ : Hid ((Try.prog.info? 38).map (·.size) = some (bva z).size) := by rw [bva_size, HZ3.out]; exact info_sec
  obtain ⟨y, hy⟩ : ∃ y, y = (C.rd s.d i n).2 := ⟨_, rfl⟩
  have HY3 := Lib.hid (show y.length = 128 by rw [hy]; exact C.rd_len h.d HI.out)
  have HIY : Hid ((Try.prog.info? 38).map (·.size) = some (bva y).size) := by rw [bva_size, HY3.out]; exact info_sec
  obtain ⟨r, hr⟩ : ∃ r, r = (C.rd s.d i n).1 := ⟨_, rfl⟩
  have hw1 : Below w.heap.size w (w.alloc (.cells (bva z) 38)) := (Below.refl _ _).alloc (Nat.le_refl _) _
  have hc := C.crd (C.L.below h.d hw1) HI.out n
  rw [← hr, ← hy] at hc
  have HC := Lib.hid hc
  have HO := Lib.hid (show rdOk C G s.d i n = ((r == 0) && G.f n y) by rw [rdOk, hr, hy])
  have HV := Lib.hid (show rdVal C G s.d i n = if (r == 0) && G.f n y then y else z by rw [rdVal, HO.out, ← hy, hz0])
  have cp : (w.alloc (.cells (bva z) 38)).cell? ⟨g, i, none⟩ = some (.pointer (C.ptr i)) := by rw [hw1.cell h.blk.lt]; exact c0
  clear hc hr hy hz0 c0
  obtain ⟨P, hP⟩ : ∃ P, P = C.ptr i := ⟨_, rfl⟩
  rw [← hP] at cp HC
  obtain ⟨RV, hRV⟩ : ∃ RV, RV = Value.tuple #[.agg (bva (if (r == 0) && G.f n y then y else z)), .bool ((r == 0) && G.f n y)] := ⟨_, rfl⟩
  have HRV := Lib.hid hRV
  rw [HO.out, HV.out, ← hRV]
  clear hRV
  have HB := Lib.hid h
  have C4 := Lib.hid c4
  clear h hP hi HO HV hw1 c4
  go_enter Try.func93, Try.ntmps93
  go_wp2_with fail
  refine HC.out.mono ?_
  rintro e w1 ⟨rfl, bw⟩
  rw [World.size_alloc] at bw
  have hb6 : Blk w1 w.heap.size (bva z) 38 := Blk.below (heap_alloc_new _ _) (by rw [World.size_alloc]; exact bw)
  have BW := Lib.hid (show Below w.heap.size w w1 from ((Below.refl _ _).alloc (Nat.le_refl _) _).trans (bw.mono (Nat.le_succ _)))
  have HB6 := Lib.hid hb6
  clear bw hb6 cp
  go_wp2_with (show wpList _ _ _ ({ dst := none, op := .store 38 (.tmp 8) (.tmp 19), type := _, pos := _, after := _, guard := _ } :: _) _ _; apply Classical.byContradiction; intro hneg)
  refine hneg ?_
  clear hneg
  refine wpList_store_row rfl 38 (.tmp 8) (.tmp 19) rfl w1.heap.size (bva y) rfl rfl 38 (bva z) (heap_alloc_new _ _) HIY.out (by rw [bva_size, bva_size, HY3.out, HZ3.out]) (bva_one _) ?_
  obtain ⟨w2, hw2⟩ : ∃ w2, w2 = (w1.alloc (.cells (bva z) 38)).setRow w1.heap.size (bva y) := ⟨_, rfl⟩
  have hb2 : Below w1.heap.size w1 w2 := by rw [hw2]; exact below_setRow ((Below.refl _ _).alloc (Nat.le_refl _) _) (Nat.le_refl _) _
  have HBX := Lib.hid (show Blk w2 w1.heap.size (bva y) 38 from by rw [hw2]; exact setRow_heap _ _ _ _ _ _ (heap_alloc_new _ _))
  have BW2 := Lib.hid (BW.out.trans (hb2.mono BW.out.size))
  have HB62 := Lib.hid (HB6.out.below hb2)
  have HG4 := Lib.hid (show ∀ w', Below w2.heap.size w2 w' → w'.cell? ⟨g, 4, none⟩ = some G.v from fun w' hb => by
    rw [hb.cell (Nat.lt_of_lt_of_le HB.out.blk.lt BW2.out.size), BW2.out.cell HB.out.blk.lt]; exact C4.out)
  rw [← hw2]
  clear hw2 hb2 BW HB6
  by_cases hr0 : r = 0
  · subst hr0
    rcases hk : G.k with _ | kk
    · have hgv : G.v = .nilFunc := by rw [Gd.v, hk]
      have HEND := Lib.hid (show (Ending.returned (Value.tuple #[.agg (bva z), .bool false])) = Ending.returned RV from by rw [HRV.out, G.none_ hk n y]; rfl)
      rw [hgv] at HG4
      have HQ := Lib.hid (show ∀ W, (binOp .eql 56 .nilFunc .nilFunc).run Try.prog W = .ok (.bool true) W from fun _ => by kernel_rfl)
      clear hk hgv
      go_wp2_with fail
      refine wp_region_held_drew (S := fun w' => Below w2.heap.size w2 w') (by kernel_rfl) (Below.refl _ _).drew (fun hh => ?_)
      have HH := Lib.hid hh
      clear hh
      refine wpAnyH_take (i := 0) (v := ?vB0) rfl (by kernel_rfl) (by kernel_rfl) (by kernel_rfl) (fun _ _ _ h => h) (Or.inl ⟨by rfl, fun w' _ => ?yB0⟩) HH.out ?_
      case yB0 => (go_simp; try with_reducible rfl)
      refine wpAnyH_take (i := 1) (v := ?vB1) rfl (by kernel_rfl) (by kernel_rfl) (by kernel_rfl) (fun _ _ _ h => h) (Or.inl ⟨by rfl, fun w' _ => ?yB1⟩) HH.out ?_
      case yB1 => (go_simp; try with_reducible rfl)
      try simp only [List.getElem_toArray, List.getElem_cons_succ, List.getElem_cons_zero, Act.put, List.setIfInBounds_toArray, List.set_cons_zero, List.set_cons_succ]
      refine wpAnyH_take (i := 2) (v := ?vB2) rfl (by kernel_rfl) (by kernel_rfl) (by kernel_rfl) (fun _ _ _ h => h) (Or.inl ⟨by rfl, fun w' _ => ?yB2⟩) HH.out ?_
      case yB2 => (go_simp; try with_reducible rfl)
      try simp only [List.getElem_toArray, List.getElem_cons_succ, List.getElem_cons_zero, Act.put, List.setIfInBounds_toArray, List.set_cons_zero, List.set_cons_succ]
      refine wpAnyH_take (i := 3) (v := ?vB3) rfl (by kernel_rfl) (by kernel_rfl) (by kernel_rfl) (fun _ _ _ h => h) (Or.inl ⟨by rfl, fun w' _ => ?yB3⟩) HH.out ?_
      case yB3 => (go_simp; try with_reducible rfl)
      try simp only [List.getElem_toArray, List.getElem_cons_succ, List.getElem_cons_zero, Act.put, List.setIfInBounds_toArray, List.set_cons_zero, List.set_cons_succ]
      refine wpAnyH_take (i := 4) (v := ?vB4) rfl (by kernel_rfl) (by kernel_rfl) (by kernel_rfl) (fun _ _ _ h => h) (Or.inl ⟨by rfl, fun w' _ => ?yB4⟩) HH.out ?_
      case yB4 => (go_simp; try with_reducible rfl)
      try simp only [List.getElem_toArray, List.getElem_cons_succ, List.getElem_cons_zero, Act.put, List.setIfInBounds_toArray, List.set_cons_zero, List.set_cons_succ]
      refine wpAnyH_take (i := 5) (v := ?vB5) rfl (by kernel_rfl) (by kernel_rfl) (by kernel_rfl) (fun _ _ _ h => h) (Or.inl ⟨by rfl, fun w' _ => ?yB5⟩) HH.out ?_
      case yB5 => (go_simp; try with_reducible rfl)
      refine wpAnyH_take (i := 6) (v := .nilFunc) rfl (by kernel_rfl) (by kernel_rfl) (by kernel_rfl) (fun _ _ _ h => h) (Or.inl ⟨by rfl, fun w' hw' => ?yB6⟩) HH.out ?_
      case yB6 => (have hc := HG4.out w' hw'; go_simp; try with_reducible rfl)
      refine wpAnyH_take (i := 7) (v := .bool true) rfl (by kernel_rfl) (by kernel_rfl) (by kernel_rfl) (fun _ _ _ h => h) (Or.inl ⟨by rfl, fun w' hw' => ?yB7⟩) HH.out ?_
      case yB7 => (go_simp; rw [HQ.out]; rfl)
      try simp only [List.getElem_toArray, List.getElem_cons_succ, List.getElem_cons_zero, Act.put, List.setIfInBounds_toArray, List.set_cons_zero, List.set_cons_succ]
      refine wpAnyH_take (i := 8) (v := ?vB8) rfl (by kernel_rfl) (by kernel_rfl) (by kernel_rfl) (fun _ _ _ h => h) (Or.inl ⟨by rfl, fun w' _ => ?yB8⟩) HH.out ?_
      case yB8 => (go_simp; try with_reducible rfl)
      refine wpAnyH_take (i := 9) (v := ?vB9) rfl (by kernel_rfl) (by kernel_rfl) (by kernel_rfl) (fun _ _ _ h => h) (Or.inl ⟨by rfl, fun w' _ => ?yB9⟩) HH.out ?_
      case yB9 => (go_simp; try with_reducible rfl)
      refine wpAnyH_take (i := 10) (v := undef) rfl (by kernel_rfl) (by kernel_rfl) (by kernel_rfl) (fun _ _ _ h => h) (Or.inr ⟨by rfl, rfl⟩) HH.out ?_
      try simp only [List.getElem_toArray, List.getElem_cons_succ, List.getElem_cons_zero, Act.put, List.setIfInBounds_toArray, List.set_cons_zero, List.set_cons_succ]
      refine wpAnyH_take (i := 11) (v := undef) rfl (by kernel_rfl) (by kernel_rfl) (by kernel_rfl) (fun _ _ _ h => h) (Or.inr ⟨by rfl, rfl⟩) HH.out ?_
      refine wpAnyH_take (i := 12) (v := undef) rfl (by kernel_rfl) (by kernel_rfl) (by kernel_rfl) (fun _ _ _ h => h) (Or.inr ⟨by rfl, rfl⟩) HH.out ?_
      refine wpAnyH_take (i := 13) (v := undef) rfl (by kernel_rfl) (by kernel_rfl) (by kernel_rfl) (fun _ _ _ h => h) (Or.inr ⟨by rfl, rfl⟩) HH.out ?_
      try simp only [List.getElem_toArray, List.getElem_cons_succ, List.getElem_cons_zero, Act.put, List.setIfInBounds_toArray, List.set_cons_zero, List.set_cons_succ]
      refine wpAnyH_take (i := 14) (v := undef) rfl (by kernel_rfl) (by kernel_rfl) (by kernel_rfl) (fun _ _ _ h => h) (Or.inr ⟨by rfl, rfl⟩) HH.out ?_
      refine wpAnyH_take (i := 15) (v := undef) rfl (by kernel_rfl) (by kernel_rfl) (by kernel_rfl) (fun _ _ _ h => h) (Or.inr ⟨by rfl, rfl⟩) HH.out ?_
      refine wpAnyH_take (i := 16) (v := undef) rfl (by kernel_rfl) (by kernel_rfl) (by kernel_rfl) (fun _ _ _ h => h) (Or.inr ⟨by rfl, rfl⟩) HH.out ?_
      try simp only [List.getElem_toArray, List.getElem_cons_succ, List.getElem_cons_zero, Act.put, List.setIfInBounds_toArray, List.set_cons_zero, List.set_cons_succ]
      refine wpAnyH_take (i := 17) (v := undef) rfl (by kernel_rfl) (by kernel_rfl) (by kernel_rfl) (fun _ _ _ h => h) (Or.inr ⟨by rfl, rfl⟩) HH.out ?_
      refine wpAnyH_take (i := 18) (v := ?vB18) rfl (by kernel_rfl) (by kernel_rfl) (by kernel_rfl) (fun _ _ _ h => h) (Or.inl ⟨by rfl, fun w' _ => ?yB18⟩) HH.out ?_
      case yB18 => (go_simp; try with_reducible rfl)
      try simp only [List.getElem_toArray, List.getElem_cons_succ, List.getElem_cons_zero, Act.put, List.setIfInBounds_toArray, List.set_cons_zero, List.set_cons_succ]
      refine wpAnyH_done (by kernel_rfl) ?_ _
      go_wp2_with (first
        | (refine wpList_build rfl 38 #[] rfl (v := .agg (bva z)) ?hbld ?_; case hbld => exact HBZ.out _)
        | (refine wpList_store_row rfl 38 (.tmp 6) (.tmp 40) rfl w.heap.size (bva z) rfl rfl 38 (bva z) (HB62.out.below HH.out) HIZ.out (by rfl) (bva_one _) ?_))
      exact bodyPost_ret (v := .tuple #[.agg (bva z), .bool false]) (results_ct8 Try.results93 _ _ w.heap.size 38 (bva z) _ rfl (setRow_heap _ _ _ _ _ _ (HB62.out.below HH.out)) Try.underlying38 rfl HIZ.out) rfl ⟨HEND.out, below_setRow (BW2.out.trans (HH.out.mono BW2.out.size)) (Nat.le_refl _) _⟩
    · obtain ⟨cc, hcc⟩ : ∃ cc, cc = G.c := ⟨_, rfl⟩
      have hgv : G.v = .func (.func kk) #[] cc := by rw [Gd.v, hk, hcc]
      have HCG := Lib.hid (show ∀ w', Below w2.heap.size w2 w' → Calls Try.prog kk (#[.int .i64 n, .agg (bva y)] ++ cc) w' (RetB (.bool (G.f n y)) w') from fun w' hb => by rw [hcc]; exact G.call kk hk w' n y (fun x hx => (((HB.out.gb x hx).1.below BW2.out).below hb)) HY3.out)
      have hC := G.enter kk hk
      rw [hgv] at HG4
      have HQ := Lib.hid (show ∀ W, (binOp .eql 56 (.func (.func kk) #[] cc) .nilFunc).run Try.prog W = .ok (.bool false) W from fun _ => by kernel_rfl)
      clear hk hgv hcc
      go_wp2_with fail
      refine wp_region_held_drew (S := fun w' => Below w2.heap.size w2 w') (by kernel_rfl) (Below.refl _ _).drew (fun hh => ?_)
      have HH := Lib.hid hh
      clear hh
      refine wpAnyH_take (i := 0) (v := ?vC0) rfl (by kernel_rfl) (by kernel_rfl) (by kernel_rfl) (fun _ _ _ h => h) (Or.inl ⟨by rfl, fun w' _ => ?yC0⟩) HH.out ?_
      case yC0 => (go_simp; try with_reducible rfl)
      refine wpAnyH_take (i := 1) (v := ?vC1) rfl (by kernel_rfl) (by kernel_rfl) (by kernel_rfl) (fun _ _ _ h => h) (Or.inl ⟨by rfl, fun w' _ => ?yC1⟩) HH.out ?_
      case yC1 => (go_simp; try with_reducible rfl)
      try simp only [List.getElem_toArray, List.getElem_cons_succ, List.getElem_cons_zero, Act.put, List.setIfInBounds_toArray, List.set_cons_zero, List.set_cons_succ]
      refine wpAnyH_take (i := 2) (v := ?vC2) rfl (by kernel_rfl) (by kernel_rfl) (by kernel_rfl) (fun _ _ _ h => h) (Or.inl ⟨by rfl, fun w' _ => ?yC2⟩) HH.out ?_
      case yC2 => (go_simp; try with_reducible rfl)
      try simp only [List.getElem_toArray, List.getElem_cons_succ, List.getElem_cons_zero, Act.put, List.setIfInBounds_toArray, List.set_cons_zero, List.set_cons_succ]
      refine wpAnyH_take (i := 3) (v := ?vC3) rfl (by kernel_rfl) (by kernel_rfl) (by kernel_rfl) (fun _ _ _ h => h) (Or.inl ⟨by rfl, fun w' _ => ?yC3⟩) HH.out ?_
      case yC3 => (go_simp; try with_reducible rfl)
      try simp only [List.getElem_toArray, List.getElem_cons_succ, List.getElem_cons_zero, Act.put, List.setIfInBounds_toArray, List.set_cons_zero, List.set_cons_succ]
      refine wpAnyH_take (i := 4) (v := ?vC4) rfl (by kernel_rfl) (by kernel_rfl) (by kernel_rfl) (fun _ _ _ h => h) (Or.inl ⟨by rfl, fun w' _ => ?yC4⟩) HH.out ?_
      case yC4 => (go_simp; try with_reducible rfl)
      try simp only [List.getElem_toArray, List.getElem_cons_succ, List.getElem_cons_zero, Act.put, List.setIfInBounds_toArray, List.set_cons_zero, List.set_cons_succ]
      refine wpAnyH_take (i := 5) (v := ?vC5) rfl (by kernel_rfl) (by kernel_rfl) (by kernel_rfl) (fun _ _ _ h => h) (Or.inl ⟨by rfl, fun w' _ => ?yC5⟩) HH.out ?_
      case yC5 => (go_simp; try with_reducible rfl)
      refine wpAnyH_take (i := 6) (v := .func (.func kk) #[] cc) rfl (by kernel_rfl) (by kernel_rfl) (by kernel_rfl) (fun _ _ _ h => h) (Or.inl ⟨by rfl, fun w' hw' => ?yC6⟩) HH.out ?_
      case yC6 => (have hc := HG4.out w' hw'; go_simp; try with_reducible rfl)
      refine wpAnyH_take (i := 7) (v := .bool false) rfl (by kernel_rfl) (by kernel_rfl) (by kernel_rfl) (fun _ _ _ h => h) (Or.inl ⟨by rfl, fun w' hw' => ?yC7⟩) HH.out ?_
      case yC7 => (go_simp; rw [HQ.out]; rfl)
      try simp only [List.getElem_toArray, List.getElem_cons_succ, List.getElem_cons_zero, Act.put, List.setIfInBounds_toArray, List.set_cons_zero, List.set_cons_succ]
      refine wpAnyH_take (i := 8) (v := ?vC8) rfl (by kernel_rfl) (by kernel_rfl) (by kernel_rfl) (fun _ _ _ h => h) (Or.inl ⟨by rfl, fun w' _ => ?yC8⟩) HH.out ?_
      case yC8 => (go_simp; try with_reducible rfl)
      refine wpAnyH_take (i := 9) (v := ?vC9) rfl (by kernel_rfl) (by kernel_rfl) (by kernel_rfl) (fun _ _ _ h => h) (Or.inl ⟨by rfl, fun w' _ => ?yC9⟩) HH.out ?_
      case yC9 => (go_simp; try with_reducible rfl)
      try simp only [List.getElem_toArray, List.getElem_cons_succ, List.getElem_cons_zero, Act.put, List.setIfInBounds_toArray, List.set_cons_zero, List.set_cons_succ]
      refine wpAnyH_take (i := 10) (v := ?vC10) rfl (by kernel_rfl) (by kernel_rfl) (by kernel_rfl) (fun _ _ _ h => h) (Or.inl ⟨by rfl, fun w' _ => ?yC10⟩) HH.out ?_
      case yC10 => (go_simp; try with_reducible rfl)
      try simp only [List.getElem_toArray, List.getElem_cons_succ, List.getElem_cons_zero, Act.put, List.setIfInBounds_toArray, List.set_cons_zero, List.set_cons_succ]
      refine wpAnyH_take (i := 11) (v := ?vC11) rfl (by kernel_rfl) (by kernel_rfl) (by kernel_rfl) (fun _ _ _ h => h) (Or.inl ⟨by rfl, fun w' _ => ?yC11⟩) HH.out ?_
      case yC11 => (go_simp; try with_reducible rfl)
      try simp only [List.getElem_toArray, List.getElem_cons_succ, List.getElem_cons_zero, Act.put, List.setIfInBounds_toArray, List.set_cons_zero, List.set_cons_succ]
      refine wpAnyH_take (i := 12) (v := ?vC12) rfl (by kernel_rfl) (by kernel_rfl) (by kernel_rfl) (fun _ _ _ h => h) (Or.inl ⟨by rfl, fun w' _ => ?yC12⟩) HH.out ?_
      case yC12 => (go_simp; try with_reducible rfl)
      refine wpAnyH_take (i := 13) (v := .func (.func kk) #[] cc) rfl (by kernel_rfl) (by kernel_rfl) (by kernel_rfl) (fun _ _ _ h => h) (Or.inl ⟨by rfl, fun w' hw' => ?yC13⟩) HH.out ?_
      case yC13 => (have hc := HG4.out w' hw'; go_simp; try with_reducible rfl)
      try simp only [List.getElem_toArray, List.getElem_cons_succ, List.getElem_cons_zero, Act.put, List.setIfInBounds_toArray, List.set_cons_zero, List.set_cons_succ]
      refine wpAnyH_take (i := 14) (v := ?vC14) rfl (by kernel_rfl) (by kernel_rfl) (by kernel_rfl) (fun _ _ _ h => h) (Or.inl ⟨by rfl, fun w' _ => ?yC14⟩) HH.out ?_
      case yC14 => (go_simp; try with_reducible rfl)
      refine wpAnyH_take (i := 15) (v := .agg (bva y)) rfl (by kernel_rfl) (by kernel_rfl) (by kernel_rfl) (fun _ _ _ h => h) (Or.inl ⟨by rfl, fun w' hw' => ?yC15⟩) HH.out ?_
      case yC15 => exact exec_load 38 (.tmp 8) rfl rfl (HBX.out.below hw') Try.underlying38 rfl HIY.out
      try simp only [List.getElem_toArray, List.getElem_cons_succ, List.getElem_cons_zero, Act.put, List.setIfInBounds_toArray, List.set_cons_zero, List.set_cons_succ]
      refine wpAnyH_ready (rs := [16]) (by kernel_rfl) (by simp) (AllReadyH.cons rfl (fun K hK => ?_) AllReadyH.nil)
      go_simp
      refine (HCG.out _ HH.out).mono ?_
      rintro e w3 ⟨rfl, bw3⟩
      go_simp
      refine hK.out _ _ (HH.out.trans (bw3.mono HH.out.size)) (fun hh => ?_)
      have HH' := Lib.hid hh
      clear hh hK K HH bw3
      have HH := Lib.hid HH'.out
      clear HH'
      try simp only [List.getElem_toArray, List.getElem_cons_succ, List.getElem_cons_zero, Act.put, List.setIfInBounds_toArray, List.set_cons_zero, List.set_cons_succ]
      refine wpAnyH_take (i := 17) (v := ?vC17) rfl (by kernel_rfl) (by kernel_rfl) (by kernel_rfl) (fun _ _ _ h => h) (Or.inl ⟨by rfl, fun w' _ => ?yC17⟩) HH.out ?_
      case yC17 => (go_simp; try with_reducible rfl)
      refine wpAnyH_take (i := 18) (v := ?vC18) rfl (by kernel_rfl) (by kernel_rfl) (by kernel_rfl) (fun _ _ _ h => h) (Or.inl ⟨by rfl, fun w' _ => ?yC18⟩) HH.out ?_
      case yC18 => (go_simp; try with_reducible rfl)
      try simp only [List.getElem_toArray, List.getElem_cons_succ, List.getElem_cons_zero, Act.put, List.setIfInBounds_toArray, List.set_cons_zero, List.set_cons_succ]
      refine wpAnyH_done (by kernel_rfl) ?_ _
      cases hgv : G.f n y with
      | false =>
        have HEND := Lib.hid (show (Ending.returned (Value.tuple #[.agg (bva z), .bool false])) = Ending.returned RV from by rw [HRV.out, hgv]; rfl)
        go_wp2_with (first
          | (refine wpList_build rfl 38 #[] rfl (v := .agg (bva z)) ?hbld ?_; case hbld => exact HBZ.out _)
          | (refine wpList_store_row rfl 38 (.tmp 6) (.tmp 40) rfl w.heap.size (bva z) rfl rfl 38 (bva z) (HB62.out.below HH.out) HIZ.out (by rfl) (bva_one _) ?_))
        exact bodyPost_ret (v := .tuple #[.agg (bva z), .bool false]) (results_ct8 Try.results93 _ _ w.heap.size 38 (bva z) _ rfl (setRow_heap _ _ _ _ _ _ (HB62.out.below HH.out)) Try.underlying38 rfl HIZ.out) rfl ⟨HEND.out, below_setRow (BW2.out.trans (HH.out.mono BW2.out.size)) (Nat.le_refl _) _⟩
      | true =>
        have HEND := Lib.hid (show (Ending.returned (Value.tuple #[.agg (bva y), .bool true])) = Ending.returned RV from by rw [HRV.out, hgv]; rfl)
        go_wp2_with (first
          | (refine wpList_load_row rfl 38 (.tmp 8) rfl w1.heap.size rfl 38 (bva y) (0, 0) _ (HBX.out.below HH.out) Try.underlying38 rfl HIY.out ?_)
          | (refine wpList_store_row rfl 38 (.tmp 6) (.tmp 41) rfl w.heap.size (bva y) rfl rfl 38 (bva z) (HB62.out.below HH.out) HIY.out (by rw [bva_size, bva_size, HY3.out, HZ3.out]) (bva_one _) ?_))
        exact bodyPost_ret (v := .tuple #[.agg (bva y), .bool true]) (results_ct8 Try.results93 _ _ w.heap.size 38 (bva y) _ rfl (setRow_heap _ _ _ _ _ _ (HB62.out.below HH.out)) Try.underlying38 rfl HIY.out) rfl ⟨HEND.out, below_setRow (BW2.out.trans (HH.out.mono BW2.out.size)) (Nat.le_refl _) _⟩
  · have hd : (r != 0) = true := by simpa using hr0
    have HEND := Lib.hid (show (Ending.returned (Value.tuple #[.agg (bva z), .bool false])) = Ending.returned RV from by rw [HRV.out, show (r == 0) = false by simpa using hr0]; rfl)
    clear hr0
    go_wp2_with fail
    refine wp_region_held_drew (S := fun w' => Below w2.heap.size w2 w') (by kernel_rfl) (Below.refl _ _).drew (fun hh => ?_)
    have HH := Lib.hid hh
    clear hh
    refine wpAnyH_take (i := 0) (v := ?vA0) rfl (by kernel_rfl) (by kernel_rfl) (by kernel_rfl) (fun _ _ _ h => h) (Or.inl ⟨by rfl, fun w' _ => ?yA0⟩) HH.out ?_
    case yA0 => (go_simp; try with_reducible rfl)
    refine wpAnyH_take (i := 1) (v := ?vA1) rfl (by kernel_rfl) (by kernel_rfl) (by kernel_rfl) (fun _ _ _ h => h) (Or.inl ⟨by rfl, fun w' _ => ?yA1⟩) HH.out ?_
    case yA1 => (go_simp; try with_reducible rfl)
    try simp only [List.getElem_toArray, List.getElem_cons_succ, List.getElem_cons_zero, Act.put, List.setIfInBounds_toArray, List.set_cons_zero, List.set_cons_succ]
    refine wpAnyH_take (i := 2) (v := ?vA2) rfl (by kernel_rfl) (by kernel_rfl) (by kernel_rfl) (fun _ _ _ h => h) (Or.inl ⟨by rfl, fun w' _ => ?yA2⟩) HH.out ?_
    case yA2 => (go_simp; try with_reducible rfl)
    refine wpAnyH_take (i := 3) (v := undef) rfl (by kernel_rfl) (by kernel_rfl) (by kernel_rfl) (fun _ _ _ h => h) (Or.inr ⟨by rfl, rfl⟩) HH.out ?_
    refine wpAnyH_take (i := 4) (v := undef) rfl (by kernel_rfl) (by kernel_rfl) (by kernel_rfl) (fun _ _ _ h => h) (Or.inr ⟨by rfl, rfl⟩) HH.out ?_
    try simp only [List.getElem_toArray, List.getElem_cons_succ, List.getElem_cons_zero, Act.put, List.setIfInBounds_toArray, List.set_cons_zero, List.set_cons_succ]
    refine wpAnyH_take (i := 5) (v := undef) rfl (by kernel_rfl) (by kernel_rfl) (by kernel_rfl) (fun _ _ _ h => h) (Or.inr ⟨by rfl, rfl⟩) HH.out ?_
    refine wpAnyH_take (i := 6) (v := undef) rfl (by kernel_rfl) (by kernel_rfl) (by kernel_rfl) (fun _ _ _ h => h) (Or.inr ⟨by rfl, rfl⟩) HH.out ?_
    refine wpAnyH_take (i := 7) (v := undef) rfl (by kernel_rfl) (by kernel_rfl) (by kernel_rfl) (fun _ _ _ h => h) (Or.inr ⟨by rfl, rfl⟩) HH.out ?_
    try simp only [List.getElem_toArray, List.getElem_cons_succ, List.getElem_cons_zero, Act.put, List.setIfInBounds_toArray, List.set_cons_zero, List.set_cons_succ]
    refine wpAnyH_take (i := 8) (v := ?vA8) rfl (by kernel_rfl) (by kernel_rfl) (by kernel_rfl) (fun _ _ _ h => h) (Or.inl ⟨by rfl, fun w' _ => ?yA8⟩) HH.out ?_
    case yA8 => (go_simp; try with_reducible rfl)
    refine wpAnyH_take (i := 9) (v := ?vA9) rfl (by kernel_rfl) (by kernel_rfl) (by kernel_rfl) (fun _ _ _ h => h) (Or.inl ⟨by rfl, fun w' _ => ?yA9⟩) HH.out ?_
    case yA9 => (go_simp; try with_reducible rfl)
    refine wpAnyH_take (i := 10) (v := undef) rfl (by kernel_rfl) (by kernel_rfl) (by kernel_rfl) (fun _ _ _ h => h) (Or.inr ⟨by rfl, rfl⟩) HH.out ?_
    try simp only [List.getElem_toArray, List.getElem_cons_succ, List.getElem_cons_zero, Act.put, List.setIfInBounds_toArray, List.set_cons_zero, List.set_cons_succ]
    refine wpAnyH_take (i := 11) (v := undef) rfl (by kernel_rfl) (by kernel_rfl) (by kernel_rfl) (fun _ _ _ h => h) (Or.inr ⟨by rfl, rfl⟩) HH.out ?_
    refine wpAnyH_take (i := 12) (v := undef) rfl (by kernel_rfl) (by kernel_rfl) (by kernel_rfl) (fun _ _ _ h => h) (Or.inr ⟨by rfl, rfl⟩) HH.out ?_
    refine wpAnyH_take (i := 13) (v := undef) rfl (by kernel_rfl) (by kernel_rfl) (by kernel_rfl) (fun _ _ _ h => h) (Or.inr ⟨by rfl, rfl⟩) HH.out ?_
    try simp only [List.getElem_toArray, List.getElem_cons_succ, List.getElem_cons_zero, Act.put, List.setIfInBounds_toArray, List.set_cons_zero, List.set_cons_succ]
    refine wpAnyH_take (i := 14) (v := undef) rfl (by kernel_rfl) (by kernel_rfl) (by kernel_rfl) (fun _ _ _ h => h) (Or.inr ⟨by rfl, rfl⟩) HH.out ?_
    refine wpAnyH_take (i := 15) (v := undef) rfl (by kernel_rfl) (by kernel_rfl) (by kernel_rfl) (fun _ _ _ h => h) (Or.inr ⟨by rfl, rfl⟩) HH.out ?_
    refine wpAnyH_take (i := 16) (v := undef) rfl (by kernel_rfl) (by kernel_rfl) (by kernel_rfl) (fun _ _ _ h => h) (Or.inr ⟨by rfl, rfl⟩) HH.out ?_
    try simp only [List.getElem_toArray, List.getElem_cons_succ, List.getElem_cons_zero, Act.put, List.setIfInBounds_toArray, List.set_cons_zero, List.set_cons_succ]
    refine wpAnyH_take (i := 17) (v := undef) rfl (by kernel_rfl) (by kernel_rfl) (by kernel_rfl) (fun _ _ _ h => h) (Or.inr ⟨by rfl, rfl⟩) HH.out ?_
    refine wpAnyH_take (i := 18) (v := ?vA18) rfl (by kernel_rfl) (by kernel_rfl) (by kernel_rfl) (fun _ _ _ h => h) (Or.inl ⟨by rfl, fun w' _ => ?yA18⟩) HH.out ?_
    case yA18 => (go_simp; try with_reducible rfl)
    try simp only [List.getElem_toArray, List.getElem_cons_succ, List.getElem_cons_zero, Act.put, List.setIfInBounds_toArray, List.set_cons_zero, List.set_cons_succ]
    refine wpAnyH_done (by kernel_rfl) ?_ _
    go_wp2_with (first
      | (refine wpList_build rfl 38 #[] rfl (v := .agg (bva z)) ?hbld ?_; case hbld => exact HBZ.out _)
      | (refine wpList_store_row rfl 38 (.tmp 6) (.tmp 40) rfl w.heap.size (bva z) rfl rfl 38 (bva z) (HB62.out.below HH.out) HIZ.out (by rfl) (bva_one _) ?_))
    exact bodyPost_ret (v := .tuple #[.agg (bva z), .bool false]) (results_ct8 Try.results93 _ _ w.heap.size 38 (bva z) _ rfl (setRow_heap _ _ _ _ _ _ (HB62.out.below HH.out)) Try.underlying38 rfl HIZ.out) rfl ⟨HEND.out, below_setRow (BW2.out.trans (HH.out.mono BW2.out.size)) (Nat.le_refl _) _⟩
theorem reads_any (h : (ML C G g).At w s F) {i : Nat} (hi : i < 2) (n : Int) : Calls Try.prog 93 #[.pointer (some ⟨g, 0, none⟩), .int .i64 i, .int .i64 n] w (RetB (.tuple #[.agg (bva (rdVal C G s.d i n)), .bool (rdOk C G s.d i n)]) w) := by
  obtain ⟨A, N, c, B, m, e, F1, h, _⟩ := h
  exact reads_r h hi n
/-- What is stale of a device. -/
def Mr.st (s : Mr C) (i : Nat) : List Bool := if i = 0 then s.a else s.b
def right (C : Duo) (G : Gd) (s : Mr C) (i n : Nat) : Bool := !((s.st i).getD n false) && rdOk C G s.d i n
def rightV (C : Duo) (G : Gd) (s : Mr C) (i n : Nat) : List UInt8 := if right C G s i n then (C.rd s.d i n).2 else zeroS
theorem rightV_len (h : (ML C G g).At w s F) {i : Nat} (hi : i < 2) (n : Nat) : (rightV C G s i n).length = 128 := by
  obtain ⟨A, N, c, B, m, e, F1, h, _⟩ := h
  rw [rightV]; split
  · exact C.rd_len h.d hi
  · exact zeroS_length
theorem bs_get {l : List Bool} {n : Nat} (hn : n < l.length) : (bs l)[n]? = some (.bool (l.getD n false)) := by
  rw [bs, List.getElem?_map, List.getElem?_eq_getElem hn, List.getD_eq_getElem?_getD, List.getElem?_eq_getElem hn]; rfl
/-- Of the stale places of a device: its slice in the mirror, and one of its cells. -/
theorem MrR.stale_row {N : Nat} (h : MrR C G g w s A N c B m e F1) {i : Nat} (hi : i < 2) :
    ∃ D k j, w.cell? ⟨g, 2 + i, none⟩ = some (.slice D k j) ∧ (s.st i).length = k ∧ w.ownsRow 0 4 1 (.slice D k j) k (bs (s.st i)) := by
  rcases two hi with rfl | rfl
  · exact ⟨A, N, c, h.blk.cell 2, h.an, h.a⟩
  · exact ⟨B, m, e, h.blk.cell 3, h.bn, h.b⟩
theorem MrR.stale_cell {N : Nat} (h : MrR C G g w s A N c B m e F1) {i n : Nat} (hi : i < 2) (hn : n < (s.st i).length) :
    ∃ q k j, w.cell? ⟨g, 2 + i, none⟩ = some (.slice (some ⟨q, 0, none⟩) k j) ∧ n < k ∧ k ≤ j ∧ j ≤ maxLen ∧ w.cell? ⟨q, n, none⟩ = some (.bool ((s.st i).getD n false)) := by
  obtain ⟨D, k, j, h1, h2, h3⟩ := h.stale_row hi
  obtain ⟨h4, h5⟩ := own_cap h3
  obtain ⟨ad, hA, _, hc⟩ := Rd.ownN h3 n _ (bs_get hn)
  rcases h3.2 with ⟨_, h6⟩ | ⟨q, cap, _, h6, _⟩
  · omega
  · injection h6 with h6 _ _
    subst h6
    injection hA with hA
    subst hA
    rw [Addr.add_mid, Nat.zero_add] at hc
    exact ⟨q, k, j, h1, by omega, h4, h5, hc⟩
set_option maxRecDepth 100000 in
set_option maxHeartbeats 6400000 in
theorem right_any (h : (ML C G g).At w s F) {i n : Nat} (hi : i < 2) (hn : n < (s.st i).length) :
    Calls Try.prog 90 #[.pointer (some ⟨g, 0, none⟩), .int .i64 i, .int .i64 n] w (RetB (.tuple #[.agg (bva (rightV C G s i n)), .bool (right C G s i n)]) w) := by
  have H := Lib.hid h
  have HI := Lib.hid hi
  have i0 : (0 : Int) ≤ (i : Int) := by omega
  have i1 : (i : Int) < 2 := by omega
  obtain ⟨A, N, c, B, m, e, F1, h, h1, h2⟩ := h
  obtain ⟨q, k, j, hc2, hk, hkj, hj, hq⟩ := h.stale_cell hi hn
  have hgl := h.blk.lt
  obtain ⟨z, hz0⟩ : ∃ z : List UInt8, z = zeroS := ⟨_, rfl⟩
  have hz : ∀ W, (zeroValue 38).run Try.prog W = .ok (.agg (bva z)) W := fun _ => by rw [hz0]; kernel_rfl
  have HBZ := Lib.hid (show ∀ W, (Instr.build 38 #[]).run Try.prog W = .ok (.agg (bva z)) W from fun _ => by rw [hz0]; kernel_rfl)
  have HZ3 := Lib.hid (show z.length = 128 by rw [hz0]; exact zeroS_length)
  have HIZ : Hid ((Try.prog.info? 38).map (·.size) = some (bva z).size) := by rw [bva_size, HZ3.out]; exact info_sec
  obtain ⟨y, hy⟩ : ∃ y, y = rdVal C G s.d i n := ⟨_, rfl⟩
  have HY3 := Lib.hid (show y.length = 128 by rw [hy, rdVal]; split; exact C.rd_len h.d hi; exact zeroS_length)
  have HIY : Hid ((Try.prog.info? 38).map (·.size) = some (bva y).size) := by rw [bva_size, HY3.out]; exact info_sec
  have R0 := Lib.hid (show Blk (w.alloc (.cells (bva z) 38)) w.heap.size (bva z) 38 from heap_alloc_new _ _)
  have hw1 : Below w.heap.size w (w.alloc (.cells (bva z) 38)) := (Below.refl _ _).alloc (Nat.le_refl _) _
  have HCR := Lib.hid (reads_any ((ML C G g).below H.out hw1) hi n)
  obtain ⟨o, ho⟩ : ∃ o, o = rdOk C G s.d i n := ⟨_, rfl⟩
  rw [← hy, ← ho] at HCR
  obtain ⟨t, ht⟩ : ∃ t, t = (s.st i).getD n false := ⟨_, rfl⟩
  rw [← ht] at hq
  have HV := Lib.hid (show Value.tuple #[.agg (bva (rightV C G s i n)), .bool (right C G s i n)] = if t then .tuple #[.agg (bva z), .bool false] else .tuple #[.agg (bva y), .bool o] by
    rw [rightV, right, ← ht, ho, hy, rdVal]
    cases t
    · cases rdOk C G s.d i n
      · simp
      · simp
    · simp [hz0])
  have hql := block_lt_of_cell hq
  have n0 : (0 : Int) ≤ (n : Int) := by omega
  have n1 : (n : Int) < (k : Int) := by omega
  have c2 : (w.alloc (.cells (bva z) 38)).cell? ⟨g, 2 + i, none⟩ = some (.slice (some ⟨q, 0, none⟩) k j) := by rw [hw1.cell hgl]; exact hc2
  have cq : (w.alloc (.cells (bva z) 38)).cell? ⟨q, n, none⟩ = some (.bool t) := by rw [hw1.cell hql]; exact hq
  rw [HV.out]
  have HK := Lib.hid hk
  have HJ := Lib.hid (show k ≤ j ∧ j ≤ maxLen from ⟨hkj, hj⟩)
  clear h h1 h2 hz0 hy ho ht hc2 hq hn hi hw1 hgl hql hk hkj hj HV H
  cases t
  · go_enter Try.func90, Try.ntmps90
    go_wp2_with fail
    refine HCR.out.mono ?_
    rintro e2 w2 ⟨rfl, bw⟩
    rw [World.size_alloc] at bw
    have R2 := Lib.hid (R0.out.below (by rw [World.size_alloc]; exact bw))
    have B2 := Lib.hid (show Below w.heap.size w w2 from ((Below.refl _ _).alloc (Nat.le_refl _) _).trans (bw.mono (Nat.le_succ _)))
    clear bw c2 cq
    go_wp2_with (refine wpList_store_row rfl 38 (.tmp 6) (.tmp 22) rfl w.heap.size (bva y) rfl rfl 38 (bva z) R2.out HIY.out (by rw [bva_size, bva_size, HY3.out, HZ3.out]) (bva_one _) ?_)
    exact bodyPost_ret (v := .tuple #[.agg (bva y), .bool o]) (results_ct8 Try.results90 _ _ w.heap.size 38 (bva y) _ rfl (setRow_heap _ _ _ _ _ _ R2.out) Try.underlying38 rfl HIY.out) rfl ⟨rfl, below_setRow B2.out (Nat.le_refl _) _⟩
  · go_enter Try.func90, Try.ntmps90
    go_wp2_with (first
      | (refine wpList_build rfl 38 #[] rfl (v := .agg (bva z)) ?hbld ?_; case hbld => exact HBZ.out _)
      | (refine wpList_store_row rfl 38 (.tmp 6) (.tmp 17) rfl w.heap.size (bva z) rfl rfl 38 (bva z) R0.out HIZ.out (by rfl) (bva_one _) ?_))
    exact bodyPost_ret (v := .tuple #[.agg (bva z), .bool false]) (results_ct8 Try.results90 _ _ w.heap.size 38 (bva z) _ rfl (setRow_heap _ _ _ _ _ _ R0.out) Try.underlying38 rfl HIZ.out) rfl ⟨rfl, below_setRow ((Below.refl _ _).alloc (Nat.le_refl _) _) (Nat.le_refl _) _⟩
end
end Go.Proofs.Ytgfldfofiglefaa.Mi
/-
  The contract of each: a function is asked of 0, and then of 1.
-/
namespace Go.Proofs.Ytgfldfofiglefaa.Mi
open Go.RowKit Kd
attribute [local go_sem ↓] Go.wp_at_zero Go.wp_at_succ
def two2 (a b : Bool) : Array Value := #[.bool a, .bool b]
theorem two2_one (a b : Bool) : (two2 a b).all (·.oneCell') = true := by simp [two2, Value.oneCell']
set_option maxRecDepth 100000 in
set_option maxHeartbeats 6400000 in
theorem each_any {L : Laid} {w : World} {s : L.St} {F : Nat → Prop} (h : L.At w s F) {k : Nat} {b c : Array Value} {x y : Bool} {s1 s2 : L.St} (hC : ∀ (args : Array Value) (W : World), (callFunc k args).run Try.prog W = .ok (.enter k args) W)
    (h0 : ∀ w F, L.At w s F → Calls Try.prog k (b ++ #[.int .i64 0] ++ c) w (RetA L (.bool x) s1 F w))
    (h1 : ∀ w F, L.At w s1 F → Calls Try.prog k (b ++ #[.int .i64 1] ++ c) w (RetA L (.bool y) s2 F w)) :
    Calls Try.prog 73 #[.func (.func k) b c] w (RetA L (.agg (two2 x y)) s2 F w) := by
  have H := Lib.hid h
  have H0 := Lib.hid h0
  have H1 := Lib.hid h1
  clear h h0 h1
  go_enter Try.func73, Try.ntmps73
  go_wp2_with fail
  obtain ⟨w0, hw0⟩ : ∃ w0, w0 = w.alloc (.cells #[.bool false, .bool false] 50) := ⟨_, rfl⟩
  have HM0 := Lib.hid (show Mv L w F w0 s F from (Mv.start H.out).below (by rw [hw0]; exact (Below.refl _ _).alloc (Nat.le_refl _) _))
  have HB0 := Lib.hid (show Bx w w0 F w.heap.size (two2 false false) 50 from ⟨by rw [hw0]; exact heap_alloc_new _ _, Nat.le_refl _, fun hf => by have := L.lt H.out _ hf; omega⟩)
  rw [← hw0]
  clear hw0
  obtain ⟨bx, hbx⟩ : ∃ bx, bx = w.heap.size := ⟨_, rfl⟩
  rw [← hbx] at HB0
  rw [← hbx]
  clear hbx
  go_loopw [4] (fun i wr => ∃ (j : Nat) (F' : Nat → Prop) (s' : L.St) (p q : Bool), i = .int .i64 j ∧ Mv L w F wr s' F' ∧ Bx w wr F' bx (two2 p q) 50 ∧ ((j = 0 ∧ s' = s ∧ p = false ∧ q = false) ∨ (j = 1 ∧ s' = s1 ∧ p = x ∧ q = false) ∨ (j = 2 ∧ s' = s2 ∧ p = x ∧ q = y))) (fun i _ => 2 - (intOf i).toNat)
  case atStart => exact ⟨0, F, s, false, false, rfl, HM0.out, HB0.out, .inl ⟨rfl, rfl, rfl, rfl⟩⟩
  case round =>
    clear HM0 HB0
    obtain ⟨j, F', s', p, q, rfl, hm, hb, hj⟩ := hrel
    have HM := Lib.hid hm
    have HB := Lib.hid hb
    clear hm hb
    rcases hj with ⟨rfl, rfl, rfl, rfl⟩ | ⟨rfl, rfl, rfl, rfl⟩ | ⟨rfl, rfl, rfl, rfl⟩
    · go_wp2_with fail
      refine (H0.out _ _ HM.out.at_).mono ?_
      rintro e w1 ⟨rfl, F2, hm2⟩
      have HM2 := Lib.hid (HM.out.trans hm2)
      have HB2 := Lib.hid (HB.out.step hm2)
      clear hm2
      have c0 := HB2.out.1.cell 0
      have f0 := HB2.out.1.free 0
      go_wp2_with fail
      go_roundw
      case rel => exact ⟨1, F2, s1, x, false, rfl, HM2.out.own (but_one _) (fun q e => by rw [e]; exact HB2.out.2.1) (fun q hq e => HB2.out.2.2 (e ▸ hq)), ⟨blk_setN8 HB2.out.1 0 _, HB2.out.2⟩, .inr (.inl ⟨rfl, rfl, rfl, rfl⟩)⟩
      case measure => simp [intOf]
    · go_wp2_with fail
      refine (H1.out _ _ HM.out.at_).mono ?_
      rintro e w1 ⟨rfl, F2, hm2⟩
      have HM2 := Lib.hid (HM.out.trans hm2)
      have HB2 := Lib.hid (HB.out.step hm2)
      clear hm2
      have c0 := HB2.out.1.cell 1
      have f0 := HB2.out.1.free 1
      go_wp2_with fail
      go_roundw
      case rel => exact ⟨2, F2, s2, p, y, rfl, HM2.out.own (but_one _) (fun q e => by rw [e]; exact HB2.out.2.1) (fun q hq e => HB2.out.2.2 (e ▸ hq)), ⟨blk_setN8 HB2.out.1 1 _, HB2.out.2⟩, .inr (.inr ⟨rfl, rfl, rfl, rfl⟩)⟩
      case measure => simp [intOf]
    · have HI : Hid ((Try.prog.info? 50).map (·.size) = some (two2 p q).size) := by show _ = _; kernel_rfl
      go_wp2_with (first
        | (refine wpList_load_row rfl 50 (.tmp 2) rfl bx rfl 50 (two2 p q) (0, 0) _ HB.out.1 Try.underlying50 rfl HI.out ?_)
        | (refine wpList_store_row rfl 50 (.tmp 2) (.tmp 13) rfl bx (two2 p q) rfl rfl 50 (two2 p q) HB.out.1 HI.out (by rfl) (two2_one _ _) ?_))
      exact bodyPost_ret (v := .agg (two2 p q)) (results_cell_row Try.results73 _ _ bx 50 (two2 p q) (0, 0) _ rfl (setRow_heap _ _ _ _ _ _ HB.out.1) Try.underlying50 rfl HI.out) rfl ⟨rfl, F', HM.out.own (But.setRow (S := fun q => q = bx) (But.refl _) (.inl rfl) _) (fun q e => by rw [e]; exact HB.out.2.1) (fun q hq e => HB.out.2.2 (e ▸ hq))⟩
end Go.Proofs.Ytgfldfofiglefaa.Mi
/-
  The contracts of whole, Len, has, count, Stale, healed.
-/
namespace Go.Proofs.Ytgfldfofiglefaa.Mi
open Go.RowKit Kd
attribute [local go_sem ↓] Go.wp_at_zero Go.wp_at_succ
section
variable {C : Duo} {G : Gd} {g : Nat} {w : World} {s : Mr C} {A B : Option Addr} {n c m e : Nat} {F1 F : Nat → Prop}
theorem there_enter (args : Array Value) (W : World) : (callFunc 74 args).run Try.prog W = .ok (.enter 74 args) W := by kernel_rfl
theorem flush_enter (args : Array Value) (W : World) : (callFunc 88 args).run Try.prog W = .ok (.enter 88 args) W := by kernel_rfl
theorem each_there (h : (ML C G g).At w s F) : Calls Try.prog 73 #[.func (.func 74) #[.pointer (some ⟨g, 0, none⟩)] #[]] w (RetA (ML C G g) (.agg (two2 (C.there s.d 0) (C.there s.d 1))) s F w) :=
  each_any h there_enter (fun _ _ h => (there_any h (i := 0) (by omega)).mono fun _ _ hr => RetB.reta h hr) (fun _ _ h => (there_any h (i := 1) (by omega)).mono fun _ _ hr => RetB.reta h hr)
theorem eq_two (a b c d : Bool) (W : World) : (Op.equalIn 10000 50 (.agg (two2 a b)) (.agg (two2 c d))).run Try.prog W = .ok ((a == c) && (b == d)) W := by
  cases a <;> cases b <;> cases c <;> cases d <;> kernel_rfl
theorem eq_ff (a b : Bool) (W : World) : (Op.equalIn 10000 50 (.agg (two2 a b)) (.agg #[.bool false, .bool false])).run Try.prog W = .ok (!(a || b)) W := by
  cases a <;> cases b <;> kernel_rfl
theorem build_tt (W : World) : (Instr.build 50 #[(0, .bool true), (1, .bool true)]).run Try.prog W = .ok (.agg (two2 true true)) W := by kernel_rfl
theorem build_ff (W : World) : (Instr.build 50 #[]).run Try.prog W = .ok (.agg (two2 false false)) W := by kernel_rfl
set_option maxRecDepth 100000 in
set_option maxHeartbeats 3200000 in
theorem whole_any (h : (ML C G g).At w s F) : Calls Try.prog 86 #[.pointer (some ⟨g, 0, none⟩)] w (RetA (ML C G g) (.bool (C.there s.d 0 && C.there s.d 1)) s F w) := by
  obtain ⟨p, hp⟩ : ∃ p, p = C.there s.d 0 := ⟨_, rfl⟩
  obtain ⟨q, hq⟩ : ∃ q, q = C.there s.d 1 := ⟨_, rfl⟩
  have hc := each_there h
  rw [← hp, ← hq] at hc
  rw [← hp, ← hq]
  have HC := Lib.hid hc
  clear h hp hq hc
  have hE := eq_two
  have HV := Lib.hid (show ((p == true) && (q == true)) = (p && q) by cases p <;> cases q <;> rfl)
  go_enter Try.func86, Try.ntmps86
  go_wp2_with fail
  refine HC.out.mono ?_
  rintro e w1 ⟨rfl, F', hm⟩
  have HM := Lib.hid hm
  clear hm
  go_wp2_with (refine wpList_build rfl 50 #[(0, .const (.bool true)), (1, .const (.bool true))] rfl (v := .agg (two2 true true)) ?hbld ?_; case hbld => (simp only [List.map_toArray, List.map_cons, List.map_nil]; exact build_tt _))
  cases p <;> cases q <;> (go_ret; exact ⟨by rfl, F', HM.out⟩)
theorem mlen_nil (w : World) : Calls Try.prog 31 #[.pointer none] w (RetB (.int .i64 0) w) := by
  go_enter Try.func31, Try.ntmps31
  go_wp2_with fail
  go_ret
  exact ⟨rfl, Below.refl _ _⟩
theorem mlen_any (h : (ML C G g).At w s F) : Calls Try.prog 31 #[.pointer (some ⟨g, 0, none⟩)] w (RetB (.int .i64 s.a.length) w) := by
  obtain ⟨A, N, c, B, m, e, F1, h, _⟩ := h
  have c2 : w.cell? ⟨g, 2, none⟩ = some (.slice A N c) := h.blk.cell 2
  rw [h.an]
  clear h
  go_enter Try.func31, Try.ntmps31
  go_wp2_with fail
  go_ret
  exact ⟨rfl, Below.refl _ _⟩
/-- Is there such a place? -/
def has (s : Mr C) (n : Int) : Bool := decide (0 ≤ n) && decide (n < s.a.length)
theorem has_len {P : Value} {k : Nat} (hl : Calls Try.prog 31 #[P] w (RetB (.int .i64 k) w)) (n : Int) : Calls Try.prog 89 #[P, .int .i64 n] w (RetB (.bool (decide (0 ≤ n) && decide (n < k))) w) := by
  have HL := Lib.hid hl
  clear hl
  by_cases h0 : 0 ≤ n
  · have d0 : decide (n ≥ 0) = true := decide_eq_true h0
    have HV := Lib.hid (show (decide (0 ≤ n) && decide (n < k)) = decide (n < k) by rw [decide_eq_true h0, Bool.true_and])
    rw [HV.out]
    clear h0 HV
    go_enter Try.func89, Try.ntmps89
    go_wp2_with fail
    refine HL.out.mono ?_
    rintro e w1 ⟨rfl, bw⟩
    go_wp2_with fail
    go_ret
    exact ⟨by rfl, bw⟩
  · have d0 : decide (n ≥ 0) = false := decide_eq_false h0
    have HV := Lib.hid (show (decide (0 ≤ n) && decide (n < k)) = false by rw [decide_eq_false h0, Bool.false_and])
    rw [HV.out]
    clear h0 HV
    go_enter Try.func89, Try.ntmps89
    go_wp2_with fail
    go_ret
    exact ⟨by rfl, Below.refl _ _⟩
theorem has_any (h : (ML C G g).At w s F) (n : Int) : Calls Try.prog 89 #[.pointer (some ⟨g, 0, none⟩), .int .i64 n] w (RetB (.bool (has s n)) w) := has_len (mlen_any h) n
theorem has_nil (w : World) (n : Int) : Calls Try.prog 89 #[.pointer none, .int .i64 n] w (RetB (.bool false) w) := by
  have h := has_len (k := 0) (mlen_nil w) n
  rwa [show (decide (0 ≤ n) && decide (n < (0 : Nat))) = false by by_cases h : 0 ≤ n; rw [decide_eq_false (by omega : ¬ n < ((0 : Nat) : Int)), Bool.and_false]; rw [decide_eq_false h, Bool.false_and]] at h
theorem healed_ok (w : World) : Calls Try.prog 91 #[.int .i64 0] w (Ret0 (.tuple #[.int .i64 1, .int .i64 0]) w) := by
  go_enter Try.func91, Try.ntmps91
  go_wp2_with fail
  exact bodyPost_ret (results_tmp2 Try.results91 _ _ _) rfl ⟨rfl, rfl⟩
theorem healed_no (w : World) (x : Int) (hx : x ≠ 0) : Calls Try.prog 91 #[.int .i64 x] w (Ret0 (.tuple #[.int .i64 0, .int .i64 x]) w) := by
  go_enter Try.func91, Try.ntmps91
  go_wp2_with fail
  exact bodyPost_ret (results_tmp2 Try.results91 _ _ _) rfl ⟨rfl, rfl⟩
/-- How many are true. -/
def cnt (l : List Bool) : Nat := (l.filter id).length
theorem cnt_take {l : List Bool} {k : Nat} (hk : k < l.length) : cnt (l.take (k + 1)) = cnt (l.take k) + if l.getD k false then 1 else 0 := by
  rw [cnt, List.take_succ_eq_append_getElem hk, List.filter_append, List.length_append, List.getD_eq_getElem?_getD, List.getElem?_eq_getElem hk]
  show _ = cnt _ + if l[k] then 1 else 0
  cases l[k] <;> rfl
theorem cnt_le (l : List Bool) : cnt l ≤ l.length := List.length_filter_le _ _
set_option maxRecDepth 100000 in
set_option maxHeartbeats 3200000 in
theorem count_any {D : Option Addr} {k j : Nat} {l : List Bool} (h : w.ownsRow 0 4 1 (.slice D k j) k (bs l)) (hl : l.length = k) : Calls Try.prog 115 #[.slice D k j] w (RetB (.int .i64 (cnt l)) w) := by
  have H := Lib.hid h
  have HL := Lib.hid hl
  have HC := Lib.hid (own_cap h)
  clear h hl
  go_enter Try.func115, Try.ntmps115
  go_wp2_with fail
  go_loopw [2, 7] (fun x i wr => ∃ p : Nat, p ≤ k ∧ i = .int .i64 p ∧ x = .int .i64 (cnt (l.take p)) ∧ wr = w) (fun _ i _ => k - (intOf i).toNat)
  case atStart => exact ⟨0, Nat.zero_le _, rfl, by rfl, rfl⟩
  case round =>
    obtain ⟨p, hp, rfl, rfl, rfl⟩ := hrel
    have HP := Lib.hid hp
    clear hp
    by_cases hlt : p < k
    · have HPL := Lib.hid hlt
      obtain ⟨ad, hA, _, hc⟩ := Rd.ownN H.out p _ (bs_get (show p < l.length by rw [HL.out]; exact hlt))
      subst hA
      have HT := Lib.hid (cnt_take (show p < l.length by rw [HL.out]; exact hlt))
      have k0 : (0 : Int) ≤ (p : Int) := by omega
      have k1 : (p : Int) < (k : Int) := by omega
      have hmx := HC.out
      have wp1 : IntKind.i64.wrap ((p : Int) + 1) = ((p + 1 : Nat) : Int) := IntWalk.i64_in _ (by unfold maxLen at hmx; omega)
      obtain ⟨q, hq⟩ : ∃ q, q = cnt (l.take p) := ⟨_, rfl⟩
      have hqb : q ≤ p := by rw [hq]; exact Nat.le_trans (cnt_le _) (by rw [List.length_take]; omega)
      have wq1 : IntKind.i64.wrap ((q : Int) + 1) = ((q + 1 : Nat) : Int) := IntWalk.i64_in _ (by unfold maxLen at hmx; omega)
      rw [← hq] at HT
      obtain ⟨b, hb⟩ : ∃ b, b = l.getD p false := ⟨_, rfl⟩
      rw [← hb] at hc HT
      rw [← hq]
      clear hq hb hmx hlt hqb
      cases b
      · go_wp2_with fail
        go_roundw
        case rel => exact ⟨p + 1, HPL.out, by go_num, by rw [HT.out]; rfl, by first | rfl | trivial⟩
        case measure => (have := HPL.out; simp [intOf]; omega)
      · go_wp2_with fail
        go_roundw
        case rel => exact ⟨p + 1, HPL.out, by go_num, by rw [HT.out]; rfl, by first | rfl | trivial⟩
        case measure => (have := HPL.out; simp [intOf]; omega)
    · obtain rfl : p = k := by have := HP.out; omega
      have HV := Lib.hid (show l.take p = l by rw [← HL.out, List.take_length])
      rw [HV.out]
      clear hlt
      go_wp2_with fail
      go_ret
      exact ⟨rfl, Below.refl _ _⟩
theorem stale_nil (w : World) : Calls Try.prog 84 #[.pointer none] w (RetB (.tuple #[.int .i64 0, .int .i64 0]) w) := by
  go_enter Try.func84, Try.ntmps84
  go_wp2_with fail
  exact bodyPost_ret (results_tmp2 Try.results84 _ _ _) rfl ⟨rfl, Below.refl _ _⟩
set_option maxRecDepth 100000 in
set_option maxHeartbeats 3200000 in
theorem stale_any (h : (ML C G g).At w s F) : Calls Try.prog 84 #[.pointer (some ⟨g, 0, none⟩)] w (RetB (.tuple #[.int .i64 (cnt s.a), .int .i64 (cnt s.b)]) w) := by
  obtain ⟨A, N, c, B, m, e, F1, h, _⟩ := h
  have H := Lib.hid h
  have c2 : w.cell? ⟨g, 2, none⟩ = some (.slice A N c) := h.blk.cell 2
  have c3 : w.cell? ⟨g, 3, none⟩ = some (.slice B m e) := h.blk.cell 3
  have HC2 := Lib.hid (show ∀ w', Below w.heap.size w w' → w'.cell? ⟨g, 2, none⟩ = some (.slice A N c) from fun w' hb => by rw [hb.cell h.blk.lt]; exact c2)
  have HC3 := Lib.hid (show ∀ w', Below w.heap.size w w' → w'.cell? ⟨g, 3, none⟩ = some (.slice B m e) from fun w' hb => by rw [hb.cell h.blk.lt]; exact c3)
  clear h c2 c3
  go_enter Try.func84, Try.ntmps84
  go_wp2_with fail
  refine wp_region_held_drew (S := fun w' => Below w.heap.size w w') (by kernel_rfl) (Below.refl _ _).drew (fun hh => ?_)
  have HH := Lib.hid hh
  clear hh
  refine wpAnyH_take (i := 0) (v := ?vS0) rfl (by kernel_rfl) (by kernel_rfl) (by kernel_rfl) (fun _ _ _ h => h) (Or.inl ⟨by rfl, fun w' _ => ?yS0⟩) HH.out ?_
  case yS0 => (go_simp; try with_reducible rfl)
  refine wpAnyH_take (i := 1) (v := ?vS1) rfl (by kernel_rfl) (by kernel_rfl) (by kernel_rfl) (fun _ _ _ h => h) (Or.inl ⟨by rfl, fun w' _ => ?yS1⟩) HH.out ?_
  case yS1 => (go_simp; try with_reducible rfl)
  try simp only [List.getElem_toArray, List.getElem_cons_succ, List.getElem_cons_zero, Act.put, List.setIfInBounds_toArray, List.set_cons_zero, List.set_cons_succ]
  refine wpAnyH_take (i := 2) (v := ?vS2) rfl (by kernel_rfl) (by kernel_rfl) (by kernel_rfl) (fun _ _ _ h => h) (Or.inl ⟨by rfl, fun w' _ => ?yS2⟩) HH.out ?_
  case yS2 => (go_simp; try with_reducible rfl)
  refine wpAnyH_take (i := 3) (v := ?vS3) rfl (by kernel_rfl) (by kernel_rfl) (by kernel_rfl) (fun _ _ _ h => h) (Or.inl ⟨by rfl, fun w' _ => ?yS3⟩) HH.out ?_
  case yS3 => (go_simp; try with_reducible rfl)
  refine wpAnyH_take (i := 4) (v := .slice A N c) rfl (by kernel_rfl) (by kernel_rfl) (by kernel_rfl) (fun _ _ _ h => h) (Or.inl ⟨by rfl, fun w' hw' => ?yS4⟩) HH.out ?_
  case yS4 => (have hc := HC2.out w' hw'; go_simp; try with_reducible rfl)
  try simp only [List.getElem_toArray, List.getElem_cons_succ, List.getElem_cons_zero, Act.put, List.setIfInBounds_toArray, List.set_cons_zero, List.set_cons_succ]
  refine wpAnyH_take (i := 6) (v := ?vS6) rfl (by kernel_rfl) (by kernel_rfl) (by kernel_rfl) (fun _ _ _ h => h) (Or.inl ⟨by rfl, fun w' _ => ?yS6⟩) HH.out ?_
  case yS6 => (go_simp; try with_reducible rfl)
  refine wpAnyH_take (i := 7) (v := ?vS7) rfl (by kernel_rfl) (by kernel_rfl) (by kernel_rfl) (fun _ _ _ h => h) (Or.inl ⟨by rfl, fun w' _ => ?yS7⟩) HH.out ?_
  case yS7 => (go_simp; try with_reducible rfl)
  refine wpAnyH_take (i := 8) (v := ?vS8) rfl (by kernel_rfl) (by kernel_rfl) (by kernel_rfl) (fun _ _ _ h => h) (Or.inl ⟨by rfl, fun w' _ => ?yS8⟩) HH.out ?_
  case yS8 => (go_simp; try with_reducible rfl)
  try simp only [List.getElem_toArray, List.getElem_cons_succ, List.getElem_cons_zero, Act.put, List.setIfInBounds_toArray, List.set_cons_zero, List.set_cons_succ]
  refine wpAnyH_take (i := 9) (v := ?vS9) rfl (by kernel_rfl) (by kernel_rfl) (by kernel_rfl) (fun _ _ _ h => h) (Or.inl ⟨by rfl, fun w' _ => ?yS9⟩) HH.out ?_
  case yS9 => (go_simp; try with_reducible rfl)
  refine wpAnyH_take (i := 10) (v := .slice B m e) rfl (by kernel_rfl) (by kernel_rfl) (by kernel_rfl) (fun _ _ _ h => h) (Or.inl ⟨by rfl, fun w' hw' => ?yS10⟩) HH.out ?_
  case yS10 => (have hc := HC3.out w' hw'; go_simp; try with_reducible rfl)
  try simp only [List.getElem_toArray, List.getElem_cons_succ, List.getElem_cons_zero, Act.put, List.setIfInBounds_toArray, List.set_cons_zero, List.set_cons_succ]
  refine wpAnyH_ready (rs := [5]) (by kernel_rfl) (by simp) (AllReadyH.cons rfl (fun K hK => ?_) AllReadyH.nil)
  go_simp
  refine (count_any (own_belowN H.out.a HH.out) H.out.an).mono ?_
  rintro e1 w1 ⟨rfl, bw1⟩
  go_simp
  refine hK.out _ _ (HH.out.trans (bw1.mono HH.out.size)) (fun hh => ?_)
  have HH' := Lib.hid hh
  clear hh hK K HH bw1
  have HH := Lib.hid HH'.out
  clear HH'
  try simp only [List.getElem_toArray, List.getElem_cons_succ, List.getElem_cons_zero, Act.put, List.setIfInBounds_toArray, List.set_cons_zero, List.set_cons_succ]
  refine wpAnyH_ready (rs := [11]) (by kernel_rfl) (by simp) (AllReadyH.cons rfl (fun K hK => ?_) AllReadyH.nil)
  go_simp
  refine (count_any (own_belowN H.out.b HH.out) H.out.bn).mono ?_
  rintro e2 w2 ⟨rfl, bw2⟩
  go_simp
  refine hK.out _ _ (HH.out.trans (bw2.mono HH.out.size)) (fun hh => ?_)
  have HH' := Lib.hid hh
  clear hh hK K HH bw2
  have HH := Lib.hid HH'.out
  clear HH'
  refine wpAnyH_take (i := 12) (v := ?vS12) rfl (by kernel_rfl) (by kernel_rfl) (by kernel_rfl) (fun _ _ _ h => h) (Or.inl ⟨by rfl, fun w' _ => ?yS12⟩) HH.out ?_
  case yS12 => (go_simp; try with_reducible rfl)
  refine wpAnyH_take (i := 13) (v := ?vS13) rfl (by kernel_rfl) (by kernel_rfl) (by kernel_rfl) (fun _ _ _ h => h) (Or.inl ⟨by rfl, fun w' _ => ?yS13⟩) HH.out ?_
  case yS13 => (go_simp; try with_reducible rfl)
  try simp only [List.getElem_toArray, List.getElem_cons_succ, List.getElem_cons_zero, Act.put, List.setIfInBounds_toArray, List.set_cons_zero, List.set_cons_succ]
  refine wpAnyH_done (by kernel_rfl) ?_ _
  go_wp2_with fail
  exact bodyPost_ret (results_tmp2 Try.results84 _ _ _) rfl ⟨rfl, HH.out⟩
end
end Go.Proofs.Ytgfldfofiglefaa.Mi
/-
  What is stale is told anew; the contract of mend.
-/
namespace Go.Proofs.Ytgfldfofiglefaa.Mi
open Go.RowKit Kd
attribute [local go_sem ↓] Go.wp_at_zero Go.wp_at_succ
section
variable {C : Duo} {G : Gd} {g : Nat} {w w1 : World} {s : Mr C} {A B : Option Addr} {N c m e : Nat} {F1 F : Nat → Prop}
def Mr.put (s : Mr C) (i n : Nat) (v : Bool) : Mr C := if i = 0 then ⟨s.d, s.a.set n v, s.b⟩ else ⟨s.d, s.a, s.b.set n v⟩
def Mr.dev (s : Mr C) (d : C.L.St) : Mr C := ⟨d, s.a, s.b⟩
/-- Of each device as many places. -/
def Mr.ok (s : Mr C) (k : Nat) : Prop := s.a.length = k ∧ s.b.length = k
theorem Mr.ok.st {k i : Nat} (h : s.ok k) : (s.st i).length = k := by unfold Mr.st; split; exact h.1; exact h.2
theorem Mr.ok.put {k i n : Nat} {v : Bool} (h : s.ok k) : (s.put i n v).ok k := by
  unfold Mr.put; split
  · exact ⟨by simpa using h.1, h.2⟩
  · exact ⟨h.1, by simpa using h.2⟩
theorem Mr.ok.dev {k : Nat} {d : C.L.St} (h : s.ok k) : (s.dev d).ok k := h
theorem put_d {i n : Nat} {v : Bool} : (s.put i n v).d = s.d := by unfold Mr.put; split <;> rfl
theorem own_cell1 {base q N j n : Nat} {e : TypeId} {xs : List Value} {v : Value} (ho : w.ownsRow base e 1 (.slice (some ⟨q, 0, none⟩) N j) N xs) : (w.setCell ⟨q, n, none⟩ v).ownsRow base e 1 (.slice (some ⟨q, 0, none⟩) N j) N (xs.set n v) := by
  refine ⟨by rw [List.length_set]; exact ho.1, ?_⟩
  rcases ho.2 with ⟨h0, _⟩ | ⟨g, cap, cur, h0, h1, h2, h3, h4, h5, h6⟩
  · cases h0
  · injection h0 with h0 _ h7
    injection h0 with h0
    injection h0 with h0
    subst h0 h7
    refine .inr ⟨q, j, cur.setIfInBounds n v, rfl, h1, heap_setCell_same _ _ _ _ _ _ h2, h3, h4, by rw [Array.size_setIfInBounds]; exact h5, ?_⟩
    rw [Array.toList_setIfInBounds, List.take_set, h6]
theorem bs_set (l : List Bool) (n : Nat) (v : Bool) : (bs l).set n (.bool v) = bs (l.set n v) := by rw [bs, bs, List.map_set]
/-- Of the stale places of a device: its slice, and what a store in it makes of the mirror. -/
theorem MrR.set_stale (h : MrR C G g w s A N c B m e F1) (h1 : ∀ q, mrF G g A N c B m e F1 q → F q) (h2 : ∀ q, F q → q < w.heap.size) {i n : Nat} (hi : i < 2) (hn : n < (s.st i).length) :
    ∃ q k j, w.cell? ⟨g, 2 + i, none⟩ = some (.slice (some ⟨q, 0, none⟩) k j) ∧ n < k ∧ k ≤ j ∧ j ≤ maxLen ∧ w.cell? ⟨q, n, none⟩ = some (.bool ((s.st i).getD n false)) ∧ w.frozen? ⟨q, n, none⟩ = false ∧ ∀ v, Mv (ML C G g) w F (w.setCell ⟨q, n, none⟩ (.bool v)) (s.put i n v) F := by
  obtain ⟨q, k, j, hc, hk, hkj, hj, hq⟩ := h.stale_cell hi hn
  obtain ⟨ra, rb⟩ := h.rows
  rcases two hi with rfl | rfl
  · have hc' : w.cell? ⟨g, 2, none⟩ = some (.slice A N c) := h.blk.cell 2
    rw [show 2 + 0 = 2 from rfl, hc'] at hc
    injection hc with hc
    injection hc with e1 e2 e3
    subst e1 e2 e3
    obtain ⟨cur, hcur⟩ := row_type h.a q rfl
    refine ⟨q, N, c, h.blk.cell 2, hk, hkj, hj, hq, Blk.free (show Blk w q cur 4 from hcur) n, fun v => ?_⟩
    have hT : But (fun x => x = q) w (w.setCell ⟨q, n, none⟩ (.bool v)) := but_one _
    refine ⟨⟨some ⟨q, 0, none⟩, N, c, B, m, e, F1, ⟨h.blk.but hT (fun x => ra q rfl x.symm), ?_, Own.but h.b hT (fun x hx hx' => h.apart x (by rw [hx']; rfl) hx), ?_, h.bn, C.L.but h.d hT (fun x hx hx' => h.aa q rfl (hx' ▸ hx)), h.ag, h.aa, h.ab, h.apart, h.pin, fun x hx => ⟨(h.gb x hx).1.but hT (fun hx' => h.box_ne hx hcur (.inl rfl) hx'), (h.gb x hx).2⟩⟩, h1, fun x hx => Nat.lt_of_lt_of_le (h2 x hx) hT.size⟩, fun _ hx => .inl hx, hT.mono (fun x hx => h1 x (.inr (.inl (by rw [hx]; rfl))))⟩
    · show World.ownsRow _ _ _ _ _ _ (bs (s.a.set n v))
      rw [← bs_set]; exact own_cell1 h.a
    · show (s.a.set n v).length = N
      rw [List.length_set]; exact h.an
  · have hc' : w.cell? ⟨g, 3, none⟩ = some (.slice B m e) := h.blk.cell 3
    rw [show 2 + 1 = 3 from rfl, hc'] at hc
    injection hc with hc
    injection hc with e1 e2 e3
    subst e1 e2 e3
    obtain ⟨cur, hcur⟩ := row_type h.b q rfl
    refine ⟨q, m, e, h.blk.cell 3, hk, hkj, hj, hq, Blk.free (show Blk w q cur 4 from hcur) n, fun v => ?_⟩
    have hT : But (fun x => x = q) w (w.setCell ⟨q, n, none⟩ (.bool v)) := but_one _
    refine ⟨⟨A, N, c, some ⟨q, 0, none⟩, m, e, F1, ⟨h.blk.but hT (fun x => rb q rfl x.symm), Own.but h.a hT (fun x hx hx' => h.apart x hx (by rw [hx']; rfl)), ?_, h.an, ?_, C.L.but h.d hT (fun x hx hx' => h.ab q rfl (hx' ▸ hx)), h.ag, h.aa, h.ab, h.apart, h.pin, fun x hx => ⟨(h.gb x hx).1.but hT (fun hx' => h.box_ne hx hcur (.inl rfl) hx'), (h.gb x hx).2⟩⟩, h1, fun x hx => Nat.lt_of_lt_of_le (h2 x hx) hT.size⟩, fun _ hx => .inl hx, hT.mono (fun x hx => h1 x (.inr (.inr (.inl (by rw [hx]; rfl)))))⟩
    · show World.ownsRow _ _ _ _ _ _ (bs (s.b.set n v))
      rw [← bs_set]; exact own_cell1 h.b
    · show (s.b.set n v).length = m
      rw [List.length_set]; exact h.bn
theorem ml_stale (h : (ML C G g).At w s F) {i n : Nat} (hi : i < 2) (hn : n < (s.st i).length) :
    ∃ q k j, w.cell? ⟨g, 2 + i, none⟩ = some (.slice (some ⟨q, 0, none⟩) k j) ∧ n < k ∧ k ≤ j ∧ j ≤ maxLen ∧ w.cell? ⟨q, n, none⟩ = some (.bool ((s.st i).getD n false)) ∧ w.frozen? ⟨q, n, none⟩ = false ∧ ∀ v, Mv (ML C G g) w F (w.setCell ⟨q, n, none⟩ (.bool v)) (s.put i n v) F := by
  obtain ⟨A, N, c, B, m, e, F1, h, h1, h2⟩ := h
  exact h.set_stale h1 h2 hi hn
theorem ml_ptr (h : (ML C G g).At w s F) {i : Nat} (hi : i < 2) : w.cell? ⟨g, i, none⟩ = some (.pointer (C.ptr i)) ∧ g < w.heap.size := by
  obtain ⟨A, N, c, B, m, e, F1, h, h1, h2⟩ := h
  exact ⟨h.ptr_cell hi, h.blk.lt⟩
theorem ml_write (h : (ML C G g).At w s F) {i : Nat} (hi : i < 2) (n : Int) (x : List UInt8) (hx : x.length = 128) (hm : C.most s.d < 1000000) :
    Calls Try.prog 58 #[.pointer (C.ptr i), .int .i64 n, .agg (bva x)] w (RetA (ML C G g) (.int .i64 (C.wr s.d i n x).1) (s.dev (C.wr s.d i n x).2) F w) := by
  obtain ⟨F1, hd, hl⟩ := ml_dev h
  exact (C.cwr hd hi hm n x hx).mono fun _ _ hr => hl hr
/-- What is written to one device, which then isn't stale there. -/
def Mr.mend (s : Mr C) (i n : Nat) (x : List UInt8) : Int × Mr C :=
  ((C.wr s.d i n x).1, if (C.wr s.d i n x).1 = 0 then (s.dev (C.wr s.d i n x).2).put i n false else s.dev (C.wr s.d i n x).2)
set_option maxRecDepth 100000 in
set_option maxHeartbeats 6400000 in
theorem mend_any (h : (ML C G g).At w s F) {i n : Nat} (hi : i < 2) (hn : n < (s.st i).length) (x : List UInt8) (hx : x.length = 128) (hm : C.most s.d < 1000000) :
    Calls Try.prog 92 #[.pointer (some ⟨g, 0, none⟩), .int .i64 i, .int .i64 n, .agg (bva x)] w (RetA (ML C G g) (.int .i64 (s.mend i n x).1) (s.mend i n x).2 F w) := by
  have HI := Lib.hid hi
  have HX3 := Lib.hid hx
  have HIX : Hid ((Try.prog.info? 38).map (·.size) = some (bva x).size) := by rw [bva_size, hx]; exact info_sec
  have i0 : (0 : Int) ≤ (i : Int) := by omega
  have i1 : (i : Int) < 2 := by omega
  obtain ⟨w1, hw1⟩ : ∃ w1, w1 = w.alloc (.cells (bva x) 38) := ⟨_, rfl⟩
  have M1 := Lib.hid (show Mv (ML C G g) w F w1 s F from (Mv.start h).below (by rw [hw1]; exact (Below.refl _ _).alloc (Nat.le_refl _) _))
  have BX := Lib.hid (show Bx w w1 F w.heap.size (bva x) 38 from Bx.new (Mv.start h) (by rw [hw1]; exact heap_alloc_new _ _) (Nat.le_refl _))
  have HP := Lib.hid (show ∀ w' s' F', (ML C G g).At w' s' F' → w'.cell? ⟨g, i, none⟩ = some (.pointer (C.ptr i)) from fun _ _ _ h => (ml_ptr h hi).1)
  have HCW := Lib.hid (ml_write (M1.out.below (w2 := w1.drew) (Below.refl _ _).drew).at_ hi n x hx hm)
  have HST := Lib.hid (show n < ((s.dev (C.wr s.d i n x).2).st i).length from hn)
  obtain ⟨P, hP⟩ : ∃ P, P = C.ptr i := ⟨_, rfl⟩
  rw [← hP] at HP HCW
  obtain ⟨r, hr⟩ : ∃ r, r = (C.wr s.d i n x).1 := ⟨_, rfl⟩
  obtain ⟨s2, hs2⟩ : ∃ s2, s2 = s.dev (C.wr s.d i n x).2 := ⟨_, rfl⟩
  have HV := Lib.hid (show s.mend i n x = (r, if r = 0 then s2.put i n false else s2) by rw [Mr.mend, hr, hs2])
  rw [← hr, ← hs2] at HCW
  rw [← hs2] at HST
  obtain ⟨sv, hsv⟩ : ∃ sv, sv = if r = 0 then s2.put i n false else s2 := ⟨_, rfl⟩
  rw [HV.out, ← hsv]
  have HSV := Lib.hid hsv
  clear hsv hP hr hs2 HV hn hm hx h hi
  go_enter Try.func92, Try.ntmps92
  go_upto_region 1 with fail
  rw [← hw1]
  clear hw1
  obtain ⟨b, hb⟩ : ∃ b, b = w.heap.size := ⟨_, rfl⟩
  rw [← hb] at BX
  rw [← hb]
  clear hb
  go_wp2_with fail
  refine wp_region_held_drew (S := fun w' => w'.cell? ⟨g, i, none⟩ = some (.pointer P) ∧ Blk w' b (bva x) 38) (by kernel_rfl) ⟨HP.out _ _ _ (M1.out.below (w2 := w1.drew) (Below.refl _ _).drew).at_, (BX.out.below (w2 := w1.drew) (Below.refl _ _).drew).1⟩ (fun hh => ?_)
  have HH := Lib.hid hh
  clear hh
  refine wpAnyH_take (i := 0) (v := ?vM0) rfl (by kernel_rfl) (by kernel_rfl) (by kernel_rfl) (fun _ _ _ h => h) (Or.inl ⟨by rfl, fun w' _ => ?yM0⟩) HH.out ?_
  case yM0 => (go_simp; try with_reducible rfl)
  refine wpAnyH_take (i := 1) (v := ?vM1) rfl (by kernel_rfl) (by kernel_rfl) (by kernel_rfl) (fun _ _ _ h => h) (Or.inl ⟨by rfl, fun w' _ => ?yM1⟩) HH.out ?_
  case yM1 => (go_simp; try with_reducible rfl)
  try simp only [List.getElem_toArray, List.getElem_cons_succ, List.getElem_cons_zero, Act.put, List.setIfInBounds_toArray, List.set_cons_zero, List.set_cons_succ]
  refine wpAnyH_take (i := 2) (v := ?vM2) rfl (by kernel_rfl) (by kernel_rfl) (by kernel_rfl) (fun _ _ _ h => h) (Or.inl ⟨by rfl, fun w' _ => ?yM2⟩) HH.out ?_
  case yM2 => (go_simp; try with_reducible rfl)
  refine wpAnyH_take (i := 3) (v := ?vM3) rfl (by kernel_rfl) (by kernel_rfl) (by kernel_rfl) (fun _ _ _ h => h) (Or.inl ⟨by rfl, fun w' _ => ?yM3⟩) HH.out ?_
  case yM3 => (go_simp; try with_reducible rfl)
  refine wpAnyH_take (i := 4) (v := ?vM4) rfl (by kernel_rfl) (by kernel_rfl) (by kernel_rfl) (fun _ _ _ h => h) (Or.inl ⟨by rfl, fun w' _ => ?yM4⟩) HH.out ?_
  case yM4 => (go_simp; try with_reducible rfl)
  try simp only [List.getElem_toArray, List.getElem_cons_succ, List.getElem_cons_zero, Act.put, List.setIfInBounds_toArray, List.set_cons_zero, List.set_cons_succ]
  refine wpAnyH_take (i := 5) (v := .pointer P) rfl (by kernel_rfl) (by kernel_rfl) (by kernel_rfl) (fun _ _ _ h => h) (Or.inl ⟨by rfl, fun w' hw' => ?yM5⟩) HH.out ?_
  case yM5 => (have hc := hw'.1; go_simp; try with_reducible rfl)
  refine wpAnyH_take (i := 6) (v := ?vM6) rfl (by kernel_rfl) (by kernel_rfl) (by kernel_rfl) (fun _ _ _ h => h) (Or.inl ⟨by rfl, fun w' _ => ?yM6⟩) HH.out ?_
  case yM6 => (go_simp; try with_reducible rfl)
  refine wpAnyH_take (i := 7) (v := .agg (bva x)) rfl (by kernel_rfl) (by kernel_rfl) (by kernel_rfl) (fun _ _ _ h => h) (Or.inl ⟨by rfl, fun w' hw' => ?yM7⟩) HH.out ?_
  case yM7 => exact exec_load 38 (.tmp 7) rfl rfl hw'.2 Try.underlying38 rfl HIX.out
  try simp only [List.getElem_toArray, List.getElem_cons_succ, List.getElem_cons_zero, Act.put, List.setIfInBounds_toArray, List.set_cons_zero, List.set_cons_succ]
  refine wpAnyH_ready (rs := [8]) (by kernel_rfl) (by simp) (AllReadyH.cons rfl (fun K hK => ?_) AllReadyH.nil)
  go_simp
  refine HCW.out.mono ?_
  rintro e2 w2 ⟨rfl, F2, hm2⟩
  have M2 := Lib.hid ((M1.out.below (Below.refl _ _).drew).trans hm2)
  have B2 := Lib.hid ((BX.out.below (Below.refl _ _).drew).step hm2)
  go_simp
  refine hK.out _ _ ⟨HP.out _ _ _ M2.out.at_, B2.out.1⟩ (fun hh => ?_)
  have HH' := Lib.hid hh
  clear hh hK K HH hm2 M1 BX HCW
  have HH := Lib.hid HH'.out
  clear HH'
  refine wpAnyH_take (i := 9) (v := ?vM9) rfl (by kernel_rfl) (by kernel_rfl) (by kernel_rfl) (fun _ _ _ h => h) (Or.inl ⟨by rfl, fun w' _ => ?yM9⟩) HH.out ?_
  case yM9 => (go_simp; try with_reducible rfl)
  try simp only [List.getElem_toArray, List.getElem_cons_succ, List.getElem_cons_zero, Act.put, List.setIfInBounds_toArray, List.set_cons_zero, List.set_cons_succ]
  refine wpAnyH_done (by kernel_rfl) ?_ _
  by_cases hr : r = 0
  · have HE := Lib.hid (show sv = s2.put i n false by rw [HSV.out, if_pos hr])
    subst hr
    obtain ⟨q, k, j, hc, hk, hkj, hj, hq, hf, hset⟩ := ml_stale M2.out.at_ HI.out HST.out
    have HSET := Lib.hid hset
    have n0 : (0 : Int) ≤ (n : Int) := by omega
    have n1 : (n : Int) < (k : Int) := by omega
    clear hset hk hkj hj
    go_wp2_with fail
    go_ret
    exact ⟨rfl, F2, by rw [HE.out]; exact M2.out.trans (HSET.out false)⟩
  · have HE := Lib.hid (show sv = s2 by rw [HSV.out, if_neg hr])
    go_wp2_with fail
    go_ret
    exact ⟨rfl, F2, by rw [HE.out]; exact M2.out⟩
end
end Go.Proofs.Ytgfldfofiglefaa.Mi
/-
  A mirror, and boxes beside it; the contract of reached.
-/
namespace Go.Proofs.Ytgfldfofiglefaa.Mi
open Go.RowKit Kd
attribute [local go_sem ↓] Go.wp_at_zero Go.wp_at_succ
/-- What is laid, and boxes beside it. -/
def Laid.and (L : Laid) (l : Bxs) : Laid where
  St := L.St
  At w s F := ∃ F0, L.At w s F0 ∧ (∀ x ∈ l, Blk w x.1 x.2.1 x.2.2 ∧ ¬ F0 x.1 ∧ F x.1) ∧ (∀ q, F0 q → F q) ∧ ∀ q, F q → q < w.heap.size
  but := fun ⟨F0, h, h1, h2, h3⟩ hb hd => ⟨F0, L.but h hb (fun q hq => hd q (h2 q hq)), fun x hx => ⟨(h1 x hx).1.but hb (hd _ (h1 x hx).2.2), (h1 x hx).2⟩, h2, fun q hq => Nat.lt_of_lt_of_le (h3 q hq) hb.size⟩
  lt := fun ⟨_, _, _, _, h3⟩ => h3
section
variable {L : Laid} {l : Bxs} {w w1 w2 : World} {s s1 s2 : L.St} {F F1 F2 : Nat → Prop}
/-- What is done to what is laid is done beside the boxes. -/
theorem and_lift (h : (L.and l).At w s F) : ∃ F0, L.At w s F0 ∧ (∀ q, F0 q → F q) ∧ (∀ x ∈ l, Blk w x.1 x.2.1 x.2.2) ∧ ∀ w' (s2 : L.St) F', Mv L w F0 w' s2 F' → Mv (L.and l) w F w' s2 (fun q => F q ∨ F' q) := by
  obtain ⟨F0, h0, h1, h2, h3⟩ := h
  refine ⟨F0, h0, h2, fun x hx => (h1 x hx).1, fun w' s2 F' hm => ⟨⟨F', hm.at_, fun x hx => ⟨(h1 x hx).1.but hm.but (h1 x hx).2.1, fun hf => ?_, .inl (h1 x hx).2.2⟩, fun q hq => .inr hq, ?_⟩, ?_, hm.but.mono h2⟩⟩
  · rcases hm.new _ hf with h4 | h4
    · exact (h1 x hx).2.1 h4
    · have := (h1 x hx).1.lt; omega
  · rintro q (hq | hq)
    · exact Nat.lt_of_lt_of_le (h3 q hq) hm.but.size
    · exact hm.lt q hq
  · rintro q (hq | hq)
    · exact .inl hq
    · exact (hm.new q hq).imp (h2 q) id
theorem and_ret (h : (L.and l).At w s F) : ∃ F0, L.At w s F0 ∧ ∀ {v : Value} {s2 : L.St} {e w'}, RetA L v s2 F0 w e w' → RetA (L.and l) v s2 F w e w' := by
  obtain ⟨F0, h0, _, _, hl⟩ := and_lift h
  refine ⟨F0, h0, ?_⟩
  rintro v s2 e w' ⟨rfl, F', hm⟩
  exact ⟨rfl, _, hl _ _ _ hm⟩
theorem and_nil (h : L.At w s F) : (L.and []).At w s F := ⟨F, h, fun x hx => (by cases hx), fun _ h => h, L.lt h⟩
/-- Boxes that are new come beside. -/
theorem and_start (h : Mv L w F w1 s F1) (hb : ∀ x ∈ l, Bx w w1 F1 x.1 x.2.1 x.2.2) : (L.and l).At w1 s (fun q => F1 q ∨ ∃ x ∈ l, q = x.1) :=
  ⟨F1, h.at_, fun x hx => ⟨(hb x hx).1, (hb x hx).2.2, .inr ⟨x, hx, rfl⟩⟩, fun q hq => .inl hq, by
    rintro q (hq | ⟨x, hx, rfl⟩)
    · exact h.lt q hq
    · exact (hb x hx).1.lt⟩
/-- .. and go again. -/
theorem and_end (h : Mv L w F w1 s F1) (hb : ∀ x ∈ l, Bx w w1 F1 x.1 x.2.1 x.2.2) (hm : Mv (L.and l) w1 (fun q => F1 q ∨ ∃ x ∈ l, q = x.1) w2 s2 F2) : ∃ F', Mv L w F w2 s2 F' := by
  obtain ⟨F0, h0, h1, h2, h3⟩ := hm.at_
  have hn : ∀ q, (F1 q ∨ ∃ x ∈ l, q = x.1) → F q ∨ w.heap.size ≤ q := by
    rintro q (hq | ⟨x, hx, rfl⟩)
    · exact h.new q hq
    · exact .inr (hb x hx).2.1
  refine ⟨F0, h0, fun q hq => ?_, but_step h.but hm.but hn⟩
  rcases hm.new q (h2 q hq) with h4 | h4
  · exact hn q h4
  · exact .inr (Nat.le_trans h.size h4)
end
section
variable {C : Duo} {G : Gd} {g : Nat} {l : Bxs} {w w1 : World} {s s1 s2 : Mr C} {F1 F : Nat → Prop}
/-- What reached makes of a mirror. -/
def Mr.reach (s2 : Mr C) (n : Nat) (x y : Bool) : Int × Mr C := if x || y then (0, (s2.put 0 n (!x)).put 1 n (!y)) else (13, s2)
theorem ml_stale_and (h : ((ML C G g).and l).At w s F) {i n : Nat} (hi : i < 2) (hn : n < (s.st i).length) :
    ∃ q k j, w.cell? ⟨g, 2 + i, none⟩ = some (.slice (some ⟨q, 0, none⟩) k j) ∧ n < k ∧ k ≤ j ∧ j ≤ maxLen ∧ w.cell? ⟨q, n, none⟩ = some (.bool ((s.st i).getD n false)) ∧ w.frozen? ⟨q, n, none⟩ = false ∧ ∀ v, ∃ F', Mv ((ML C G g).and l) w F (w.setCell ⟨q, n, none⟩ (.bool v)) (s.put i n v) F' := by
  obtain ⟨F0, h0, _, _, hl⟩ := and_lift h
  obtain ⟨q, k, j, h1, h2, h3, h4, h5, h6, h7⟩ := ml_stale h0 hi hn
  exact ⟨q, k, j, h1, h2, h3, h4, h5, h6, fun v => ⟨_, hl _ _ _ (h7 v)⟩⟩
set_option maxRecDepth 100000 in
set_option maxHeartbeats 6400000 in
theorem reached_any (h : ((ML C G g).and l).At w s F) {n k : Nat} {b c : Array Value} {x y : Bool} {N : Nat} (hs2 : s2.ok N) (hn : n < N) (hC : ∀ (args : Array Value) (W : World), (callFunc k args).run Try.prog W = .ok (.enter k args) W)
    (h0 : ∀ w F, ((ML C G g).and l).At w s F → Calls Try.prog k (b ++ #[.int .i64 0] ++ c) w (RetA ((ML C G g).and l) (.bool x) s1 F w))
    (h1 : ∀ w F, ((ML C G g).and l).At w s1 F → Calls Try.prog k (b ++ #[.int .i64 1] ++ c) w (RetA ((ML C G g).and l) (.bool y) s2 F w)) :
    Calls Try.prog 94 #[.pointer (some ⟨g, 0, none⟩), .int .i64 n, .func (.func k) b c] w (RetA ((ML C G g).and l) (.int .i64 (s2.reach n x y).1) (s2.reach n x y).2 F w) := by
  have HEA := Lib.hid (each_any h hC h0 h1)
  have HS2 := Lib.hid hs2
  have HN := Lib.hid hn
  have n0 : (0 : Int) ≤ (n : Int) := by omega
  obtain ⟨RV, hRV⟩ : ∃ RV, RV = s2.reach n x y := ⟨_, rfl⟩
  rw [← hRV]
  have HRV := Lib.hid hRV
  clear hRV h0 h1 h hC hs2 hn
  go_enter Try.func94, Try.ntmps94
  go_wp2_with fail
  refine HEA.out.mono ?_
  rintro e w1 ⟨rfl, F1, hm1⟩
  have M1 := Lib.hid hm1
  clear hm1 HEA
  have HI2 : Hid ((Try.prog.info? 50).map (·.size) = some (two2 x y).size) := by show _ = _; kernel_rfl
  go_wp2_with (show wpList _ _ _ ({ dst := none, op := .store 50 (.tmp 7) (.tmp 11), type := _, pos := _, after := _, guard := _ } :: _) _ _; apply Classical.byContradiction; intro hneg)
  refine hneg ?_
  clear hneg
  refine wpList_store_row rfl 50 (.tmp 7) (.tmp 11) rfl w1.heap.size (two2 x y) rfl rfl 50 (two2 false false) (heap_alloc_new _ _) HI2.out (by rfl) (two2_one _ _) ?_
  obtain ⟨w2, hw2⟩ : ∃ w2, w2 = (w1.alloc (.cells (two2 false false) 50)).setRow w1.heap.size (two2 x y) := ⟨_, rfl⟩
  have hb2 : Below w1.heap.size w1 w2 := by rw [hw2]; exact below_setRow ((Below.refl _ _).alloc (Nat.le_refl _) _) (Nat.le_refl _) _
  have BX := Lib.hid (show Bx w w2 F1 w1.heap.size (two2 x y) 50 from Bx.new M1.out (by rw [hw2]; exact setRow_heap _ _ _ _ _ _ (heap_alloc_new _ _)) (Nat.le_refl _))
  have M2 := Lib.hid (M1.out.below hb2)
  rw [show (two2 false false) = #[.bool false, .bool false] from rfl] at hw2
  rw [← hw2]
  clear hw2 hb2 M1
  obtain ⟨bx, hbx⟩ : ∃ bx, bx = w1.heap.size := ⟨_, rfl⟩
  rw [← hbx] at BX
  rw [← hbx]
  clear hbx
  obtain ⟨o, ho⟩ : ∃ o, o = (x || y) := ⟨_, rfl⟩
  have hE : ∀ W, (Op.equalIn 10000 50 (.agg #[.bool x, .bool y]) (.agg #[.bool false, .bool false])).run Try.prog W = .ok (!o) W := fun W => by rw [ho]; exact eq_ff x y W
  have HO := Lib.hid ho
  clear ho
  cases o
  · have HEND := Lib.hid (show RV = (13, s2) by rw [HRV.out, Mr.reach, if_neg (by rw [← HO.out]; simp)])
    go_wp2_with (refine wpList_load_row rfl 50 (.tmp 7) rfl bx rfl 50 #[.bool x, .bool y] (0, 0) _ BX.out.1 Try.underlying50 rfl HI2.out ?_)
    go_ret
    exact ⟨by rw [HEND.out]; rfl, F1, by rw [HEND.out]; exact M2.out⟩
  · have HEND := Lib.hid (show RV = (0, (s2.put 0 n (!x)).put 1 n (!y)) by rw [HRV.out, Mr.reach, if_pos HO.out.symm])
    go_wp2_with (refine wpList_load_row rfl 50 (.tmp 7) rfl bx rfl 50 #[.bool x, .bool y] (0, 0) _ BX.out.1 Try.underlying50 rfl HI2.out ?_)
    go_loopw [16] (fun i wr => ∃ (j : Nat) (F' : Nat → Prop) (s' : Mr C), i = .int .i64 j ∧ Mv ((ML C G g).and l) w F wr s' F' ∧ ((j = 0 ∧ s' = s2) ∨ (j = 1 ∧ s' = s2.put 0 n (!x)) ∨ (j = 2 ∧ s' = (s2.put 0 n (!x)).put 1 n (!y)))) (fun i _ => 2 - (intOf i).toNat)
    case atStart => exact ⟨0, F1, s2, rfl, M2.out, .inl ⟨rfl, rfl⟩⟩
    case round =>
      clear M2 BX
      obtain ⟨j, F', s', rfl, hm, hj⟩ := hrel
      have M := Lib.hid hm
      clear hm
      rcases hj with ⟨rfl, hs⟩ | ⟨rfl, hs⟩ | ⟨rfl, hs⟩
      · have HS := Lib.hid hs
        obtain ⟨q, k, j, hc, hk, hkj, hj, hq, hf, hset⟩ := ml_stale_and M.out.at_ (i := 0) (n := n) (by omega) (by rw [hs, HS2.out.st]; exact HN.out)
        have HSET := Lib.hid hset
        have n1 : (n : Int) < (k : Int) := by omega
        clear hset hk hkj hj hs
        go_wp2_with (refine wpList_execg8 (o := { dst := some 19, op := .index 50 (.tmp 15) (.tmp 16), type := _, pos := _, after := _, guard := _ }) (v := .bool x) (w' := wr) rfl ?hix ?_; case hix => kernel_rfl)
        go_roundw  
        case rel =>
          obtain ⟨F2, hm2⟩ := HSET.out (!x)
          exact ⟨1, F2, s2.put 0 n (!x), rfl, M.out.trans (by rw [← HS.out]; exact hm2), .inr (.inl ⟨rfl, rfl⟩)⟩
        case measure => simp [intOf]
      · have HS := Lib.hid hs
        obtain ⟨q, k, j, hc, hk, hkj, hj, hq, hf, hset⟩ := ml_stale_and M.out.at_ (i := 1) (n := n) (by omega) (by rw [hs, HS2.out.put.st]; exact HN.out)
        have HSET := Lib.hid hset
        have n1 : (n : Int) < (k : Int) := by omega
        clear hset hk hkj hj hs
        go_wp2_with (refine wpList_execg8 (o := { dst := some 19, op := .index 50 (.tmp 15) (.tmp 16), type := _, pos := _, after := _, guard := _ }) (v := .bool y) (w' := wr) rfl ?hix ?_; case hix => kernel_rfl)
        go_roundw  
        case rel =>
          obtain ⟨F2, hm2⟩ := HSET.out (!y)
          exact ⟨2, F2, (s2.put 0 n (!x)).put 1 n (!y), rfl, M.out.trans (by rw [← HS.out]; exact hm2), .inr (.inr ⟨rfl, rfl⟩)⟩
        case measure => simp [intOf]
      · have HS := Lib.hid hs
        clear hs
        go_wp2_with fail
        go_ret
        exact ⟨by rw [HEND.out]; rfl, F', by rw [HEND.out, ← HS.out]; exact M.out⟩
end
end Go.Proofs.Ytgfldfofiglefaa.Mi
/-
  The contract of the mirror's Write.
-/
namespace Go.Proofs.Ytgfldfofiglefaa.Mi
open Go.RowKit Kd
attribute [local go_sem ↓] Go.wp_at_zero Go.wp_at_succ
section
variable {C : Duo} {G : Gd} {g : Nat} {w w1 : World} {s : Mr C} {F1 F : Nat → Prop}
/-- The boxes of Write's and Choose's arguments. -/
def argB (g : Nat) (n : Int) (x : List UInt8) (b : Nat) : Bxs := [(b, #[.pointer (some ⟨g, 0, none⟩)], 54), (b + 1, #[.int .i64 n], 3), (b + 1 + 1, bva x, 38)]
theorem write1_enter (args : Array Value) (W : World) : (callFunc 95 args).run Try.prog W = .ok (.enter 95 args) W := by kernel_rfl
set_option maxRecDepth 100000 in
set_option maxHeartbeats 6400000 in
theorem write1_any {b : Nat} {n : Int} {x : List UInt8} (h : ((ML C G g).and (argB g n x b)).At w s F) {i : Nat} (hi : i < 2) (hx : x.length = 128) (hm : C.most s.d < 1000000) :
    Calls Try.prog 95 #[.int .i64 i, .pointer (some ⟨b, 0, none⟩), .pointer (some ⟨b + 1, 0, none⟩), .pointer (some ⟨b + 1 + 1, 0, none⟩)] w (RetA ((ML C G g).and (argB g n x b)) (.bool ((C.wr s.d i n x).1 == 0)) (s.dev (C.wr s.d i n x).2) F w) := by
  have HI := Lib.hid hi
  have HIX : Hid ((Try.prog.info? 38).map (·.size) = some (bva x).size) := by rw [bva_size, hx]; exact info_sec
  have i0 : (0 : Int) ≤ (i : Int) := by omega
  have i1 : (i : Int) < 2 := by omega
  have HP := Lib.hid (show ∀ w' s' F', ((ML C G g).and (argB g n x b)).At w' s' F' → w'.cell? ⟨g, i, none⟩ = some (.pointer (C.ptr i)) ∧ w'.cell? ⟨b, 0, none⟩ = some (.pointer (some ⟨g, 0, none⟩)) ∧ w'.cell? ⟨b + 1, 0, none⟩ = some (.int .i64 n) ∧ Blk w' (b + 1 + 1) (bva x) 38 from fun w' s' F' h => by
    obtain ⟨F0, h0, _, h2, _⟩ := and_lift h
    exact ⟨(ml_ptr h0 hi).1, (h2 _ (by unfold argB; exact List.mem_cons_self)).cell 0, (h2 _ (by unfold argB; exact List.mem_cons_of_mem _ List.mem_cons_self)).cell 0, h2 _ (by unfold argB; exact List.mem_cons_of_mem _ (List.mem_cons_of_mem _ List.mem_cons_self))⟩)
  have hd : ((ML C G g).and (argB g n x b)).At w.drew s F := ((ML C G g).and (argB g n x b)).below h (Below.refl _ _).drew
  obtain ⟨F0, hd0, hl⟩ := and_ret hd
  have HCW := Lib.hid ((ml_write hd0 hi n x hx hm).mono fun _ _ hr => hl hr)
  have H := Lib.hid h
  have HD := Lib.hid hd
  obtain ⟨P, hP⟩ : ∃ P, P = C.ptr i := ⟨_, rfl⟩
  rw [← hP] at HP HCW
  obtain ⟨r, hr⟩ : ∃ r, r = (C.wr s.d i n x).1 := ⟨_, rfl⟩
  rw [← hr]
  rw [← hr] at HCW
  clear hd hl hd0 hm hx h hi hr hP
  go_enter Try.func95, Try.ntmps95
  go_wp2_with fail
  refine wp_region_held_drew (S := fun w' => w'.cell? ⟨g, i, none⟩ = some (.pointer P) ∧ w'.cell? ⟨b, 0, none⟩ = some (.pointer (some ⟨g, 0, none⟩)) ∧ w'.cell? ⟨b + 1, 0, none⟩ = some (.int .i64 n) ∧ Blk w' (b + 1 + 1) (bva x) 38) (by kernel_rfl) (HP.out _ _ _ HD.out) (fun hh => ?_)
  have HH := Lib.hid hh
  clear hh
  refine wpAnyH_take (i := 0) (v := .pointer (some ⟨g, 0, none⟩)) rfl (by kernel_rfl) (by kernel_rfl) (by kernel_rfl) (fun _ _ _ h => h) (Or.inl ⟨by rfl, fun w' hw' => ?yW0⟩) HH.out ?_
  case yW0 => (have hc := hw'.2.1; go_simp; try with_reducible rfl)
  refine wpAnyH_take (i := 1) (v := ?vW1) rfl (by kernel_rfl) (by kernel_rfl) (by kernel_rfl) (fun _ _ _ h => h) (Or.inl ⟨by rfl, fun w' _ => ?yW1⟩) HH.out ?_
  case yW1 => (go_simp; try with_reducible rfl)
  try simp only [List.getElem_toArray, List.getElem_cons_succ, List.getElem_cons_zero, Act.put, List.setIfInBounds_toArray, List.set_cons_zero, List.set_cons_succ]
  refine wpAnyH_take (i := 2) (v := ?vW2) rfl (by kernel_rfl) (by kernel_rfl) (by kernel_rfl) (fun _ _ _ h => h) (Or.inl ⟨by rfl, fun w' _ => ?yW2⟩) HH.out ?_
  case yW2 => (go_simp; try with_reducible rfl)
  refine wpAnyH_take (i := 3) (v := ?vW3) rfl (by kernel_rfl) (by kernel_rfl) (by kernel_rfl) (fun _ _ _ h => h) (Or.inl ⟨by rfl, fun w' _ => ?yW3⟩) HH.out ?_
  case yW3 => (go_simp; try with_reducible rfl)
  refine wpAnyH_take (i := 4) (v := ?vW4) rfl (by kernel_rfl) (by kernel_rfl) (by kernel_rfl) (fun _ _ _ h => h) (Or.inl ⟨by rfl, fun w' _ => ?yW4⟩) HH.out ?_
  case yW4 => (go_simp; try with_reducible rfl)
  try simp only [List.getElem_toArray, List.getElem_cons_succ, List.getElem_cons_zero, Act.put, List.setIfInBounds_toArray, List.set_cons_zero, List.set_cons_succ]
  refine wpAnyH_take (i := 5) (v := .pointer P) rfl (by kernel_rfl) (by kernel_rfl) (by kernel_rfl) (fun _ _ _ h => h) (Or.inl ⟨by rfl, fun w' hw' => ?yW5⟩) HH.out ?_
  case yW5 => (have hc := hw'.1; go_simp; try with_reducible rfl)
  refine wpAnyH_take (i := 6) (v := .int .i64 n) rfl (by kernel_rfl) (by kernel_rfl) (by kernel_rfl) (fun _ _ _ h => h) (Or.inl ⟨by rfl, fun w' hw' => ?yW6⟩) HH.out ?_
  case yW6 => (have hc := hw'.2.2.1; go_simp; try with_reducible rfl)
  refine wpAnyH_take (i := 7) (v := .agg (bva x)) rfl (by kernel_rfl) (by kernel_rfl) (by kernel_rfl) (fun _ _ _ h => h) (Or.inl ⟨by rfl, fun w' hw' => ?yW7⟩) HH.out ?_
  case yW7 => exact exec_load 38 (.tmp 3) rfl rfl hw'.2.2.2 Try.underlying38 rfl HIX.out
  try simp only [List.getElem_toArray, List.getElem_cons_succ, List.getElem_cons_zero, Act.put, List.setIfInBounds_toArray, List.set_cons_zero, List.set_cons_succ]
  refine wpAnyH_ready (rs := [8]) (by kernel_rfl) (by simp) (AllReadyH.cons rfl (fun K hK => ?_) AllReadyH.nil)
  go_simp
  refine HCW.out.mono ?_
  rintro e2 w2 ⟨rfl, F2, hm2⟩
  have M2 := Lib.hid hm2
  go_simp
  refine hK.out _ _ (HP.out _ _ _ M2.out.at_) (fun hh => ?_)
  have HH' := Lib.hid hh
  clear hh hK K HH hm2 HCW
  have HH := Lib.hid HH'.out
  clear HH'
  refine wpAnyH_take (i := 9) (v := ?vW9) rfl (by kernel_rfl) (by kernel_rfl) (by kernel_rfl) (fun _ _ _ h => h) (Or.inl ⟨by rfl, fun w' _ => ?yW9⟩) HH.out ?_
  case yW9 => (go_simp; try with_reducible rfl)
  refine wpAnyH_take (i := 10) (v := ?vW10) rfl (by kernel_rfl) (by kernel_rfl) (by kernel_rfl) (fun _ _ _ h => h) (Or.inl ⟨by rfl, fun w' _ => ?yW10⟩) HH.out ?_
  case yW10 => (go_simp; try with_reducible rfl)
  try simp only [List.getElem_toArray, List.getElem_cons_succ, List.getElem_cons_zero, Act.put, List.setIfInBounds_toArray, List.set_cons_zero, List.set_cons_succ]
  refine wpAnyH_done (by kernel_rfl) ?_ _
  go_wp2_with fail
  go_ret
  exact ⟨rfl, F2, ((Mv.start H.out).below (Below.refl _ _).drew).trans M2.out⟩
/-- What Write makes of a mirror, and tells. -/
def Mr.w0 (s : Mr C) (n : Int) (x : List UInt8) (i : Nat) : Mr C := s.dev (C.wr s.d i n x).2
def Mr.write (s : Mr C) (n : Int) (x : List UInt8) : Int × Mr C :=
  if has s n then ((s.w0 n x 0).w0 n x 1).reach n.toNat ((C.wr s.d 0 n x).1 == 0) ((C.wr (s.w0 n x 0).d 1 n x).1 == 0) else (2, s)
theorem three_boxes (w : World) (A B D : Obj) : ∃ w3, w3 = ((w.alloc A).alloc B).alloc D ∧ w3.heap[w.heap.size]? = some A ∧ w3.heap[w.heap.size + 1]? = some B ∧ w3.heap[w.heap.size + 1 + 1]? = some D ∧ Below w.heap.size w w3 := by
  refine ⟨_, rfl, ?_, ?_, ?_, ?_⟩
  · rw [heap_alloc_old _ _ (by simp; omega), heap_alloc_old _ _ (by simp)]; exact heap_alloc_new _ _
  · rw [heap_alloc_old _ _ (by simp)]; have h := heap_alloc_new (w.alloc A) B; rwa [World.size_alloc] at h
  · have h := heap_alloc_new ((w.alloc A).alloc B) D; rwa [World.size_alloc, World.size_alloc] at h
  · exact (((Below.refl _ _).alloc (Nat.le_refl _) _).alloc (by simp) _).alloc (by simp; omega) _
set_option maxRecDepth 100000 in
set_option maxHeartbeats 6400000 in
theorem mwrite_no {p : Option Addr} {n : Int} (x : List UInt8) (hc : ∀ w', Below w.heap.size w w' → Calls Try.prog 89 #[.pointer p, .int .i64 n] w' (RetB (.bool false) w')) : Calls Try.prog 41 #[.pointer p, .int .i64 n, .agg (bva x)] w (RetB (.int .i64 2) w) := by
  obtain ⟨w3, hw3, h0, h1, h2, hb⟩ := three_boxes w (.cells #[.pointer p] 54) (.cells #[.int .i64 n] 3) (.cells (bva x) 38)
  have HC := Lib.hid (hc w3 hb)
  have HB := Lib.hid hb
  have c0 : w3.cell? ⟨w.heap.size, 0, none⟩ = some (.pointer p) := Blk.cell (show Blk w3 w.heap.size #[.pointer p] 54 from h0) 0
  have c1 : w3.cell? ⟨w.heap.size + 1, 0, none⟩ = some (.int .i64 n) := Blk.cell (show Blk w3 (w.heap.size + 1) #[.int .i64 n] 3 from h1) 0
  clear hc h0 h1 h2 hb
  go_enter Try.func41, Try.ntmps41
  go_upto_region 1 with fail
  rw [← hw3]
  clear hw3
  go_wp2_with fail
  refine HC.out.mono ?_
  rintro e w4 ⟨rfl, bw⟩
  go_wp2_with fail
  go_ret
  exact ⟨rfl, HB.out.trans (bw.mono HB.out.size)⟩
theorem mwrite_nil (n : Int) (x : List UInt8) : Calls Try.prog 41 #[.pointer none, .int .i64 n, .agg (bva x)] w (RetB (.int .i64 2) w) := mwrite_no x (fun w' _ => has_nil w' n)
set_option maxRecDepth 100000 in
set_option maxHeartbeats 6400000 in
theorem mwrite_any (h : (ML C G g).At w s F) {k : Nat} (hk : s.ok k) (n : Int) (x : List UInt8) (hx : x.length = 128) (hm : C.most s.d < 900000) : Calls Try.prog 41 #[.pointer (some ⟨g, 0, none⟩), .int .i64 n, .agg (bva x)] w (RetA (ML C G g) (.int .i64 (s.write n x).1) (s.write n x).2 F w) := by
  cases hh : has s n with
  | false =>
    rw [Mr.write, hh, if_neg (by simp)]
    refine (mwrite_no x (fun w' hb => ?_)).mono fun _ _ hr => RetB.reta h hr
    have := has_any ((ML C G g).below h hb) n
    rwa [hh] at this
  | true =>
    obtain ⟨j, rfl⟩ : ∃ j : Nat, n = (j : Int) := ⟨n.toNat, by rw [has] at hh; simp at hh; omega⟩
    have hj : j < k := by rw [has] at hh; simp at hh; rw [← hk.1]; exact hh
    obtain ⟨w3, hw3, h0, h1, h2, hb⟩ := three_boxes w (.cells #[.pointer (some ⟨g, 0, none⟩)] 54) (.cells #[.int .i64 j] 3) (.cells (bva x) 38)
    have M3 := Lib.hid ((Mv.start h).below hb)
    obtain ⟨b, hbe⟩ : ∃ b, b = w.heap.size := ⟨_, rfl⟩
    have X3 := Lib.hid (show ∀ y ∈ argB g j x b, Bx w w3 F y.1 y.2.1 y.2.2 from by
      have hl := (ML C G g).lt h
      intro y hy
      rw [argB, hbe] at hy
      rcases List.mem_cons.1 hy with rfl | hy
      · exact ⟨h0, Nat.le_refl _, fun hf => by have := hl _ hf; omega⟩
      rcases List.mem_cons.1 hy with rfl | hy
      · exact ⟨h1, Nat.le_succ _, fun hf => by have := hl _ hf; omega⟩
      rw [List.mem_singleton] at hy
      subst hy
      exact ⟨h2, by omega, fun hf => by have := hl _ hf; omega⟩)
    have hhas := has_any M3.out.at_ (j : Int)
    rw [hh] at hhas
    have HH1 := Lib.hid hhas
    obtain ⟨sv, hsv⟩ : ∃ sv, sv = s.write (j : Int) x := ⟨_, rfl⟩
    rw [← hsv]
    have HSV := Lib.hid (show sv = ((s.w0 (j : Int) x 0).w0 (j : Int) x 1).reach j ((C.wr s.d 0 j x).1 == 0) ((C.wr (s.w0 (j : Int) x 0).d 1 j x).1 == 0) by rw [hsv, Mr.write, hh, if_pos rfl, Int.toNat_natCast])
    have HK := Lib.hid hk
    have HJ := Lib.hid hj
    have HX3 := Lib.hid hx
    have HM := Lib.hid hm
    have c0 : w3.cell? ⟨b, 0, none⟩ = some (.pointer (some ⟨g, 0, none⟩)) := by rw [hbe]; exact Blk.cell (show Blk w3 w.heap.size #[.pointer (some ⟨g, 0, none⟩)] 54 from h0) 0
    have c1 : w3.cell? ⟨b + 1, 0, none⟩ = some (.int .i64 j) := by rw [hbe]; exact Blk.cell (show Blk w3 (w.heap.size + 1) #[.int .i64 j] 3 from h1) 0
    clear hsv hhas hh hb h0 h1 h2 hk hj hx hm h
    go_enter Try.func41, Try.ntmps41
    go_upto_region 1 with fail
    rw [← hw3, ← hbe]
    clear hw3 hbe
    go_wp2_with fail
    refine HH1.out.mono ?_
    rintro e w4 ⟨rfl, bw⟩
    have M4 := Lib.hid (M3.out.below bw)
    have X4 := Lib.hid (show ∀ y ∈ argB g j x b, Bx w w4 F y.1 y.2.1 y.2.2 from fun y hy => (X3.out y hy).below bw)
    have d0 : w4.cell? ⟨b, 0, none⟩ = some (.pointer (some ⟨g, 0, none⟩)) := (X4.out _ (by unfold argB; exact List.mem_cons_self)).1.cell 0
    have d1 : w4.cell? ⟨b + 1, 0, none⟩ = some (.int .i64 j) := (X4.out _ (by unfold argB; exact List.mem_cons_of_mem _ List.mem_cons_self)).1.cell 0
    clear bw M3 X3 c0 c1 HH1
    go_wp2_with fail
    have hcall := reached_any (and_start M4.out X4.out) (n := j) (b := #[]) (c := #[.pointer (some ⟨b, 0, none⟩), .pointer (some ⟨b + 1, 0, none⟩), .pointer (some ⟨b + 1 + 1, 0, none⟩)]) (N := k) (s1 := s.w0 (j : Int) x 0) (s2 := (s.w0 (j : Int) x 0).w0 (j : Int) x 1) HK.out HJ.out write1_enter
      (fun w' F' h => write1_any h (i := 0) (by omega) HX3.out (by have := HM.out; omega)) (fun w' F' h => write1_any (s := s.w0 (j : Int) x 0) h (i := 1) (by omega) HX3.out (by have := HM.out; have := C.wr_most (s := s.d) (i := 0) (n := j) (x := x) (by omega); show C.most (C.wr s.d 0 j x).2 < _; omega))
    rw [← HSV.out] at hcall
    refine hcall.mono ?_
    clear hcall
    rintro e w5 ⟨rfl, F5, hm5⟩
    have M5 := Lib.hid (and_end M4.out X4.out hm5)
    go_wp2_with fail
    go_ret
    exact ⟨rfl, M5.out⟩
end
end Go.Proofs.Ytgfldfofiglefaa.Mi
/-
  The contract of the mirror's Choose.
-/
namespace Go.Proofs.Ytgfldfofiglefaa.Mi
open Go.RowKit Kd
attribute [local go_sem ↓] Go.wp_at_zero Go.wp_at_succ
section
variable {C : Duo} {G : Gd} {g : Nat} {w w1 : World} {s : Mr C} {F1 F : Nat → Prop}
theorem choose1_enter (args : Array Value) (W : World) : (callFunc 114 args).run Try.prog W = .ok (.enter 114 args) W := by kernel_rfl
/-- What is asked of one device by Choose: does it read x, or is x written to it? -/
def Mr.c1 (s : Mr C) (n : Int) (x : List UInt8) (i : Nat) : Bool × Mr C :=
  if (C.rd s.d i n).1 = 0 then (if (C.rd s.d i n).2 = x then (true, s) else ((C.wr s.d i n x).1 == 0, s.dev (C.wr s.d i n x).2)) else (false, s)
theorem ml_read (h : (ML C G g).At w s F) {i : Nat} (hi : i < 2) (n : Int) : Calls Try.prog 49 #[.pointer (C.ptr i), .int .i64 n] w (RetB (.tuple #[.agg (bva (C.rd s.d i n).2), .int .i64 (C.rd s.d i n).1]) w) := by
  obtain ⟨F1, hd, _⟩ := ml_dev h
  exact C.crd hd hi n
theorem ml_rdlen (h : (ML C G g).At w s F) {i : Nat} (hi : i < 2) (n : Int) : (C.rd s.d i n).2.length = 128 := by
  obtain ⟨F1, hd, _⟩ := ml_dev h
  exact C.rd_len hd hi
theorem arg_cells {b : Nat} {n : Int} {x : List UInt8} {i : Nat} (hi : i < 2) (h : ((ML C G g).and (argB g n x b)).At w s F) : w.cell? ⟨g, i, none⟩ = some (.pointer (C.ptr i)) ∧ w.cell? ⟨b, 0, none⟩ = some (.pointer (some ⟨g, 0, none⟩)) ∧ w.cell? ⟨b + 1, 0, none⟩ = some (.int .i64 n) ∧ Blk w (b + 1 + 1) (bva x) 38 := by
  obtain ⟨F0, h0, _, h2, _⟩ := and_lift h
  exact ⟨(ml_ptr h0 hi).1, (h2 _ (by unfold argB; exact List.mem_cons_self)).cell 0, (h2 _ (by unfold argB; exact List.mem_cons_of_mem _ List.mem_cons_self)).cell 0, h2 _ (by unfold argB; exact List.mem_cons_of_mem _ (List.mem_cons_of_mem _ List.mem_cons_self))⟩
set_option maxRecDepth 100000 in
set_option maxHeartbeats 6400000 in
theorem choose1_any {b : Nat} {n : Int} {x : List UInt8} (h : ((ML C G g).and (argB g n x b)).At w s F) {i : Nat} (hi : i < 2) (hx : x.length = 128) (hm : C.most s.d < 1000000) :
    Calls Try.prog 114 #[.int .i64 i, .pointer (some ⟨b, 0, none⟩), .pointer (some ⟨b + 1, 0, none⟩), .pointer (some ⟨b + 1 + 1, 0, none⟩)] w (RetA ((ML C G g).and (argB g n x b)) (.bool (s.c1 n x i).1) (s.c1 n x i).2 F w) := by
  have HI := Lib.hid hi
  have HX3 := Lib.hid hx
  have HIX : Hid ((Try.prog.info? 38).map (·.size) = some (bva x).size) := by rw [bva_size, hx]; exact info_sec
  have i0 : (0 : Int) ≤ (i : Int) := by omega
  have i1 : (i : Int) < 2 := by omega
  obtain ⟨z, hz0⟩ : ∃ z : List UInt8, z = zeroS := ⟨_, rfl⟩
  have hz : ∀ W, (zeroValue 38).run Try.prog W = .ok (.agg (bva z)) W := fun _ => by rw [hz0]; kernel_rfl
  have HZ3 := Lib.hid (show z.length = 128 by rw [hz0]; exact zeroS_length)
  have HP := Lib.hid (show ∀ w' s' F', ((ML C G g).and (argB g n x b)).At w' s' F' → _ from fun w' s' F' h => arg_cells (C := C) hi h)
  have H := Lib.hid h
  have HRD := Lib.hid (show ∀ w', Below w.heap.size w w' → Calls Try.prog 49 #[.pointer (C.ptr i), .int .i64 n] w' (RetB (.tuple #[.agg (bva (C.rd s.d i n).2), .int .i64 (C.rd s.d i n).1]) w') from fun w' hb => by
    obtain ⟨F0, h0, _⟩ := and_lift (((ML C G g).and (argB g n x b)).below h hb)
    exact ml_read h0 hi n)
  have HY3 := Lib.hid (show (C.rd s.d i n).2.length = 128 by
    obtain ⟨F0, h0, _⟩ := and_lift h
    exact ml_rdlen h0 hi n)
  obtain ⟨P, hP⟩ : ∃ P, P = C.ptr i := ⟨_, rfl⟩
  rw [← hP] at HP HRD
  have HPE := Lib.hid hP
  obtain ⟨r, hr⟩ : ∃ r, r = (C.rd s.d i n).1 := ⟨_, rfl⟩
  obtain ⟨y, hy⟩ : ∃ y, y = (C.rd s.d i n).2 := ⟨_, rfl⟩
  rw [← hr, ← hy] at HRD
  rw [← hy] at HY3
  obtain ⟨RV, hRV⟩ : ∃ RV, RV = s.c1 n x i := ⟨_, rfl⟩
  have HRV := Lib.hid (show RV = if r = 0 then (if y = x then (true, s) else ((C.wr s.d i n x).1 == 0, s.dev (C.wr s.d i n x).2)) else (false, s) by rw [hRV, Mr.c1, hr, hy])
  rw [← hRV]
  have HIY : Hid ((Try.prog.info? 38).map (·.size) = some (bva y).size) := by rw [bva_size, HY3.out]; exact info_sec
  have HMM := Lib.hid hm
  clear hRV hr hy hP hz0 h hi hx hm
  go_enter Try.func114, Try.ntmps114
  go_upto_region 1 with fail
  go_cut [6, 7] (fun a6 a7 wx => ∃ (q : Nat) (F' : Nat → Prop), a6 = .pointer (some ⟨q, 0, none⟩) ∧ a7 = .int .i64 r ∧ Mv ((ML C G g).and (argB g n x b)) w F wx s F' ∧ Bx w wx F' q (bva y) 38)
  case first =>
    go_wp2_with fail
    refine wp_region_held_drew (S := fun w' => w'.cell? ⟨g, i, none⟩ = some (.pointer P) ∧ w'.cell? ⟨b, 0, none⟩ = some (.pointer (some ⟨g, 0, none⟩)) ∧ w'.cell? ⟨b + 1, 0, none⟩ = some (.int .i64 n) ∧ Blk w' (b + 1 + 1) (bva x) 38) (by kernel_rfl) (HP.out _ _ _ (((ML C G g).and (argB g n x b)).below H.out (Below.refl _ _).drew)) (fun hh => ?_)
    have HH := Lib.hid hh
    clear hh
    refine wpAnyH_take (i := 0) (v := .pointer (some ⟨g, 0, none⟩)) rfl (by kernel_rfl) (by kernel_rfl) (by kernel_rfl) (fun _ _ _ h => h) (Or.inl ⟨by rfl, fun w' hw' => ?yD0⟩) HH.out ?_
    case yD0 => (have hc := hw'.2.1; go_simp; try with_reducible rfl)
    refine wpAnyH_take (i := 1) (v := ?vD1) rfl (by kernel_rfl) (by kernel_rfl) (by kernel_rfl) (fun _ _ _ h => h) (Or.inl ⟨by rfl, fun w' _ => ?yD1⟩) HH.out ?_
    case yD1 => (go_simp; try with_reducible rfl)
    try simp only [List.getElem_toArray, List.getElem_cons_succ, List.getElem_cons_zero, Act.put, List.setIfInBounds_toArray, List.set_cons_zero, List.set_cons_succ]
    refine wpAnyH_take (i := 2) (v := ?vD2) rfl (by kernel_rfl) (by kernel_rfl) (by kernel_rfl) (fun _ _ _ h => h) (Or.inl ⟨by rfl, fun w' _ => ?yD2⟩) HH.out ?_
    case yD2 => (go_simp; try with_reducible rfl)
    refine wpAnyH_take (i := 3) (v := ?vD3) rfl (by kernel_rfl) (by kernel_rfl) (by kernel_rfl) (fun _ _ _ h => h) (Or.inl ⟨by rfl, fun w' _ => ?yD3⟩) HH.out ?_
    case yD3 => (go_simp; try with_reducible rfl)
    refine wpAnyH_take (i := 4) (v := ?vD4) rfl (by kernel_rfl) (by kernel_rfl) (by kernel_rfl) (fun _ _ _ h => h) (Or.inl ⟨by rfl, fun w' _ => ?yD4⟩) HH.out ?_
    case yD4 => (go_simp; try with_reducible rfl)
    try simp only [List.getElem_toArray, List.getElem_cons_succ, List.getElem_cons_zero, Act.put, List.setIfInBounds_toArray, List.set_cons_zero, List.set_cons_succ]
    refine wpAnyH_take (i := 5) (v := .pointer P) rfl (by kernel_rfl) (by kernel_rfl) (by kernel_rfl) (fun _ _ _ h => h) (Or.inl ⟨by rfl, fun w' hw' => ?yD5⟩) HH.out ?_
    case yD5 => (have hc := hw'.1; go_simp; try with_reducible rfl)
    refine wpAnyH_take (i := 6) (v := .int .i64 n) rfl (by kernel_rfl) (by kernel_rfl) (by kernel_rfl) (fun _ _ _ h => h) (Or.inl ⟨by rfl, fun w' hw' => ?yD6⟩) HH.out ?_
    case yD6 => (have hc := hw'.2.2.1; go_simp; try with_reducible rfl)
    try simp only [List.getElem_toArray, List.getElem_cons_succ, List.getElem_cons_zero, Act.put, List.setIfInBounds_toArray, List.set_cons_zero, List.set_cons_succ]
    refine wpAnyH_ready (rs := [7, 11]) (by kernel_rfl) (by simp) (AllReadyH.cons rfl (fun K hK => ?_) (AllReadyH.cons rfl (fun K hK => ?_) AllReadyH.nil))
    · go_simp
      refine (HRD.out _ ((Below.refl w.heap.size w).drew)).mono ?_
      rintro e w2 ⟨rfl, bw⟩
      have B2 := Lib.hid (((Below.refl w.heap.size w).drew).trans (bw.mono ((Below.refl w.heap.size w).drew).size))
      clear bw
      go_simp
      refine hK.out _ _ (HP.out _ _ _ (((ML C G g).and (argB g n x b)).below H.out B2.out)) (fun hh => ?_)
      have HH' := Lib.hid hh
      clear hh hK K HH
      have HH := Lib.hid HH'.out
      clear HH'
      refine wpAnyH_take (i := 8) (v := ?vA8) rfl (by kernel_rfl) (by kernel_rfl) (by kernel_rfl) (fun _ _ _ h => h) (Or.inl ⟨by rfl, fun w' _ => ?yA8⟩) HH.out ?_
      case yA8 => (go_simp; try with_reducible rfl)
      refine wpAnyH_take (i := 9) (v := ?vA9) rfl (by kernel_rfl) (by kernel_rfl) (by kernel_rfl) (fun _ _ _ h => h) (Or.inl ⟨by rfl, fun w' _ => ?yA9⟩) HH.out ?_
      case yA9 => (go_simp; try with_reducible rfl)
      refine wpAnyH_take (i := 10) (v := ?vA10) rfl (by kernel_rfl) (by kernel_rfl) (by kernel_rfl) (fun _ _ _ h => h) (Or.inl ⟨by rfl, fun w' _ => ?yA10⟩) HH.out ?_
      case yA10 => (go_simp; try with_reducible rfl)
      try simp only [List.getElem_toArray, List.getElem_cons_succ, List.getElem_cons_zero, Act.put, List.setIfInBounds_toArray, List.set_cons_zero, List.set_cons_succ]
      refine wpAnyH_ready (rs := [11]) (by kernel_rfl) (by simp) (AllReadyH.cons rfl (fun K hK => ?_) AllReadyH.nil)
      go_simp
      refine hK.out _ _ (HP.out _ _ _ (((ML C G g).and (argB g n x b)).below H.out (B2.out.alloc B2.out.size _))) (fun hh => ?_)
      have HH' := Lib.hid hh
      clear hh hK K HH
      have HH := Lib.hid HH'.out
      clear HH'
      try simp only [List.getElem_toArray, List.getElem_cons_succ, List.getElem_cons_zero, Act.put, List.setIfInBounds_toArray, List.set_cons_zero, List.set_cons_succ]
      refine wpAnyH_ready (rs := [12]) (by kernel_rfl) (by simp) (AllReadyH.cons rfl (fun K hK => ?_) AllReadyH.nil)
      rw [if_pos (by rfl)]
      refine wp_store_row 38 (.tmp 6) (.tmp 17) rfl (w2.heap.size) (bva y) rfl rfl 38 (bva z) (heap_alloc_new _ _) HIY.out (by rw [bva_size, bva_size, HY3.out, HZ3.out]) (bva_one _) ?_
      have B3 := Lib.hid (show Below w.heap.size w ((w2.alloc (.cells (bva z) 38)).setRow (w2.heap.size) (bva y)) from below_setRow (B2.out.alloc B2.out.size _) (B2.out.size) _)
      have X3 := Lib.hid (show Blk ((w2.alloc (.cells (bva z) 38)).setRow (w2.heap.size) (bva y)) (w2.heap.size) (bva y) 38 from setRow_heap _ _ _ _ _ _ (heap_alloc_new _ _))
      refine hK.out _ _ (HP.out _ _ _ (((ML C G g).and (argB g n x b)).below H.out B3.out)) (fun hh => ?_)
      have HH' := Lib.hid hh
      clear hh hK K HH
      have HH := Lib.hid HH'.out
      clear HH'
      refine wpAnyH_take (i := 13) (v := ?vA13) rfl (by kernel_rfl) (by kernel_rfl) (by kernel_rfl) (fun _ _ _ h => h) (Or.inl ⟨by rfl, fun w' _ => ?yA13⟩) HH.out ?_
      case yA13 => (go_simp; try with_reducible rfl)
      try simp only [List.getElem_toArray, List.getElem_cons_succ, List.getElem_cons_zero, Act.put, List.setIfInBounds_toArray, List.set_cons_zero, List.set_cons_succ]
      refine wpAnyH_done (by kernel_rfl) ?_ _
      go_wp2_with fail
      go_meet
      exact ⟨_, F, rfl, rfl, (Mv.start H.out).below B3.out, Bx.new (Mv.start H.out) X3.out (B2.out.size)⟩
    · go_simp
      refine hK.out _ _ (HP.out _ _ _ (((ML C G g).and (argB g n x b)).below H.out ((Below.refl w.heap.size w).drew.alloc (Nat.le_refl _) (.cells (bva z) 38)))) (fun hh => ?_)
      have HH' := Lib.hid hh
      clear hh hK K HH
      have HH := Lib.hid HH'.out
      clear HH'
      try simp only [List.getElem_toArray, List.getElem_cons_succ, List.getElem_cons_zero, Act.put, List.setIfInBounds_toArray, List.set_cons_zero, List.set_cons_succ]
      refine wpAnyH_ready (rs := [7]) (by kernel_rfl) (by simp) (AllReadyH.cons rfl (fun K hK => ?_) AllReadyH.nil)
      go_simp
      refine (HRD.out _ (((Below.refl w.heap.size w).drew.alloc (Nat.le_refl _) (.cells (bva z) 38)))).mono ?_
      rintro e w2 ⟨rfl, bw⟩
      have B2 := Lib.hid ((((Below.refl w.heap.size w).drew.alloc (Nat.le_refl _) (.cells (bva z) 38))).trans (bw.mono (((Below.refl w.heap.size w).drew.alloc (Nat.le_refl _) (.cells (bva z) 38))).size))
      have X2 := Lib.hid (show Blk w2 w.heap.size (bva z) 38 from Blk.below (show Blk (w.drew.alloc (.cells (bva z) 38)) w.heap.size (bva z) 38 from heap_alloc_new _ _) bw)
      clear bw
      go_simp
      refine hK.out _ _ (HP.out _ _ _ (((ML C G g).and (argB g n x b)).below H.out B2.out)) (fun hh => ?_)
      have HH' := Lib.hid hh
      clear hh hK K HH
      have HH := Lib.hid HH'.out
      clear HH'
      refine wpAnyH_take (i := 8) (v := ?vB8) rfl (by kernel_rfl) (by kernel_rfl) (by kernel_rfl) (fun _ _ _ h => h) (Or.inl ⟨by rfl, fun w' _ => ?yB8⟩) HH.out ?_
      case yB8 => (go_simp; try with_reducible rfl)
      refine wpAnyH_take (i := 9) (v := ?vB9) rfl (by kernel_rfl) (by kernel_rfl) (by kernel_rfl) (fun _ _ _ h => h) (Or.inl ⟨by rfl, fun w' _ => ?yB9⟩) HH.out ?_
      case yB9 => (go_simp; try with_reducible rfl)
      refine wpAnyH_take (i := 10) (v := ?vB10) rfl (by kernel_rfl) (by kernel_rfl) (by kernel_rfl) (fun _ _ _ h => h) (Or.inl ⟨by rfl, fun w' _ => ?yB10⟩) HH.out ?_
      case yB10 => (go_simp; try with_reducible rfl)
      try simp only [List.getElem_toArray, List.getElem_cons_succ, List.getElem_cons_zero, Act.put, List.setIfInBounds_toArray, List.set_cons_zero, List.set_cons_succ]
      refine wpAnyH_ready (rs := [12]) (by kernel_rfl) (by simp) (AllReadyH.cons rfl (fun K hK => ?_) AllReadyH.nil)
      rw [if_pos (by rfl)]
      refine wp_store_row 38 (.tmp 6) (.tmp 17) rfl (w.heap.size) (bva y) rfl rfl 38 (bva z) (X2.out) HIY.out (by rw [bva_size, bva_size, HY3.out, HZ3.out]) (bva_one _) ?_
      have B3 := Lib.hid (show Below w.heap.size w (w2.setRow (w.heap.size) (bva y)) from below_setRow B2.out (Nat.le_refl _) _)
      have X3 := Lib.hid (show Blk (w2.setRow (w.heap.size) (bva y)) (w.heap.size) (bva y) 38 from setRow_heap _ _ _ _ _ _ (X2.out))
      refine hK.out _ _ (HP.out _ _ _ (((ML C G g).and (argB g n x b)).below H.out B3.out)) (fun hh => ?_)
      have HH' := Lib.hid hh
      clear hh hK K HH
      have HH := Lib.hid HH'.out
      clear HH'
      refine wpAnyH_take (i := 13) (v := ?vB13) rfl (by kernel_rfl) (by kernel_rfl) (by kernel_rfl) (fun _ _ _ h => h) (Or.inl ⟨by rfl, fun w' _ => ?yB13⟩) HH.out ?_
      case yB13 => (go_simp; try with_reducible rfl)
      try simp only [List.getElem_toArray, List.getElem_cons_succ, List.getElem_cons_zero, Act.put, List.setIfInBounds_toArray, List.set_cons_zero, List.set_cons_succ]
      refine wpAnyH_done (by kernel_rfl) ?_ _
      go_wp2_with fail
      go_meet
      exact ⟨_, F, rfl, rfl, (Mv.start H.out).below B3.out, Bx.new (Mv.start H.out) X3.out (Nat.le_refl _)⟩
  case rest =>
    obtain ⟨q, F', rfl, rfl, hm, hbx⟩ := hcut
    have M := Lib.hid hm
    have X := Lib.hid hbx
    clear hm hbx HRD
    by_cases hr0 : r = 0
    · subst hr0
      by_cases hyx : y = x
      · have HEND := Lib.hid (show RV = (true, s) by rw [HRV.out, if_pos rfl, if_pos hyx])
        have HEQ := Lib.hid (show ∀ W, (Op.equalIn 10000 38 (.agg (bva y)) (.agg (bva x))).run Try.prog W = .ok true W from fun W => by rw [eq_sec _ _ HY3.out HX3.out, decide_eq_true hyx])
        clear hyx
        go_wp2_with fail
        refine wp_region_held_drew (S := fun w' => w'.cell? ⟨g, i, none⟩ = some (.pointer P) ∧ w'.cell? ⟨b, 0, none⟩ = some (.pointer (some ⟨g, 0, none⟩)) ∧ w'.cell? ⟨b + 1, 0, none⟩ = some (.int .i64 n) ∧ Blk w' (b + 1 + 1) (bva x) 38 ∧ Blk w' q (bva y) 38) (by kernel_rfl) (⟨(HP.out _ _ _ (M.out.below (w2 := wc.drew) (Below.refl _ _).drew).at_).1, (HP.out _ _ _ (M.out.below (w2 := wc.drew) (Below.refl _ _).drew).at_).2.1, (HP.out _ _ _ (M.out.below (w2 := wc.drew) (Below.refl _ _).drew).at_).2.2.1, (HP.out _ _ _ (M.out.below (w2 := wc.drew) (Below.refl _ _).drew).at_).2.2.2, (X.out.below (w2 := wc.drew) (Below.refl _ _).drew).1⟩) (fun hh => ?_)
        have HH := Lib.hid hh
        clear hh
        refine wpAnyH_take (i := 0) (v := ?vEB0) rfl (by kernel_rfl) (by kernel_rfl) (by kernel_rfl) (fun _ _ _ h => h) (Or.inl ⟨by rfl, fun w' _ => ?yEB0⟩) HH.out ?_
        case yEB0 => (go_simp; try with_reducible rfl)
        refine wpAnyH_take (i := 1) (v := ?vEB1) rfl (by kernel_rfl) (by kernel_rfl) (by kernel_rfl) (fun _ _ _ h => h) (Or.inl ⟨by rfl, fun w' _ => ?yEB1⟩) HH.out ?_
        case yEB1 => (go_simp; try with_reducible rfl)
        try simp only [List.getElem_toArray, List.getElem_cons_succ, List.getElem_cons_zero, Act.put, List.setIfInBounds_toArray, List.set_cons_zero, List.set_cons_succ]
        refine wpAnyH_take (i := 2) (v := ?vEB2) rfl (by kernel_rfl) (by kernel_rfl) (by kernel_rfl) (fun _ _ _ h => h) (Or.inl ⟨by rfl, fun w' _ => ?yEB2⟩) HH.out ?_
        case yEB2 => (go_simp; try with_reducible rfl)
        refine wpAnyH_take (i := 3) (v := .agg (bva y)) rfl (by kernel_rfl) (by kernel_rfl) (by kernel_rfl) (fun _ _ _ h => h) (Or.inl ⟨by rfl, fun w' hw' => ?yEB3⟩) HH.out ?_
        case yEB3 => exact exec_load 38 (.tmp 6) rfl rfl hw'.2.2.2.2 Try.underlying38 rfl HIY.out
        refine wpAnyH_take (i := 4) (v := .agg (bva x)) rfl (by kernel_rfl) (by kernel_rfl) (by kernel_rfl) (fun _ _ _ h => h) (Or.inl ⟨by rfl, fun w' hw' => ?yEB4⟩) HH.out ?_
        case yEB4 => exact exec_load 38 (.tmp 3) rfl rfl hw'.2.2.2.1 Try.underlying38 rfl HIX.out
        try simp only [List.getElem_toArray, List.getElem_cons_succ, List.getElem_cons_zero, Act.put, List.setIfInBounds_toArray, List.set_cons_zero, List.set_cons_succ]
        refine wpAnyH_take (i := 5) (v := .bool true) rfl (by kernel_rfl) (by kernel_rfl) (by kernel_rfl) (fun _ _ _ h => h) (Or.inl ⟨by rfl, fun w' hw' => ?yEB5⟩) HH.out ?_
        case yEB5 => (go_simp; rw [HEQ.out]; rfl)
        try simp only [List.getElem_toArray, List.getElem_cons_succ, List.getElem_cons_zero, Act.put, List.setIfInBounds_toArray, List.set_cons_zero, List.set_cons_succ]
        refine wpAnyH_take (i := 6) (v := ?vEB6) rfl (by kernel_rfl) (by kernel_rfl) (by kernel_rfl) (fun _ _ _ h => h) (Or.inl ⟨by rfl, fun w' _ => ?yEB6⟩) HH.out ?_
        case yEB6 => (go_simp; try with_reducible rfl)
        refine wpAnyH_take (i := 7) (v := undef) rfl (by kernel_rfl) (by kernel_rfl) (by kernel_rfl) (fun _ _ _ h => h) (Or.inr ⟨by rfl, rfl⟩) HH.out ?_
        try simp only [List.getElem_toArray, List.getElem_cons_succ, List.getElem_cons_zero, Act.put, List.setIfInBounds_toArray, List.set_cons_zero, List.set_cons_succ]
        refine wpAnyH_take (i := 8) (v := undef) rfl (by kernel_rfl) (by kernel_rfl) (by kernel_rfl) (fun _ _ _ h => h) (Or.inr ⟨by rfl, rfl⟩) HH.out ?_
        refine wpAnyH_take (i := 9) (v := undef) rfl (by kernel_rfl) (by kernel_rfl) (by kernel_rfl) (fun _ _ _ h => h) (Or.inr ⟨by rfl, rfl⟩) HH.out ?_
        refine wpAnyH_take (i := 10) (v := undef) rfl (by kernel_rfl) (by kernel_rfl) (by kernel_rfl) (fun _ _ _ h => h) (Or.inr ⟨by rfl, rfl⟩) HH.out ?_
        try simp only [List.getElem_toArray, List.getElem_cons_succ, List.getElem_cons_zero, Act.put, List.setIfInBounds_toArray, List.set_cons_zero, List.set_cons_succ]
        refine wpAnyH_take (i := 11) (v := undef) rfl (by kernel_rfl) (by kernel_rfl) (by kernel_rfl) (fun _ _ _ h => h) (Or.inr ⟨by rfl, rfl⟩) HH.out ?_
        refine wpAnyH_take (i := 12) (v := undef) rfl (by kernel_rfl) (by kernel_rfl) (by kernel_rfl) (fun _ _ _ h => h) (Or.inr ⟨by rfl, rfl⟩) HH.out ?_
        refine wpAnyH_take (i := 13) (v := undef) rfl (by kernel_rfl) (by kernel_rfl) (by kernel_rfl) (fun _ _ _ h => h) (Or.inr ⟨by rfl, rfl⟩) HH.out ?_
        try simp only [List.getElem_toArray, List.getElem_cons_succ, List.getElem_cons_zero, Act.put, List.setIfInBounds_toArray, List.set_cons_zero, List.set_cons_succ]
        refine wpAnyH_take (i := 14) (v := undef) rfl (by kernel_rfl) (by kernel_rfl) (by kernel_rfl) (fun _ _ _ h => h) (Or.inr ⟨by rfl, rfl⟩) HH.out ?_
        refine wpAnyH_take (i := 15) (v := undef) rfl (by kernel_rfl) (by kernel_rfl) (by kernel_rfl) (fun _ _ _ h => h) (Or.inr ⟨by rfl, rfl⟩) HH.out ?_
        refine wpAnyH_take (i := 16) (v := undef) rfl (by kernel_rfl) (by kernel_rfl) (by kernel_rfl) (fun _ _ _ h => h) (Or.inr ⟨by rfl, rfl⟩) HH.out ?_
        try simp only [List.getElem_toArray, List.getElem_cons_succ, List.getElem_cons_zero, Act.put, List.setIfInBounds_toArray, List.set_cons_zero, List.set_cons_succ]
        refine wpAnyH_take (i := 17) (v := ?vEB17) rfl (by kernel_rfl) (by kernel_rfl) (by kernel_rfl) (fun _ _ _ h => h) (Or.inl ⟨by rfl, fun w' _ => ?yEB17⟩) HH.out ?_
        case yEB17 => (go_simp; try with_reducible rfl)
        refine wpAnyH_take (i := 18) (v := ?vEB18) rfl (by kernel_rfl) (by kernel_rfl) (by kernel_rfl) (fun _ _ _ h => h) (Or.inl ⟨by rfl, fun w' _ => ?yEB18⟩) HH.out ?_
        case yEB18 => (go_simp; try with_reducible rfl)
        refine wpAnyH_take (i := 19) (v := ?vEB19) rfl (by kernel_rfl) (by kernel_rfl) (by kernel_rfl) (fun _ _ _ h => h) (Or.inl ⟨by rfl, fun w' _ => ?yEB19⟩) HH.out ?_
        case yEB19 => (go_simp; try with_reducible rfl)
        try simp only [List.getElem_toArray, List.getElem_cons_succ, List.getElem_cons_zero, Act.put, List.setIfInBounds_toArray, List.set_cons_zero, List.set_cons_succ]
        refine wpAnyH_done (by kernel_rfl) ?_ _
        go_wp2_with fail
        go_ret
        exact ⟨by rw [HEND.out]; rfl, F', by rw [HEND.out]; exact M.out.below (Below.refl _ _).drew⟩
      · have HEND := Lib.hid (show RV = ((C.wr s.d i n x).1 == 0, s.dev (C.wr s.d i n x).2) by rw [HRV.out, if_pos rfl, if_neg hyx])
        have HEQ := Lib.hid (show ∀ W, (Op.equalIn 10000 38 (.agg (bva y)) (.agg (bva x))).run Try.prog W = .ok false W from fun W => by rw [eq_sec _ _ HY3.out HX3.out, decide_eq_false hyx])
        clear hyx
        have hd : ((ML C G g).and (argB g n x b)).At wc.drew s F' := ((ML C G g).and (argB g n x b)).below M.out.at_ (Below.refl _ _).drew
        obtain ⟨F0, hd0, hl⟩ := and_ret hd
        have HCW := Lib.hid ((ml_write hd0 HI.out n x HX3.out HMM.out).mono fun _ _ hr => hl hr)
        rw [← HPE.out] at HCW
        obtain ⟨rr, hrr⟩ : ∃ rr, rr = (C.wr s.d i n x).1 := ⟨_, rfl⟩
        rw [← hrr] at HCW HEND
        clear hd hl hd0 hrr
        go_wp2_with fail
        refine wp_region_held_drew (S := fun w' => w'.cell? ⟨g, i, none⟩ = some (.pointer P) ∧ w'.cell? ⟨b, 0, none⟩ = some (.pointer (some ⟨g, 0, none⟩)) ∧ w'.cell? ⟨b + 1, 0, none⟩ = some (.int .i64 n) ∧ Blk w' (b + 1 + 1) (bva x) 38 ∧ Blk w' q (bva y) 38) (by kernel_rfl) (⟨(HP.out _ _ _ (M.out.below (w2 := wc.drew) (Below.refl _ _).drew).at_).1, (HP.out _ _ _ (M.out.below (w2 := wc.drew) (Below.refl _ _).drew).at_).2.1, (HP.out _ _ _ (M.out.below (w2 := wc.drew) (Below.refl _ _).drew).at_).2.2.1, (HP.out _ _ _ (M.out.below (w2 := wc.drew) (Below.refl _ _).drew).at_).2.2.2, (X.out.below (w2 := wc.drew) (Below.refl _ _).drew).1⟩) (fun hh => ?_)
        have HH := Lib.hid hh
        clear hh
        refine wpAnyH_take (i := 0) (v := ?vEC0) rfl (by kernel_rfl) (by kernel_rfl) (by kernel_rfl) (fun _ _ _ h => h) (Or.inl ⟨by rfl, fun w' _ => ?yEC0⟩) HH.out ?_
        case yEC0 => (go_simp; try with_reducible rfl)
        refine wpAnyH_take (i := 1) (v := ?vEC1) rfl (by kernel_rfl) (by kernel_rfl) (by kernel_rfl) (fun _ _ _ h => h) (Or.inl ⟨by rfl, fun w' _ => ?yEC1⟩) HH.out ?_
        case yEC1 => (go_simp; try with_reducible rfl)
        try simp only [List.getElem_toArray, List.getElem_cons_succ, List.getElem_cons_zero, Act.put, List.setIfInBounds_toArray, List.set_cons_zero, List.set_cons_succ]
        refine wpAnyH_take (i := 2) (v := ?vEC2) rfl (by kernel_rfl) (by kernel_rfl) (by kernel_rfl) (fun _ _ _ h => h) (Or.inl ⟨by rfl, fun w' _ => ?yEC2⟩) HH.out ?_
        case yEC2 => (go_simp; try with_reducible rfl)
        refine wpAnyH_take (i := 3) (v := .agg (bva y)) rfl (by kernel_rfl) (by kernel_rfl) (by kernel_rfl) (fun _ _ _ h => h) (Or.inl ⟨by rfl, fun w' hw' => ?yEC3⟩) HH.out ?_
        case yEC3 => exact exec_load 38 (.tmp 6) rfl rfl hw'.2.2.2.2 Try.underlying38 rfl HIY.out
        refine wpAnyH_take (i := 4) (v := .agg (bva x)) rfl (by kernel_rfl) (by kernel_rfl) (by kernel_rfl) (fun _ _ _ h => h) (Or.inl ⟨by rfl, fun w' hw' => ?yEC4⟩) HH.out ?_
        case yEC4 => exact exec_load 38 (.tmp 3) rfl rfl hw'.2.2.2.1 Try.underlying38 rfl HIX.out
        try simp only [List.getElem_toArray, List.getElem_cons_succ, List.getElem_cons_zero, Act.put, List.setIfInBounds_toArray, List.set_cons_zero, List.set_cons_succ]
        refine wpAnyH_take (i := 5) (v := .bool false) rfl (by kernel_rfl) (by kernel_rfl) (by kernel_rfl) (fun _ _ _ h => h) (Or.inl ⟨by rfl, fun w' hw' => ?yEC5⟩) HH.out ?_
        case yEC5 => (go_simp; rw [HEQ.out]; rfl)
        try simp only [List.getElem_toArray, List.getElem_cons_succ, List.getElem_cons_zero, Act.put, List.setIfInBounds_toArray, List.set_cons_zero, List.set_cons_succ]
        refine wpAnyH_take (i := 6) (v := ?vEC6) rfl (by kernel_rfl) (by kernel_rfl) (by kernel_rfl) (fun _ _ _ h => h) (Or.inl ⟨by rfl, fun w' _ => ?yEC6⟩) HH.out ?_
        case yEC6 => (go_simp; try with_reducible rfl)
        refine wpAnyH_take (i := 7) (v := .pointer (some ⟨g, 0, none⟩)) rfl (by kernel_rfl) (by kernel_rfl) (by kernel_rfl) (fun _ _ _ h => h) (Or.inl ⟨by rfl, fun w' hw' => ?yEC7⟩) HH.out ?_
        case yEC7 => (have hc := hw'.2.1; go_simp; try with_reducible rfl)
        try simp only [List.getElem_toArray, List.getElem_cons_succ, List.getElem_cons_zero, Act.put, List.setIfInBounds_toArray, List.set_cons_zero, List.set_cons_succ]
        refine wpAnyH_take (i := 8) (v := ?vEC8) rfl (by kernel_rfl) (by kernel_rfl) (by kernel_rfl) (fun _ _ _ h => h) (Or.inl ⟨by rfl, fun w' _ => ?yEC8⟩) HH.out ?_
        case yEC8 => (go_simp; try with_reducible rfl)
        try simp only [List.getElem_toArray, List.getElem_cons_succ, List.getElem_cons_zero, Act.put, List.setIfInBounds_toArray, List.set_cons_zero, List.set_cons_succ]
        refine wpAnyH_take (i := 9) (v := ?vEC9) rfl (by kernel_rfl) (by kernel_rfl) (by kernel_rfl) (fun _ _ _ h => h) (Or.inl ⟨by rfl, fun w' _ => ?yEC9⟩) HH.out ?_
        case yEC9 => (go_simp; try with_reducible rfl)
        try simp only [List.getElem_toArray, List.getElem_cons_succ, List.getElem_cons_zero, Act.put, List.setIfInBounds_toArray, List.set_cons_zero, List.set_cons_succ]
        refine wpAnyH_take (i := 10) (v := ?vEC10) rfl (by kernel_rfl) (by kernel_rfl) (by kernel_rfl) (fun _ _ _ h => h) (Or.inl ⟨by rfl, fun w' _ => ?yEC10⟩) HH.out ?_
        case yEC10 => (go_simp; try with_reducible rfl)
        try simp only [List.getElem_toArray, List.getElem_cons_succ, List.getElem_cons_zero, Act.put, List.setIfInBounds_toArray, List.set_cons_zero, List.set_cons_succ]
        refine wpAnyH_take (i := 11) (v := ?vEC11) rfl (by kernel_rfl) (by kernel_rfl) (by kernel_rfl) (fun _ _ _ h => h) (Or.inl ⟨by rfl, fun w' _ => ?yEC11⟩) HH.out ?_
        case yEC11 => (go_simp; try with_reducible rfl)
        refine wpAnyH_take (i := 12) (v := .pointer P) rfl (by kernel_rfl) (by kernel_rfl) (by kernel_rfl) (fun _ _ _ h => h) (Or.inl ⟨by rfl, fun w' hw' => ?yEC12⟩) HH.out ?_
        case yEC12 => (have hc := hw'.1; go_simp; try with_reducible rfl)
        refine wpAnyH_take (i := 13) (v := .int .i64 n) rfl (by kernel_rfl) (by kernel_rfl) (by kernel_rfl) (fun _ _ _ h => h) (Or.inl ⟨by rfl, fun w' hw' => ?yEC13⟩) HH.out ?_
        case yEC13 => (have hc := hw'.2.2.1; go_simp; try with_reducible rfl)
        try simp only [List.getElem_toArray, List.getElem_cons_succ, List.getElem_cons_zero, Act.put, List.setIfInBounds_toArray, List.set_cons_zero, List.set_cons_succ]
        refine wpAnyH_take (i := 14) (v := .agg (bva x)) rfl (by kernel_rfl) (by kernel_rfl) (by kernel_rfl) (fun _ _ _ h => h) (Or.inl ⟨by rfl, fun w' hw' => ?yEC14⟩) HH.out ?_
        case yEC14 => exact exec_load 38 (.tmp 3) rfl rfl hw'.2.2.2.1 Try.underlying38 rfl HIX.out
        try simp only [List.getElem_toArray, List.getElem_cons_succ, List.getElem_cons_zero, Act.put, List.setIfInBounds_toArray, List.set_cons_zero, List.set_cons_succ]
        refine wpAnyH_ready (rs := [15]) (by kernel_rfl) (by simp) (AllReadyH.cons rfl (fun K hK => ?_) AllReadyH.nil)
        go_simp
        refine HCW.out.mono ?_
        rintro e2 w2 ⟨rfl, F2, hm2⟩
        have M2 := Lib.hid ((M.out.below (Below.refl _ _).drew).trans hm2)
        have X2 := Lib.hid ((X.out.below (Below.refl _ _).drew).step hm2)
        go_simp
        refine hK.out _ _ (⟨(HP.out _ _ _ M2.out.at_).1, (HP.out _ _ _ M2.out.at_).2.1, (HP.out _ _ _ M2.out.at_).2.2.1, (HP.out _ _ _ M2.out.at_).2.2.2, X2.out.1⟩) (fun hh => ?_)
        have HH' := Lib.hid hh
        clear hh hK K HH hm2 HCW
        have HH := Lib.hid HH'.out
        clear HH'
        try simp only [List.getElem_toArray, List.getElem_cons_succ, List.getElem_cons_zero, Act.put, List.setIfInBounds_toArray, List.set_cons_zero, List.set_cons_succ]
        refine wpAnyH_take (i := 16) (v := ?vEC16) rfl (by kernel_rfl) (by kernel_rfl) (by kernel_rfl) (fun _ _ _ h => h) (Or.inl ⟨by rfl, fun w' _ => ?yEC16⟩) HH.out ?_
        case yEC16 => (go_simp; try with_reducible rfl)
        try simp only [List.getElem_toArray, List.getElem_cons_succ, List.getElem_cons_zero, Act.put, List.setIfInBounds_toArray, List.set_cons_zero, List.set_cons_succ]
        refine wpAnyH_take (i := 17) (v := ?vEC17) rfl (by kernel_rfl) (by kernel_rfl) (by kernel_rfl) (fun _ _ _ h => h) (Or.inl ⟨by rfl, fun w' _ => ?yEC17⟩) HH.out ?_
        case yEC17 => (go_simp; try with_reducible rfl)
        refine wpAnyH_take (i := 18) (v := ?vEC18) rfl (by kernel_rfl) (by kernel_rfl) (by kernel_rfl) (fun _ _ _ h => h) (Or.inl ⟨by rfl, fun w' _ => ?yEC18⟩) HH.out ?_
        case yEC18 => (go_simp; try with_reducible rfl)
        refine wpAnyH_take (i := 19) (v := ?vEC19) rfl (by kernel_rfl) (by kernel_rfl) (by kernel_rfl) (fun _ _ _ h => h) (Or.inl ⟨by rfl, fun w' _ => ?yEC19⟩) HH.out ?_
        case yEC19 => (go_simp; try with_reducible rfl)
        try simp only [List.getElem_toArray, List.getElem_cons_succ, List.getElem_cons_zero, Act.put, List.setIfInBounds_toArray, List.set_cons_zero, List.set_cons_succ]
        refine wpAnyH_done (by kernel_rfl) ?_ _
        go_wp2_with fail
        go_ret
        exact ⟨by rw [HEND.out]; rfl, F2, by rw [HEND.out]; exact M2.out⟩
    · have HEND := Lib.hid (show RV = (false, s) by rw [HRV.out, if_neg hr0])
      have hd0 : (r == 0) = false := by simpa using hr0
      go_wp2_with fail
      refine wp_region_held_drew (S := fun w' => w'.cell? ⟨g, i, none⟩ = some (.pointer P) ∧ w'.cell? ⟨b, 0, none⟩ = some (.pointer (some ⟨g, 0, none⟩)) ∧ w'.cell? ⟨b + 1, 0, none⟩ = some (.int .i64 n) ∧ Blk w' (b + 1 + 1) (bva x) 38 ∧ Blk w' q (bva y) 38) (by kernel_rfl) (⟨(HP.out _ _ _ (M.out.below (w2 := wc.drew) (Below.refl _ _).drew).at_).1, (HP.out _ _ _ (M.out.below (w2 := wc.drew) (Below.refl _ _).drew).at_).2.1, (HP.out _ _ _ (M.out.below (w2 := wc.drew) (Below.refl _ _).drew).at_).2.2.1, (HP.out _ _ _ (M.out.below (w2 := wc.drew) (Below.refl _ _).drew).at_).2.2.2, (X.out.below (w2 := wc.drew) (Below.refl _ _).drew).1⟩) (fun hh => ?_)
      have HH := Lib.hid hh
      clear hh
      refine wpAnyH_take (i := 0) (v := ?vEA0) rfl (by kernel_rfl) (by kernel_rfl) (by kernel_rfl) (fun _ _ _ h => h) (Or.inl ⟨by rfl, fun w' _ => ?yEA0⟩) HH.out ?_
      case yEA0 => (go_simp; try with_reducible rfl)
      refine wpAnyH_take (i := 1) (v := .bool false) rfl (by kernel_rfl) (by kernel_rfl) (by kernel_rfl) (fun _ _ _ h => h) (Or.inl ⟨by rfl, fun w' hw' => ?yEA1⟩) HH.out ?_
      case yEA1 => (go_simp; try rw [hd0])
      try simp only [List.getElem_toArray, List.getElem_cons_succ, List.getElem_cons_zero, Act.put, List.setIfInBounds_toArray, List.set_cons_zero, List.set_cons_succ]
      refine wpAnyH_take (i := 2) (v := ?vEA2) rfl (by kernel_rfl) (by kernel_rfl) (by kernel_rfl) (fun _ _ _ h => h) (Or.inl ⟨by rfl, fun w' _ => ?yEA2⟩) HH.out ?_
      case yEA2 => (go_simp; try with_reducible rfl)
      refine wpAnyH_take (i := 3) (v := undef) rfl (by kernel_rfl) (by kernel_rfl) (by kernel_rfl) (fun _ _ _ h => h) (Or.inr ⟨by rfl, rfl⟩) HH.out ?_
      refine wpAnyH_take (i := 4) (v := undef) rfl (by kernel_rfl) (by kernel_rfl) (by kernel_rfl) (fun _ _ _ h => h) (Or.inr ⟨by rfl, rfl⟩) HH.out ?_
      try simp only [List.getElem_toArray, List.getElem_cons_succ, List.getElem_cons_zero, Act.put, List.setIfInBounds_toArray, List.set_cons_zero, List.set_cons_succ]
      refine wpAnyH_take (i := 5) (v := undef) rfl (by kernel_rfl) (by kernel_rfl) (by kernel_rfl) (fun _ _ _ h => h) (Or.inr ⟨by rfl, rfl⟩) HH.out ?_
      refine wpAnyH_take (i := 6) (v := undef) rfl (by kernel_rfl) (by kernel_rfl) (by kernel_rfl) (fun _ _ _ h => h) (Or.inr ⟨by rfl, rfl⟩) HH.out ?_
      refine wpAnyH_take (i := 7) (v := undef) rfl (by kernel_rfl) (by kernel_rfl) (by kernel_rfl) (fun _ _ _ h => h) (Or.inr ⟨by rfl, rfl⟩) HH.out ?_
      try simp only [List.getElem_toArray, List.getElem_cons_succ, List.getElem_cons_zero, Act.put, List.setIfInBounds_toArray, List.set_cons_zero, List.set_cons_succ]
      refine wpAnyH_take (i := 8) (v := undef) rfl (by kernel_rfl) (by kernel_rfl) (by kernel_rfl) (fun _ _ _ h => h) (Or.inr ⟨by rfl, rfl⟩) HH.out ?_
      refine wpAnyH_take (i := 9) (v := undef) rfl (by kernel_rfl) (by kernel_rfl) (by kernel_rfl) (fun _ _ _ h => h) (Or.inr ⟨by rfl, rfl⟩) HH.out ?_
      refine wpAnyH_take (i := 10) (v := undef) rfl (by kernel_rfl) (by kernel_rfl) (by kernel_rfl) (fun _ _ _ h => h) (Or.inr ⟨by rfl, rfl⟩) HH.out ?_
      try simp only [List.getElem_toArray, List.getElem_cons_succ, List.getElem_cons_zero, Act.put, List.setIfInBounds_toArray, List.set_cons_zero, List.set_cons_succ]
      refine wpAnyH_take (i := 11) (v := undef) rfl (by kernel_rfl) (by kernel_rfl) (by kernel_rfl) (fun _ _ _ h => h) (Or.inr ⟨by rfl, rfl⟩) HH.out ?_
      refine wpAnyH_take (i := 12) (v := undef) rfl (by kernel_rfl) (by kernel_rfl) (by kernel_rfl) (fun _ _ _ h => h) (Or.inr ⟨by rfl, rfl⟩) HH.out ?_
      refine wpAnyH_take (i := 13) (v := undef) rfl (by kernel_rfl) (by kernel_rfl) (by kernel_rfl) (fun _ _ _ h => h) (Or.inr ⟨by rfl, rfl⟩) HH.out ?_
      try simp only [List.getElem_toArray, List.getElem_cons_succ, List.getElem_cons_zero, Act.put, List.setIfInBounds_toArray, List.set_cons_zero, List.set_cons_succ]
      refine wpAnyH_take (i := 14) (v := undef) rfl (by kernel_rfl) (by kernel_rfl) (by kernel_rfl) (fun _ _ _ h => h) (Or.inr ⟨by rfl, rfl⟩) HH.out ?_
      refine wpAnyH_take (i := 15) (v := undef) rfl (by kernel_rfl) (by kernel_rfl) (by kernel_rfl) (fun _ _ _ h => h) (Or.inr ⟨by rfl, rfl⟩) HH.out ?_
      refine wpAnyH_take (i := 16) (v := undef) rfl (by kernel_rfl) (by kernel_rfl) (by kernel_rfl) (fun _ _ _ h => h) (Or.inr ⟨by rfl, rfl⟩) HH.out ?_
      try simp only [List.getElem_toArray, List.getElem_cons_succ, List.getElem_cons_zero, Act.put, List.setIfInBounds_toArray, List.set_cons_zero, List.set_cons_succ]
      refine wpAnyH_take (i := 17) (v := undef) rfl (by kernel_rfl) (by kernel_rfl) (by kernel_rfl) (fun _ _ _ h => h) (Or.inr ⟨by rfl, rfl⟩) HH.out ?_
      refine wpAnyH_take (i := 18) (v := ?vEA18) rfl (by kernel_rfl) (by kernel_rfl) (by kernel_rfl) (fun _ _ _ h => h) (Or.inl ⟨by rfl, fun w' _ => ?yEA18⟩) HH.out ?_
      case yEA18 => (go_simp; try with_reducible rfl)
      refine wpAnyH_take (i := 19) (v := ?vEA19) rfl (by kernel_rfl) (by kernel_rfl) (by kernel_rfl) (fun _ _ _ h => h) (Or.inl ⟨by rfl, fun w' _ => ?yEA19⟩) HH.out ?_
      case yEA19 => (go_simp; try with_reducible rfl)
      try simp only [List.getElem_toArray, List.getElem_cons_succ, List.getElem_cons_zero, Act.put, List.setIfInBounds_toArray, List.set_cons_zero, List.set_cons_succ]
      refine wpAnyH_done (by kernel_rfl) ?_ _
      go_wp2_with fail
      go_ret
      exact ⟨by rw [HEND.out]; rfl, F', by rw [HEND.out]; exact M.out.below (Below.refl _ _).drew⟩
theorem c1_ok {k i : Nat} {n : Int} {x : List UInt8} (h : s.ok k) : (s.c1 n x i).2.ok k := by
  unfold Mr.c1
  split
  · split
    · exact h
    · exact h
  · exact h
theorem c1_most {i : Nat} {n : Int} {x : List UInt8} (hi : i < 2) : C.most (s.c1 n x i).2.d ≤ C.most s.d + 1 := by
  unfold Mr.c1
  split
  · split
    · exact Nat.le_succ _
    · exact C.wr_most hi
  · exact Nat.le_succ _
def Mr.choose (s : Mr C) (n : Int) (x : List UInt8) : Int × Mr C :=
  if has s n then ((s.c1 n x 0).2.c1 n x 1).2.reach n.toNat (s.c1 n x 0).1 ((s.c1 n x 0).2.c1 n x 1).1 else (2, s)
set_option maxRecDepth 100000 in
set_option maxHeartbeats 6400000 in
theorem mchoose_no {p : Option Addr} {n : Int} (x : List UInt8) (hc : ∀ w', Below w.heap.size w w' → Calls Try.prog 89 #[.pointer p, .int .i64 n] w' (RetB (.bool false) w')) : Calls Try.prog 82 #[.pointer p, .int .i64 n, .agg (bva x)] w (RetB (.int .i64 2) w) := by
  obtain ⟨w3, hw3, h0, h1, h2, hb⟩ := three_boxes w (.cells #[.pointer p] 54) (.cells #[.int .i64 n] 3) (.cells (bva x) 38)
  have HC := Lib.hid (hc w3 hb)
  have HB := Lib.hid hb
  have c0 : w3.cell? ⟨w.heap.size, 0, none⟩ = some (.pointer p) := Blk.cell (show Blk w3 w.heap.size #[.pointer p] 54 from h0) 0
  have c1 : w3.cell? ⟨w.heap.size + 1, 0, none⟩ = some (.int .i64 n) := Blk.cell (show Blk w3 (w.heap.size + 1) #[.int .i64 n] 3 from h1) 0
  clear hc h0 h1 h2 hb
  go_enter Try.func82, Try.ntmps82
  go_upto_region 1 with fail
  rw [← hw3]
  clear hw3
  go_wp2_with fail
  refine HC.out.mono ?_
  rintro e w4 ⟨rfl, bw⟩
  go_wp2_with fail
  go_ret
  exact ⟨rfl, HB.out.trans (bw.mono HB.out.size)⟩
theorem mchoose_nil (n : Int) (x : List UInt8) : Calls Try.prog 82 #[.pointer none, .int .i64 n, .agg (bva x)] w (RetB (.int .i64 2) w) := mchoose_no x (fun w' _ => has_nil w' n)
set_option maxRecDepth 100000 in
set_option maxHeartbeats 6400000 in
theorem mchoose_any (h : (ML C G g).At w s F) {k : Nat} (hk : s.ok k) (n : Int) (x : List UInt8) (hx : x.length = 128) (hm : C.most s.d < 900000) : Calls Try.prog 82 #[.pointer (some ⟨g, 0, none⟩), .int .i64 n, .agg (bva x)] w (RetA (ML C G g) (.int .i64 (s.choose n x).1) (s.choose n x).2 F w) := by
  cases hh : has s n with
  | false =>
    rw [Mr.choose, hh, if_neg (by simp)]
    refine (mchoose_no x (fun w' hb => ?_)).mono fun _ _ hr => RetB.reta h hr
    have := has_any ((ML C G g).below h hb) n
    rwa [hh] at this
  | true =>
    obtain ⟨j, rfl⟩ : ∃ j : Nat, n = (j : Int) := ⟨n.toNat, by rw [has] at hh; simp at hh; omega⟩
    have hj : j < k := by rw [has] at hh; simp at hh; rw [← hk.1]; exact hh
    obtain ⟨w3, hw3, h0, h1, h2, hb⟩ := three_boxes w (.cells #[.pointer (some ⟨g, 0, none⟩)] 54) (.cells #[.int .i64 j] 3) (.cells (bva x) 38)
    have M3 := Lib.hid ((Mv.start h).below hb)
    obtain ⟨b, hbe⟩ : ∃ b, b = w.heap.size := ⟨_, rfl⟩
    have X3 := Lib.hid (show ∀ y ∈ argB g j x b, Bx w w3 F y.1 y.2.1 y.2.2 from by
      have hl := (ML C G g).lt h
      intro y hy
      rw [argB, hbe] at hy
      rcases List.mem_cons.1 hy with rfl | hy
      · exact ⟨h0, Nat.le_refl _, fun hf => by have := hl _ hf; omega⟩
      rcases List.mem_cons.1 hy with rfl | hy
      · exact ⟨h1, Nat.le_succ _, fun hf => by have := hl _ hf; omega⟩
      rw [List.mem_singleton] at hy
      subst hy
      exact ⟨h2, by omega, fun hf => by have := hl _ hf; omega⟩)
    have hhas := has_any M3.out.at_ (j : Int)
    rw [hh] at hhas
    have HH1 := Lib.hid hhas
    obtain ⟨sv, hsv⟩ : ∃ sv, sv = s.choose (j : Int) x := ⟨_, rfl⟩
    rw [← hsv]
    have HSV := Lib.hid (show sv = ((s.c1 (j : Int) x 0).2.c1 (j : Int) x 1).2.reach j (s.c1 (j : Int) x 0).1 ((s.c1 (j : Int) x 0).2.c1 (j : Int) x 1).1 by rw [hsv, Mr.choose, hh, if_pos rfl, Int.toNat_natCast])
    have HK := Lib.hid hk
    have HJ := Lib.hid hj
    have HX3 := Lib.hid hx
    have HM := Lib.hid hm
    have c0 : w3.cell? ⟨b, 0, none⟩ = some (.pointer (some ⟨g, 0, none⟩)) := by rw [hbe]; exact Blk.cell (show Blk w3 w.heap.size #[.pointer (some ⟨g, 0, none⟩)] 54 from h0) 0
    have c1 : w3.cell? ⟨b + 1, 0, none⟩ = some (.int .i64 j) := by rw [hbe]; exact Blk.cell (show Blk w3 (w.heap.size + 1) #[.int .i64 j] 3 from h1) 0
    clear hsv hhas hh hb h0 h1 h2 hk hj hx hm h
    go_enter Try.func82, Try.ntmps82
    go_upto_region 1 with fail
    rw [← hw3, ← hbe]
    clear hw3 hbe
    go_wp2_with fail
    refine HH1.out.mono ?_
    rintro e w4 ⟨rfl, bw⟩
    have M4 := Lib.hid (M3.out.below bw)
    have X4 := Lib.hid (show ∀ y ∈ argB g j x b, Bx w w4 F y.1 y.2.1 y.2.2 from fun y hy => (X3.out y hy).below bw)
    have d0 : w4.cell? ⟨b, 0, none⟩ = some (.pointer (some ⟨g, 0, none⟩)) := (X4.out _ (by unfold argB; exact List.mem_cons_self)).1.cell 0
    have d1 : w4.cell? ⟨b + 1, 0, none⟩ = some (.int .i64 j) := (X4.out _ (by unfold argB; exact List.mem_cons_of_mem _ List.mem_cons_self)).1.cell 0
    clear bw M3 X3 c0 c1 HH1
    go_wp2_with fail
    have hcall := reached_any (and_start M4.out X4.out) (n := j) (b := #[]) (c := #[.pointer (some ⟨b, 0, none⟩), .pointer (some ⟨b + 1, 0, none⟩), .pointer (some ⟨b + 1 + 1, 0, none⟩)]) (N := k) (s1 := (s.c1 (j : Int) x 0).2) (s2 := ((s.c1 (j : Int) x 0).2.c1 (j : Int) x 1).2) (c1_ok (c1_ok HK.out)) HJ.out choose1_enter
      (fun w' F' h => choose1_any h (i := 0) (by omega) HX3.out (by have := HM.out; omega)) (fun w' F' h => choose1_any (s := (s.c1 (j : Int) x 0).2) h (i := 1) (by omega) HX3.out (by have := HM.out; have := c1_most (s := s) (i := 0) (n := j) (x := x) (by omega); omega))
    rw [← HSV.out] at hcall
    refine hcall.mono ?_
    clear hcall
    rintro e w5 ⟨rfl, F5, hm5⟩
    have M5 := Lib.hid (and_end M4.out X4.out hm5)
    go_wp2_with fail
    go_ret
    exact ⟨rfl, M5.out⟩
end
end Go.Proofs.Ytgfldfofiglefaa.Mi
/-
  The contract of the mirror's Heal.
-/
namespace Go.Proofs.Ytgfldfofiglefaa.Mi
open Go.RowKit Kd
attribute [local go_sem ↓] Go.wp_at_zero Go.wp_at_succ
section
variable {C : Duo} {G : Gd} {g : Nat} {w : World} {s : Mr C} {F : Nat → Prop}
def Mr.healTo (s : Mr C) (i n : Nat) (x : List UInt8) : (Int × Int) × Mr C := (if (s.mend i n x).1 = 0 then (1, 0) else (0, (s.mend i n x).1), (s.mend i n x).2)
/-- What Heal tells, and makes of a mirror. -/
def Mr.heal (G : Gd) (s : Mr C) (n : Int) : (Int × Int) × Mr C :=
  if has s n then
    if C.there s.d 0 && C.there s.d 1 then
      (if right C G s 0 n.toNat then
        (if right C G s 1 n.toNat then (if rightV C G s 0 n.toNat = rightV C G s 1 n.toNat then ((0, 0), s) else s.healTo 1 n.toNat (rightV C G s 0 n.toNat))
         else s.healTo 1 n.toNat (rightV C G s 0 n.toNat))
       else if right C G s 1 n.toNat then s.healTo 0 n.toNat (rightV C G s 1 n.toNat) else ((2, 0), s))
    else ((0, 13), s)
  else ((0, 2), s)
def tup2 (x : Int × Int) : Value := .tuple #[.int .i64 x.1, .int .i64 x.2]
set_option maxRecDepth 100000 in
set_option maxHeartbeats 3200000 in
theorem heal_no {p : Option Addr} {n : Int} (hc : Calls Try.prog 89 #[.pointer p, .int .i64 n] w (RetB (.bool false) w)) : Calls Try.prog 34 #[.pointer p, .int .i64 n] w (RetB (tup2 (0, 2)) w) := by
  have HC := Lib.hid hc
  clear hc
  go_enter Try.func34, Try.ntmps34
  go_wp2_with fail
  refine HC.out.mono ?_
  rintro e w1 ⟨rfl, bw⟩
  have B1 := Lib.hid bw
  clear bw
  go_wp2_with fail
  exact bodyPost_ret (results_tmp2 Try.results34 _ _ _) rfl ⟨rfl, B1.out⟩
theorem heal_nil (n : Int) : Calls Try.prog 34 #[.pointer none, .int .i64 n] w (RetB (tup2 (0, 2)) w) := heal_no (has_nil w n)
set_option maxRecDepth 100000 in
set_option maxHeartbeats 12800000 in
theorem heal_any (h : (ML C G g).At w s F) {k : Nat} (hk : s.ok k) (n : Int) (hm : C.most s.d < 1000000) : Calls Try.prog 34 #[.pointer (some ⟨g, 0, none⟩), .int .i64 n] w (RetA (ML C G g) (tup2 (s.heal G n).1) (s.heal G n).2 F w) := by
  cases hh : has s n with
  | false =>
    rw [Mr.heal, hh, if_neg (by simp)]
    have := has_any h n
    rw [hh] at this
    exact (heal_no this).mono fun _ _ hr => RetB.reta h hr
  | true =>
    obtain ⟨j, rfl⟩ : ∃ j : Nat, n = (j : Int) := ⟨n.toNat, by rw [has] at hh; simp at hh; omega⟩
    have hj : j < k := by rw [has] at hh; simp at hh; rw [← hk.1]; exact hh
    have HJ := Lib.hid (show ∀ i, j < (s.st i).length from fun i => by rw [hk.st]; exact hj)
    obtain ⟨z, hz0⟩ : ∃ z : List UInt8, z = zeroS := ⟨_, rfl⟩
    have hz : ∀ W, (zeroValue 38).run Try.prog W = .ok (.agg (bva z)) W := fun _ => by rw [hz0]; kernel_rfl
    have HZ3 := Lib.hid (show z.length = 128 by rw [hz0]; exact zeroS_length)
    have hcc := has_any h (j : Int)
    rw [hh] at hcc
    have HC := Lib.hid hcc
    have M0 := Lib.hid (Mv.start h)
    obtain ⟨RV, hRV⟩ : ∃ RV, RV = s.heal G (j : Int) := ⟨_, rfl⟩
    rw [← hRV]
    rw [Mr.heal, hh, if_pos rfl, Int.toNat_natCast] at hRV
    obtain ⟨tt, htt⟩ : ∃ tt, tt = (C.there s.d 0 && C.there s.d 1) := ⟨_, rfl⟩
    have HW := Lib.hid (show ∀ w F, (ML C G g).At w s F → Calls Try.prog 86 #[.pointer (some ⟨g, 0, none⟩)] w (RetA (ML C G g) (.bool tt) s F w) from fun w F h => by rw [htt]; exact whole_any h)
    rw [← htt] at hRV
    obtain ⟨y0, hy0⟩ : ∃ y, y = rightV C G s 0 j := ⟨_, rfl⟩
    obtain ⟨y1, hy1⟩ : ∃ y, y = rightV C G s 1 j := ⟨_, rfl⟩
    obtain ⟨a, ha⟩ : ∃ a, a = right C G s 0 j := ⟨_, rfl⟩
    obtain ⟨b, hb⟩ : ∃ b, b = right C G s 1 j := ⟨_, rfl⟩
    have HR0 := Lib.hid (show ∀ w F, (ML C G g).At w s F → Calls Try.prog 90 #[.pointer (some ⟨g, 0, none⟩), .int .i64 0, .int .i64 j] w (RetB (.tuple #[.agg (bva y0), .bool a]) w) from fun w F h => by rw [hy0, ha]; exact right_any h (i := 0) (by omega) (HJ.out 0))
    have HR1 := Lib.hid (show ∀ w F, (ML C G g).At w s F → Calls Try.prog 90 #[.pointer (some ⟨g, 0, none⟩), .int .i64 1, .int .i64 j] w (RetB (.tuple #[.agg (bva y1), .bool b]) w) from fun w F h => by rw [hy1, hb]; exact right_any h (i := 1) (by omega) (HJ.out 1))
    have HY3 := Lib.hid (show y0.length = 128 by rw [hy0]; exact rightV_len h (by omega) j)
    have HY4 := Lib.hid (show y1.length = 128 by rw [hy1]; exact rightV_len h (by omega) j)
    have HIY : Hid ((Try.prog.info? 38).map (·.size) = some (bva y0).size) := by rw [bva_size, HY3.out]; exact info_sec
    have HIV : Hid ((Try.prog.info? 38).map (·.size) = some (bva y1).size) := by rw [bva_size, HY4.out]; exact info_sec
    rw [← hy0, ← hy1, ← ha, ← hb] at hRV
    have HRV := Lib.hid hRV
    have HM := Lib.hid hm
    clear hRV hz0 hcc hh hk hj h hm htt hy0 hy1 ha hb
    go_enter Try.func34, Try.ntmps34
    go_wp2_with fail
    refine HC.out.mono ?_
    rintro e w1 ⟨rfl, bw⟩
    have M1 := Lib.hid (M0.out.below bw)
    clear bw M0 HC
    go_wp2_with fail
    refine (HW.out _ _ M1.out.at_).mono ?_
    rintro e w2 ⟨rfl, F2, hm2⟩
    have M2 := Lib.hid (M1.out.trans hm2)
    clear hm2 M1 HW
    cases tt with
    | false =>
      have HEND := Lib.hid (show RV = ((0, 13), s) by rw [HRV.out, if_neg (by simp)])
      go_wp2_with fail
      exact bodyPost_ret (results_tmp2 Try.results34 _ _ _) rfl ⟨by rw [HEND.out]; rfl, F2, by rw [HEND.out]; exact M2.out⟩
    | true =>
      have HRV2 := Lib.hid (show RV = _ from by rw [HRV.out, if_pos rfl])
      clear HRV
      go_wp2_with fail
      refine (HR0.out _ _ M2.out.at_).mono ?_
      rintro e w3 ⟨rfl, bw⟩
      have M3 := Lib.hid (M2.out.below bw)
      clear bw M2 HR0
      go_wp2_with (show wpList _ _ _ ({ dst := none, op := .store 38 (.tmp 6) (.tmp 23), type := _, pos := _, after := _, guard := _ } :: _) _ _; apply Classical.byContradiction; intro hneg)
      refine hneg ?_
      clear hneg
      refine wpList_store_row rfl 38 (.tmp 6) (.tmp 23) rfl w3.heap.size (bva y0) rfl rfl 38 (bva z) (heap_alloc_new _ _) HIY.out (by rw [bva_size, bva_size, HY3.out, HZ3.out]) (bva_one _) ?_
      obtain ⟨w4, hw4⟩ : ∃ w4, w4 = (w3.alloc (.cells (bva z) 38)).setRow w3.heap.size (bva y0) := ⟨_, rfl⟩
      have hbw4 : Below w3.heap.size w3 w4 := by rw [hw4]; exact below_setRow ((Below.refl _ _).alloc (Nat.le_refl _) _) (Nat.le_refl _) _
      have BXw4 := Lib.hid (show Blk w4 w3.heap.size (bva y0) 38 from by rw [hw4]; exact setRow_heap _ _ _ _ _ _ (heap_alloc_new _ _))
      rw [← hw4]
      clear hw4
      have M4 := Lib.hid (M3.out.below hbw4)
      have X4 := Lib.hid (Bx.new M3.out BXw4.out (Nat.le_refl _))
      clear hbw4 M3 BXw4
      obtain ⟨b6, hb6⟩ : ∃ b6, b6 = w3.heap.size := ⟨_, rfl⟩
      rw [← hb6] at X4
      rw [← hb6]
      clear hb6
      go_wp2_with fail
      refine (HR1.out _ _ M4.out.at_).mono ?_
      rintro e w5 ⟨rfl, bw⟩
      have M5 := Lib.hid (M4.out.below bw)
      have X5 := Lib.hid (X4.out.below bw)
      clear bw M4 HR1 X4
      go_wp2_with (show wpList _ _ _ ({ dst := none, op := .store 38 (.tmp 8) (.tmp 29), type := _, pos := _, after := _, guard := _ } :: _) _ _; apply Classical.byContradiction; intro hneg)
      refine hneg ?_
      clear hneg
      refine wpList_store_row rfl 38 (.tmp 8) (.tmp 29) rfl w5.heap.size (bva y1) rfl rfl 38 (bva z) (heap_alloc_new _ _) HIV.out (by rw [bva_size, bva_size, HY4.out, HZ3.out]) (bva_one _) ?_
      obtain ⟨w6, hw6⟩ : ∃ w6, w6 = (w5.alloc (.cells (bva z) 38)).setRow w5.heap.size (bva y1) := ⟨_, rfl⟩
      have hbw6 : Below w5.heap.size w5 w6 := by rw [hw6]; exact below_setRow ((Below.refl _ _).alloc (Nat.le_refl _) _) (Nat.le_refl _) _
      have BXw6 := Lib.hid (show Blk w6 w5.heap.size (bva y1) 38 from by rw [hw6]; exact setRow_heap _ _ _ _ _ _ (heap_alloc_new _ _))
      rw [← hw6]
      clear hw6
      have M6 := Lib.hid (M5.out.below hbw6)
      have X6 := Lib.hid (X5.out.below hbw6)
      have Y6 := Lib.hid (Bx.new M5.out BXw6.out (Nat.le_refl _))
      clear hbw6 M5 BXw6 X5
      obtain ⟨b8, hb8⟩ : ∃ b8, b8 = w5.heap.size := ⟨_, rfl⟩
      rw [← hb8] at Y6
      rw [← hb8]
      clear hb8
      cases a
      · cases b
        · have HEND := Lib.hid (show RV = ((2, 0), s) by rw [HRV2.out, if_neg (by simp), if_neg (by simp)])
          go_wp2_with fail
          exact bodyPost_ret (results_tmp2 Try.results34 _ _ _) rfl ⟨by rw [HEND.out]; rfl, F2, by rw [HEND.out]; exact M6.out⟩
        · skip
          have HEND := Lib.hid (show RV = s.healTo 0 j y1 by rw [HRV2.out, if_neg (by simp), if_pos rfl])
          have HME := Lib.hid (mend_any M6.out.at_ (i := 0) (by omega) (HJ.out 0) y1 HY4.out HM.out)
          obtain ⟨r, hr⟩ : ∃ r, r = s.mend 0 j y1 := ⟨_, rfl⟩
          have HE2 := Lib.hid (show RV = (if r.1 = 0 then (1, 0) else (0, r.1), r.2) by rw [HEND.out, Mr.healTo, hr])
          rw [← hr] at HME
          clear hr HRV2 HEND
          go_wp2_with (first
            | (refine wpList_load_row rfl 38 (.tmp 6) rfl b6 rfl 38 (bva y0) (0, 0) _ X6.out.1 Try.underlying38 rfl HIY.out ?_)
            | (refine wpList_load_row rfl 38 (.tmp 8) rfl b8 rfl 38 (bva y1) (0, 0) _ Y6.out.1 Try.underlying38 rfl HIV.out ?_)
            | (refine wpList_execg8 rfl (exec_load 38 (.tmp 6) rfl rfl X6.out.1 Try.underlying38 rfl HIY.out) ?_)
            | (refine wpList_execg8 rfl (exec_load 38 (.tmp 8) rfl rfl Y6.out.1 Try.underlying38 rfl HIV.out) ?_))
          refine HME.out.mono ?_
          rintro e w7 ⟨rfl, F7, hm7⟩
          have M7 := Lib.hid (M6.out.trans hm7)
          clear hm7 M6 HME X6 Y6
          obtain ⟨r1, hr1⟩ : ∃ r1, r1 = r.1 := ⟨_, rfl⟩
          rw [← hr1]
          by_cases hr0 : r1 = 0
          · have HE3 := Lib.hid (show RV = ((1, 0), r.2) by rw [HE2.out, ← hr1, if_pos hr0])
            subst hr0
            clear hr1
            go_wp2_with fail
            refine (healed_ok _).mono ?_
            rintro e w8 ⟨rfl, rfl⟩
            go_wp2_with fail
            exact bodyPost_ret (results_tmp2 Try.results34 _ _ _) rfl ⟨by rw [HE3.out]; rfl, F7, by rw [HE3.out]; exact M7.out⟩
          · have HE3 := Lib.hid (show RV = ((0, r1), r.2) by rw [HE2.out, ← hr1, if_neg hr0])
            have HR0 := Lib.hid hr0
            clear hr1 hr0
            go_wp2_with fail
            refine (healed_no _ r1 HR0.out).mono ?_
            rintro e w8 ⟨rfl, rfl⟩
            go_wp2_with fail
            exact bodyPost_ret (results_tmp2 Try.results34 _ _ _) rfl ⟨by rw [HE3.out]; rfl, F7, by rw [HE3.out]; exact M7.out⟩
      · cases b
        · skip
          have HEND := Lib.hid (show RV = s.healTo 1 j y0 by rw [HRV2.out, if_pos rfl, if_neg (by simp)])
          have HME := Lib.hid (mend_any M6.out.at_ (i := 1) (by omega) (HJ.out 1) y0 HY3.out HM.out)
          obtain ⟨r, hr⟩ : ∃ r, r = s.mend 1 j y0 := ⟨_, rfl⟩
          have HE2 := Lib.hid (show RV = (if r.1 = 0 then (1, 0) else (0, r.1), r.2) by rw [HEND.out, Mr.healTo, hr])
          rw [← hr] at HME
          clear hr HRV2 HEND
          go_wp2_with (first
            | (refine wpList_load_row rfl 38 (.tmp 6) rfl b6 rfl 38 (bva y0) (0, 0) _ X6.out.1 Try.underlying38 rfl HIY.out ?_)
            | (refine wpList_load_row rfl 38 (.tmp 8) rfl b8 rfl 38 (bva y1) (0, 0) _ Y6.out.1 Try.underlying38 rfl HIV.out ?_)
            | (refine wpList_execg8 rfl (exec_load 38 (.tmp 6) rfl rfl X6.out.1 Try.underlying38 rfl HIY.out) ?_)
            | (refine wpList_execg8 rfl (exec_load 38 (.tmp 8) rfl rfl Y6.out.1 Try.underlying38 rfl HIV.out) ?_))
          refine HME.out.mono ?_
          rintro e w7 ⟨rfl, F7, hm7⟩
          have M7 := Lib.hid (M6.out.trans hm7)
          clear hm7 M6 HME X6 Y6
          obtain ⟨r1, hr1⟩ : ∃ r1, r1 = r.1 := ⟨_, rfl⟩
          rw [← hr1]
          by_cases hr0 : r1 = 0
          · have HE3 := Lib.hid (show RV = ((1, 0), r.2) by rw [HE2.out, ← hr1, if_pos hr0])
            subst hr0
            clear hr1
            go_wp2_with fail
            refine (healed_ok _).mono ?_
            rintro e w8 ⟨rfl, rfl⟩
            go_wp2_with fail
            exact bodyPost_ret (results_tmp2 Try.results34 _ _ _) rfl ⟨by rw [HE3.out]; rfl, F7, by rw [HE3.out]; exact M7.out⟩
          · have HE3 := Lib.hid (show RV = ((0, r1), r.2) by rw [HE2.out, ← hr1, if_neg hr0])
            have HR0 := Lib.hid hr0
            clear hr1 hr0
            go_wp2_with fail
            refine (healed_no _ r1 HR0.out).mono ?_
            rintro e w8 ⟨rfl, rfl⟩
            go_wp2_with fail
            exact bodyPost_ret (results_tmp2 Try.results34 _ _ _) rfl ⟨by rw [HE3.out]; rfl, F7, by rw [HE3.out]; exact M7.out⟩
        · by_cases hyy : y0 = y1
          · have HEND := Lib.hid (show RV = ((0, 0), s) by rw [HRV2.out, if_pos rfl, if_pos rfl, if_pos hyy])
            have hEQ : ∀ W, (Op.equalIn 10000 38 (.agg (bva y0)) (.agg (bva y1))).run Try.prog W = .ok true W := fun W => by rw [eq_sec _ _ HY3.out HY4.out, decide_eq_true hyy]
            clear hyy
            go_wp2_with (first
              | (refine wpList_load_row rfl 38 (.tmp 6) rfl b6 rfl 38 (bva y0) (0, 0) _ X6.out.1 Try.underlying38 rfl HIY.out ?_)
              | (refine wpList_load_row rfl 38 (.tmp 8) rfl b8 rfl 38 (bva y1) (0, 0) _ Y6.out.1 Try.underlying38 rfl HIV.out ?_)
              | (refine wpList_execg8 rfl (exec_load 38 (.tmp 6) rfl rfl X6.out.1 Try.underlying38 rfl HIY.out) ?_)
              | (refine wpList_execg8 rfl (exec_load 38 (.tmp 8) rfl rfl Y6.out.1 Try.underlying38 rfl HIV.out) ?_))
            exact bodyPost_ret (results_tmp2 Try.results34 _ _ _) rfl ⟨by rw [HEND.out]; rfl, F2, by rw [HEND.out]; exact M6.out⟩
          · have hEQ : ∀ W, (Op.equalIn 10000 38 (.agg (bva y0)) (.agg (bva y1))).run Try.prog W = .ok false W := fun W => by rw [eq_sec _ _ HY3.out HY4.out, decide_eq_false hyy]
            have HNE := Lib.hid hyy
            clear hyy
            have HEND := Lib.hid (show RV = s.healTo 1 j y0 by rw [HRV2.out, if_pos rfl, if_pos rfl, if_neg HNE.out])
            have HME := Lib.hid (mend_any M6.out.at_ (i := 1) (by omega) (HJ.out 1) y0 HY3.out HM.out)
            obtain ⟨r, hr⟩ : ∃ r, r = s.mend 1 j y0 := ⟨_, rfl⟩
            have HE2 := Lib.hid (show RV = (if r.1 = 0 then (1, 0) else (0, r.1), r.2) by rw [HEND.out, Mr.healTo, hr])
            rw [← hr] at HME
            clear hr HRV2 HEND
            go_wp2_with (first
              | (refine wpList_load_row rfl 38 (.tmp 6) rfl b6 rfl 38 (bva y0) (0, 0) _ X6.out.1 Try.underlying38 rfl HIY.out ?_)
              | (refine wpList_load_row rfl 38 (.tmp 8) rfl b8 rfl 38 (bva y1) (0, 0) _ Y6.out.1 Try.underlying38 rfl HIV.out ?_)
              | (refine wpList_execg8 rfl (exec_load 38 (.tmp 6) rfl rfl X6.out.1 Try.underlying38 rfl HIY.out) ?_)
              | (refine wpList_execg8 rfl (exec_load 38 (.tmp 8) rfl rfl Y6.out.1 Try.underlying38 rfl HIV.out) ?_))
            refine HME.out.mono ?_
            rintro e w7 ⟨rfl, F7, hm7⟩
            have M7 := Lib.hid (M6.out.trans hm7)
            clear hm7 M6 HME X6 Y6
            obtain ⟨r1, hr1⟩ : ∃ r1, r1 = r.1 := ⟨_, rfl⟩
            rw [← hr1]
            by_cases hr0 : r1 = 0
            · have HE3 := Lib.hid (show RV = ((1, 0), r.2) by rw [HE2.out, ← hr1, if_pos hr0])
              subst hr0
              clear hr1
              go_wp2_with fail
              refine (healed_ok _).mono ?_
              rintro e w8 ⟨rfl, rfl⟩
              go_wp2_with fail
              exact bodyPost_ret (results_tmp2 Try.results34 _ _ _) rfl ⟨by rw [HE3.out]; rfl, F7, by rw [HE3.out]; exact M7.out⟩
            · have HE3 := Lib.hid (show RV = ((0, r1), r.2) by rw [HE2.out, ← hr1, if_neg hr0])
              have HR0 := Lib.hid hr0
              clear hr1 hr0
              go_wp2_with fail
              refine (healed_no _ r1 HR0.out).mono ?_
              rintro e w8 ⟨rfl, rfl⟩
              go_wp2_with fail
              exact bodyPost_ret (results_tmp2 Try.results34 _ _ _) rfl ⟨by rw [HE3.out]; rfl, F7, by rw [HE3.out]; exact M7.out⟩
end
end Go.Proofs.Ytgfldfofiglefaa.Mi
/-
  The contract of the mirror's Flush.
-/
namespace Go.Proofs.Ytgfldfofiglefaa.Mi
open Go.RowKit Kd
attribute [local go_sem ↓] Go.wp_at_zero Go.wp_at_succ
section
variable {C : Duo} {G : Gd} {g : Nat} {w : World} {s : Mr C} {F : Nat → Prop}
def Mr.fl0 (s : Mr C) (i : Nat) : Mr C := ⟨(C.fl s.d i).2, s.a, s.b⟩
/-- What both tell as they are flushed. -/
def Mr.flushed (s : Mr C) : Bool × Bool := ((C.fl s.d 0).1 == 0, (C.fl (s.fl0 0).d 1).1 == 0)
def Mr.flush (s : Mr C) : Int × Mr C :=
  (if (C.there s.d 0 || C.there s.d 1) && s.flushed == (C.there s.d 0, C.there s.d 1) then 0 else 13, (s.fl0 0).fl0 1)
theorem each_flush (h : (ML C G g).At w s F) : Calls Try.prog 73 #[.func (.func 88) #[.pointer (some ⟨g, 0, none⟩)] #[]] w (RetA (ML C G g) (.agg (two2 s.flushed.1 s.flushed.2)) ((s.fl0 0).fl0 1) F w) :=
  each_any h flush_enter (fun _ _ h => mflush_any h (i := 0) (by omega)) (fun _ _ h => mflush_any (s := s.fl0 0) h (i := 1) (by omega))
theorem flush_nil (w : World) : Calls Try.prog 42 #[.pointer none] w (RetB (.int .i64 13) w) := by
  go_enter Try.func42, Try.ntmps42
  go_wp2_with fail
  go_ret
  exact ⟨rfl, Below.refl _ _⟩
set_option maxRecDepth 100000 in
set_option maxHeartbeats 6400000 in
theorem mflushm_any (h : (ML C G g).At w s F) : Calls Try.prog 42 #[.pointer (some ⟨g, 0, none⟩)] w (RetA (ML C G g) (.int .i64 s.flush.1) s.flush.2 F w) := by
  obtain ⟨a, ha⟩ : ∃ a, a = C.there s.d 0 := ⟨_, rfl⟩
  obtain ⟨b, hb⟩ : ∃ b, b = C.there s.d 1 := ⟨_, rfl⟩
  obtain ⟨c, hc⟩ : ∃ c, c = s.flushed.1 := ⟨_, rfl⟩
  obtain ⟨d, hd⟩ : ∃ d, d = s.flushed.2 := ⟨_, rfl⟩
  obtain ⟨s2, hs2⟩ : ∃ s2, s2 = (s.fl0 0).fl0 1 := ⟨_, rfl⟩
  obtain ⟨RV, hRV⟩ : ∃ RV, RV = s.flush := ⟨_, rfl⟩
  have HRV := Lib.hid (show RV = (if (a || b) && (c, d) == (a, b) then 0 else 13, s2) by rw [hRV, Mr.flush, ← ha, ← hb, hs2, show s.flushed = (c, d) by rw [hc, hd]])
  rw [← hRV]
  have HT := Lib.hid (each_there h)
  rw [← ha, ← hb] at HT
  have HF := Lib.hid (show ∀ w F, (ML C G g).At w s F → Calls Try.prog 73 #[.func (.func 88) #[.pointer (some ⟨g, 0, none⟩)] #[]] w (RetA (ML C G g) (.agg (two2 c d)) s2 F w) from fun w F h => by
    rw [hc, hd, hs2]; exact each_flush h)
  clear ha hb hc hd hs2 hRV h
  go_enter Try.func42, Try.ntmps42
  go_wp2_with fail
  refine HT.out.mono ?_
  rintro e w1 ⟨rfl, F1, hm⟩
  have M1 := Lib.hid hm
  clear hm HT
  have HI2 : ∀ a b, (Try.prog.info? 50).map (·.size) = some (two2 a b).size := fun _ _ => by kernel_rfl
  have HII := Lib.hid HI2
  clear HI2
  go_wp2_with (show wpList _ _ _ ({ dst := none, op := .store 50 (.tmp 3) (.tmp 9), type := _, pos := _, after := _, guard := _ } :: _) _ _; apply Classical.byContradiction; intro hneg)
  refine hneg ?_
  clear hneg
  refine wpList_store_row rfl 50 (.tmp 3) (.tmp 9) rfl w1.heap.size (two2 a b) rfl rfl 50 (two2 false false) (heap_alloc_new _ _) (HII.out _ _) (by rfl) (two2_one _ _) ?_
  obtain ⟨w2, hw2⟩ : ∃ w2, w2 = (w1.alloc (.cells #[.bool false, .bool false] 50)).setRow w1.heap.size (two2 a b) := ⟨_, rfl⟩
  have hb2 : Below w1.heap.size w1 w2 := by rw [hw2]; exact below_setRow ((Below.refl _ _).alloc (Nat.le_refl _) _) (Nat.le_refl _) _
  have X2 := Lib.hid (show Bx w w2 F1 w1.heap.size (two2 a b) 50 from Bx.new M1.out (by rw [hw2]; exact setRow_heap _ _ _ _ _ _ (heap_alloc_new _ _)) (Nat.le_refl _))
  have M2 := Lib.hid (M1.out.below hb2)
  rw [← hw2]
  clear hw2 hb2 M1
  obtain ⟨b3, hb3⟩ : ∃ b3, b3 = w1.heap.size := ⟨_, rfl⟩
  rw [← hb3] at X2
  rw [← hb3]
  clear hb3
  go_wp2_with fail
  refine (HF.out _ _ M2.out.at_).mono ?_
  rintro e w3 ⟨rfl, F3, hm⟩
  have M3 := Lib.hid (M2.out.trans hm)
  have X3 := Lib.hid (X2.out.step hm)
  clear hm HF M2 X2
  go_wp2_with (show wpList _ _ _ ({ dst := none, op := .store 50 (.tmp 4) (.tmp 12), type := _, pos := _, after := _, guard := _ } :: _) _ _; apply Classical.byContradiction; intro hneg)
  refine hneg ?_
  clear hneg
  refine wpList_store_row rfl 50 (.tmp 4) (.tmp 12) rfl w3.heap.size (two2 c d) rfl rfl 50 (two2 false false) (heap_alloc_new _ _) (HII.out _ _) (by rfl) (two2_one _ _) ?_
  obtain ⟨w4, hw4⟩ : ∃ w4, w4 = (w3.alloc (.cells #[.bool false, .bool false] 50)).setRow w3.heap.size (two2 c d) := ⟨_, rfl⟩
  have hb4 : Below w3.heap.size w3 w4 := by rw [hw4]; exact below_setRow ((Below.refl _ _).alloc (Nat.le_refl _) _) (Nat.le_refl _) _
  have X4 := Lib.hid (show Bx w w4 F3 w3.heap.size (two2 c d) 50 from Bx.new M3.out (by rw [hw4]; exact setRow_heap _ _ _ _ _ _ (heap_alloc_new _ _)) (Nat.le_refl _))
  have X5 := Lib.hid (X3.out.below hb4)
  have M4 := Lib.hid (M3.out.below hb4)
  rw [← hw4]
  clear hw4 hb4 M3 X3
  obtain ⟨b4, hb4⟩ : ∃ b4, b4 = w3.heap.size := ⟨_, rfl⟩
  rw [← hb4] at X4
  rw [← hb4]
  clear hb4
  have hE1 : ∀ W, (Op.equalIn 10000 50 (.agg #[.bool a, .bool b]) (.agg #[.bool false, .bool false])).run Try.prog W = .ok (!(a || b)) W := eq_ff a b
  have hE2 : ∀ W, (Op.equalIn 10000 50 (.agg (two2 c d)) (.agg (two2 a b))).run Try.prog W = .ok ((c == a) && (d == b)) W := eq_two c d a b
  obtain ⟨o, ho⟩ : ∃ o, o = (a || b) := ⟨_, rfl⟩
  rw [← ho] at hE1 HRV
  obtain ⟨q, hq⟩ : ∃ q, q = ((c == a) && (d == b)) := ⟨_, rfl⟩
  rw [← hq] at hE2
  have HEND := Lib.hid (show RV = (if o && q then 0 else 13, s2) by rw [HRV.out, hq]; rfl)
  clear ho hq
  cases o
  · go_wp2_with (refine wpList_load_row rfl 50 (.tmp 3) rfl b3 rfl 50 #[.bool a, .bool b] (0, 0) _ X5.out.1 Try.underlying50 rfl (HII.out _ _) ?_)
    go_ret
    exact ⟨by rw [HEND.out]; rfl, F3, by rw [HEND.out]; exact M4.out⟩
  · cases q
    · go_wp2_with (first
        | (refine wpList_load_row rfl 50 (.tmp 3) rfl b3 rfl 50 #[.bool a, .bool b] (0, 0) _ X5.out.1 Try.underlying50 rfl (HII.out _ _) ?_)
        | (refine wpList_execg8 rfl (exec_load 50 (.tmp 4) rfl rfl X4.out.1 Try.underlying50 rfl (HII.out _ _)) ?_)
        | (refine wpList_execg8 rfl (exec_load 50 (.tmp 3) rfl rfl X5.out.1 Try.underlying50 rfl (HII.out _ _)) ?_))
      go_ret
      exact ⟨by rw [HEND.out]; rfl, F3, by rw [HEND.out]; exact M4.out⟩
    · go_wp2_with (first
        | (refine wpList_load_row rfl 50 (.tmp 3) rfl b3 rfl 50 #[.bool a, .bool b] (0, 0) _ X5.out.1 Try.underlying50 rfl (HII.out _ _) ?_)
        | (refine wpList_execg8 rfl (exec_load 50 (.tmp 4) rfl rfl X4.out.1 Try.underlying50 rfl (HII.out _ _)) ?_)
        | (refine wpList_execg8 rfl (exec_load 50 (.tmp 3) rfl rfl X5.out.1 Try.underlying50 rfl (HII.out _ _)) ?_))
      go_ret
      exact ⟨by rw [HEND.out]; rfl, F3, by rw [HEND.out]; exact M4.out⟩
end
end Go.Proofs.Ytgfldfofiglefaa.Mi
/-
  The contracts of catchUp and Sync.
-/
namespace Go.Proofs.Ytgfldfofiglefaa.Mi
open Go.RowKit Kd
attribute [local go_sem ↓] Go.wp_at_zero Go.wp_at_succ
section
variable {C : Duo} {G : Gd} {g : Nat} {w : World} {s : Mr C} {F : Nat → Prop}
/-- One place of a device catches up. -/
def Mr.catch1 (G : Gd) (s : Mr C) (i n : Nat) : Mr C := if (s.st i).getD n false && right C G s (1 - i) n then (s.mend i n (rightV C G s (1 - i) n)).2 else s
def Mr.catchTo (G : Gd) (s : Mr C) (i : Nat) : Nat → Mr C
  | 0 => s
  | n + 1 => (s.catchTo G i n).catch1 G i n
theorem mend_ok {k i n : Nat} {x : List UInt8} (h : s.ok k) : (s.mend i n x).2.ok k := by
  unfold Mr.mend; dsimp only; split
  · exact Mr.ok.put h
  · exact h
theorem mend_most {i n : Nat} {x : List UInt8} (hi : i < 2) : C.most (s.mend i n x).2.d ≤ C.most s.d + 1 := by
  unfold Mr.mend; dsimp only; split
  · rw [put_d]; exact C.wr_most hi
  · exact C.wr_most hi
theorem catch1_ok {k i n : Nat} (h : s.ok k) : (s.catch1 G i n).ok k := by
  unfold Mr.catch1; split
  · exact mend_ok h
  · exact h
theorem catch1_most {i n : Nat} (hi : i < 2) : C.most (s.catch1 G i n).d ≤ C.most s.d + 1 := by
  unfold Mr.catch1; split
  · exact mend_most hi
  · exact Nat.le_succ _
theorem catchTo_ok {k i : Nat} (h : s.ok k) : ∀ n, (s.catchTo G i n).ok k
  | 0 => h
  | n + 1 => catch1_ok (catchTo_ok h n)
theorem catchTo_most {i : Nat} (hi : i < 2) : ∀ n, C.most (s.catchTo G i n).d ≤ C.most s.d + n
  | 0 => Nat.le_refl _
  | n + 1 => Nat.le_trans (catch1_most hi) (by have := catchTo_most hi n; omega)
theorem pin_cell {A B : Option Addr} {n c m e : Nat} {w : World} {s : Mr C} (h : (ML C (G.at A n c B m e) g).At w s F) {i : Nat} (hi : i < 2) :
    w.cell? ⟨g, 2 + i, none⟩ = some (if i = 0 then .slice A n c else .slice B m e) ∧ (s.st i).length = (if i = 0 then n else m) := by
  obtain ⟨A', n', c', B', m', e', F1, h, _⟩ := h
  obtain ⟨rfl, rfl, rfl, rfl, rfl, rfl⟩ := h.pin
  rcases two hi with rfl | rfl
  · exact ⟨h.blk.cell 2, h.an⟩
  · exact ⟨h.blk.cell 3, h.bn⟩
set_option maxRecDepth 100000 in
set_option maxHeartbeats 12800000 in
theorem catch_any (h : (ML C G g).At w s F) {k : Nat} (hk : s.ok k) (hkm : k ≤ 5000) {i : Nat} (hi : i < 2) (hm : C.most s.d < 800000) : Calls Try.prog 87 #[.pointer (some ⟨g, 0, none⟩), .int .i64 i] w (RetA (ML C G g) (.tuple #[]) (s.catchTo G i k) F w) := by
  obtain ⟨A, n, c, B, m, e, hR, hp⟩ := ml_pin h
  obtain ⟨G', hG'⟩ : ∃ G', G' = G.at A n c B m e := ⟨_, rfl⟩
  have HUN := Lib.hid (show ∀ w' s' F', Mv (ML C G' g) w F w' s' F' → Mv (ML C G g) w F w' s' F' from fun _ _ _ h => mv_unpin hR (by rw [← hG']; exact h))
  have HCT := Lib.hid (show ∀ s n, Mr.catchTo (C := C) G' s i n = Mr.catchTo G s i n from fun s n => by rw [hG']; induction n with
    | zero => rfl
    | succ n ih => rw [Mr.catchTo, Mr.catchTo, ih]; rfl)
  obtain ⟨V, hV⟩ : ∃ V : Option Addr × Nat × Nat, V = if i = 0 then (A, n, c) else (B, m, e) := ⟨_, rfl⟩
  have HPC := Lib.hid (show ∀ w' s' F', (ML C G' g).At w' s' F' → w'.cell? ⟨g, 2 + i, none⟩ = some (.slice V.1 V.2.1 V.2.2) ∧ (s'.st i).length = V.2.1 from fun w' s' F' h => by
    rw [hG'] at h
    obtain ⟨h1, h2⟩ := pin_cell h hi
    rw [h1, h2, hV]
    rcases two hi with rfl | rfl
    · exact ⟨rfl, rfl⟩
    · exact ⟨rfl, rfl⟩)
  rw [← hG'] at hp
  obtain ⟨D, N, j⟩ := V
  have hc2 := (HPC.out _ _ _ hp).1
  obtain rfl : k = N := by rw [← hk.st (i := i)]; exact (HPC.out _ _ _ hp).2
  have HK := Lib.hid hk
  have HI := Lib.hid hi
  have HM := Lib.hid hm
  have HKM := Lib.hid hkm
  have M0 := Lib.hid (Mv.start hp)
  have i0 : (0 : Int) ≤ (i : Int) := by omega
  have i1 : (i : Int) < 2 := by omega
  have w1i : IntKind.i64.wrap (1 - (i : Int)) = ((1 - i : Nat) : Int) := by rw [show (1 : Int) - (i : Int) = ((1 - i : Nat) : Int) by omega]; exact IntWalk.i64_in _ (by omega)
  obtain ⟨z, hz0⟩ : ∃ z : List UInt8, z = zeroS := ⟨_, rfl⟩
  have hz : ∀ W, (zeroValue 38).run Try.prog W = .ok (.agg (bva z)) W := fun _ => by rw [hz0]; kernel_rfl
  have HZ3 := Lib.hid (show z.length = 128 by rw [hz0]; exact zeroS_length)
  clear hz0 hk hkm hm hi h hp hR hG' hV
  go_enter Try.func87, Try.ntmps87
  go_wp2_with fail
  go_loopw [15] (fun x wr => ∃ (p : Nat) (F' : Nat → Prop), p ≤ k ∧ x = .int .i64 p ∧ Mv (ML C G' g) w F wr (s.catchTo G' i p) F') (fun x _ => k - (intOf x).toNat)
  case atStart => exact ⟨0, F, Nat.zero_le _, rfl, M0.out⟩
  case round =>
    clear M0 hc2
    obtain ⟨p, F', hpk, rfl, hmv⟩ := hrel
    have M := Lib.hid hmv
    have HP := Lib.hid hpk
    clear hmv hpk
    by_cases hlt : p < k
    · have HPL := Lib.hid hlt
      obtain ⟨s1, hs1⟩ : ∃ s1, s1 = s.catchTo G' i p := ⟨_, rfl⟩
      have HO1 := Lib.hid (show s1.ok k by rw [hs1]; exact catchTo_ok HK.out p)
      have HM1 := Lib.hid (show C.most s1.d < 900000 by rw [hs1]; have := catchTo_most (G := G') (s := s) HI.out p; have := HM.out; have := HKM.out; omega)
      have HS1 := Lib.hid (show s.catchTo G' i (p + 1) = s1.catch1 G' i p by rw [hs1]; rfl)
      rw [← hs1] at M
      obtain ⟨q, k', j', hc, hk', hkj', hj', hq, _, _⟩ := ml_stale M.out.at_ HI.out (show p < (s1.st i).length by rw [HO1.out.st]; exact hlt)
      have hsl := (HPC.out _ _ _ M.out.at_).1
      rw [hc] at hsl
      injection hsl with hsl
      injection hsl with e1 e2 e3
      replace e1 : D = some ⟨q, 0, none⟩ := e1.symm
      replace e2 : k' = k := e2
      replace e3 : j' = j := e3
      subst e1 e2 e3
      have p0 : (0 : Int) ≤ (p : Int) := by omega
      have p1 : (p : Int) < (k' : Int) := by omega
      have wp1 : IntKind.i64.wrap ((p : Int) + 1) = ((p + 1 : Nat) : Int) := IntWalk.i64_in _ (by have := HKM.out; omega)
      obtain ⟨t, ht⟩ : ∃ t, t = (s1.st i).getD p false := ⟨_, rfl⟩
      rw [← ht] at hq
      have HT := Lib.hid ht
      clear hs1 hc hk' hkj' hj' hlt ht
      cases t
      · have HE := Lib.hid (show s.catchTo G' i (p + 1) = s1 by rw [HS1.out, Mr.catch1, ← HT.out, Bool.false_and, if_neg (by simp)])
        go_wp2_with fail
        go_roundw
        case rel => exact ⟨p + 1, F', HPL.out, by go_num, by rw [HE.out]; exact M.out⟩
        case measure => (have := HPL.out; simp [intOf]; omega)
      · have HR := Lib.hid (right_any M.out.at_ (i := 1 - i) (n := p) (by omega) (by rw [HO1.out.st]; exact HPL.out))
        obtain ⟨y, hy⟩ : ∃ y, y = rightV C G' s1 (1 - i) p := ⟨_, rfl⟩
        obtain ⟨o, ho⟩ : ∃ o, o = right C G' s1 (1 - i) p := ⟨_, rfl⟩
        have HY3 := Lib.hid (show y.length = 128 by rw [hy]; exact rightV_len M.out.at_ (by omega) p)
        have HIY : Hid ((Try.prog.info? 38).map (·.size) = some (bva y).size) := by rw [bva_size, HY3.out]; exact info_sec
        have HE0 := Lib.hid (show s.catchTo G' i (p + 1) = if o then (s1.mend i p y).2 else s1 by rw [HS1.out, Mr.catch1, ← HT.out, Bool.true_and, ho, hy])
        rw [← hy, ← ho] at HR
        clear hy ho HS1 HT
        go_wp2_with fail
        refine HR.out.mono ?_
        rintro e w2 ⟨rfl, bw⟩
        have M2 := Lib.hid (M.out.below bw)
        clear bw M HR hq
        go_wp2_with (show wpList _ _ _ ({ dst := none, op := .store 38 (.tmp 6) (.tmp 28), type := _, pos := _, after := _, guard := _ } :: _) _ _; apply Classical.byContradiction; intro hneg)
        refine hneg ?_
        clear hneg
        refine wpList_store_row rfl 38 (.tmp 6) (.tmp 28) rfl w2.heap.size (bva y) rfl rfl 38 (bva z) (heap_alloc_new _ _) HIY.out (by rw [bva_size, bva_size, HY3.out, HZ3.out]) (bva_one _) ?_
        obtain ⟨w3, hw3⟩ : ∃ w3, w3 = (w2.alloc (.cells (bva z) 38)).setRow w2.heap.size (bva y) := ⟨_, rfl⟩
        have hbw3 : Below w2.heap.size w2 w3 := by rw [hw3]; exact below_setRow ((Below.refl _ _).alloc (Nat.le_refl _) _) (Nat.le_refl _) _
        have BXw3 := Lib.hid (show Blk w3 w2.heap.size (bva y) 38 from by rw [hw3]; exact setRow_heap _ _ _ _ _ _ (heap_alloc_new _ _))
        rw [← hw3]
        clear hw3
        have M3 := Lib.hid (M2.out.below hbw3)
        clear hbw3 M2
        cases o
        · have HE := Lib.hid (show s.catchTo G' i (p + 1) = s1 by rw [HE0.out, if_neg (by simp)])
          go_wp2_with fail
          go_roundw
          case rel => exact ⟨p + 1, F', HPL.out, by go_num, by rw [HE.out]; exact M3.out⟩
          case measure => (have := HPL.out; simp [intOf]; omega)
        · have HE := Lib.hid (show s.catchTo G' i (p + 1) = (s1.mend i p y).2 by rw [HE0.out, if_pos rfl])
          have HME := Lib.hid (mend_any M3.out.at_ HI.out (n := p) (by rw [HO1.out.st]; exact HPL.out) y HY3.out (by have := HM1.out; omega))
          go_wp2_with (refine wpList_load_row rfl 38 (.tmp 6) rfl w2.heap.size rfl 38 (bva y) (0, 0) _ BXw3.out Try.underlying38 rfl HIY.out ?_)
          refine HME.out.mono ?_
          rintro e w4 ⟨rfl, F4, hm4⟩
          have M4 := Lib.hid (M3.out.trans hm4)
          clear hm4 M3 HME BXw3
          go_wp2_with fail
          go_roundw
          case rel => exact ⟨p + 1, F4, HPL.out, by go_num, by rw [HE.out]; exact M4.out⟩
          case measure => (have := HPL.out; simp [intOf]; omega)
    · obtain rfl : p = k := by have := HP.out; omega
      clear hlt
      go_wp2_with fail
      exact bodyPost_end (results_none Try.results87 _ _ _) rfl ⟨rfl, F', HUN.out _ _ _ (by rw [← HCT.out]; exact M.out)⟩
/-- What Sync makes of a mirror, and tells. -/
def Mr.caught (G : Gd) (s : Mr C) (k : Nat) : Mr C := (s.catchTo G 0 k).catchTo G 1 k
def Mr.sync (G : Gd) (s : Mr C) (k : Nat) : Int × Mr C :=
  if C.there s.d 0 && C.there s.d 1 then
    (if (s.caught G k).flushed = (true, true) then (if cnt (((s.caught G k).fl0 0).fl0 1).a = 0 ∧ cnt (((s.caught G k).fl0 0).fl0 1).b = 0 then 0 else 9) else 13, ((s.caught G k).fl0 0).fl0 1)
  else (13, s)
theorem sync_nil (w : World) : Calls Try.prog 33 #[.pointer none] w (RetB (.int .i64 13) w) := by
  go_enter Try.func33, Try.ntmps33
  go_wp2_with fail
  go_ret
  exact ⟨rfl, Below.refl _ _⟩
set_option maxRecDepth 100000 in
set_option maxHeartbeats 12800000 in
theorem sync_any (h : (ML C G g).At w s F) {k : Nat} (hk : s.ok k) (hkm : k ≤ 5000) (hm : C.most s.d < 700000) : Calls Try.prog 33 #[.pointer (some ⟨g, 0, none⟩)] w (RetA (ML C G g) (.int .i64 (s.sync G k).1) (s.sync G k).2 F w) := by
  have HK := Lib.hid hk
  have HM := Lib.hid hm
  have HKM := Lib.hid hkm
  obtain ⟨tt, htt⟩ : ∃ tt, tt = (C.there s.d 0 && C.there s.d 1) := ⟨_, rfl⟩
  have HW := Lib.hid (whole_any h)
  rw [← htt] at HW
  have M0 := Lib.hid (Mv.start h)
  obtain ⟨RV, hRV⟩ : ∃ RV, RV = s.sync G k := ⟨_, rfl⟩
  rw [← hRV]
  rw [Mr.sync, ← htt] at hRV
  have HRV := Lib.hid hRV
  clear hk hm hkm htt hRV h
  go_enter Try.func33, Try.ntmps33
  go_wp2_with fail
  refine HW.out.mono ?_
  rintro e w1 ⟨rfl, F1, hm1⟩
  have M1 := Lib.hid (M0.out.trans hm1)
  clear hm1 M0 HW
  cases tt with
  | false =>
    have HE := Lib.hid (show RV = (13, s) by rw [HRV.out, if_neg (by simp)])
    go_wp2_with fail
    go_ret
    exact ⟨by rw [HE.out]; rfl, F1, by rw [HE.out]; exact M1.out⟩
  | true =>
    have HRV2 := Lib.hid (show RV = _ from by rw [HRV.out, if_pos rfl])
    clear HRV
    go_wp2_with fail
    go_loopw [13] (fun x wr => ∃ (p : Nat) (F' : Nat → Prop) (s' : Mr C), x = .int .i64 p ∧ Mv (ML C G g) w F wr s' F' ∧ ((p = 0 ∧ s' = s) ∨ (p = 1 ∧ s' = s.catchTo G 0 k) ∨ (p = 2 ∧ s' = s.caught G k))) (fun x _ => 2 - (intOf x).toNat)
    case atStart => exact ⟨0, F1, s, rfl, M1.out, .inl ⟨rfl, rfl⟩⟩
    case round =>
      clear M1
      obtain ⟨p, F', s', rfl, hmv, hp⟩ := hrel
      have M := Lib.hid hmv
      clear hmv
      rcases hp with ⟨rfl, hs⟩ | ⟨rfl, hs⟩ | ⟨rfl, hs⟩
      · have HS := Lib.hid hs
        have HCA := Lib.hid (catch_any M.out.at_ (k := k) (by rw [hs]; exact HK.out) HKM.out (i := 0) (by omega) (by rw [hs]; have := HM.out; omega))
        clear hs
        go_wp2_with fail
        refine HCA.out.mono ?_
        rintro e w2 ⟨rfl, F2, hm2⟩
        have M2 := Lib.hid (M.out.trans hm2)
        clear hm2 M HCA
        go_wp2_with fail
        go_roundw
        case rel => exact ⟨1, F2, s'.catchTo G 0 k, rfl, M2.out, .inr (.inl ⟨rfl, by rw [HS.out]⟩)⟩
        case measure => simp [intOf]
      · have HS := Lib.hid hs
        have HCA := Lib.hid (catch_any M.out.at_ (k := k) (by rw [hs]; exact catchTo_ok HK.out k) HKM.out (i := 1) (by omega) (by rw [hs]; have := HM.out; have := HKM.out; have := catchTo_most (G := G) (s := s) (i := 0) (by omega) k; omega))
        clear hs
        go_wp2_with fail
        refine HCA.out.mono ?_
        rintro e w2 ⟨rfl, F2, hm2⟩
        have M2 := Lib.hid (M.out.trans hm2)
        clear hm2 M HCA
        go_wp2_with fail
        go_roundw
        case rel => exact ⟨2, F2, s'.catchTo G 1 k, rfl, M2.out, .inr (.inr ⟨rfl, by rw [HS.out]; rfl⟩)⟩
        case measure => simp [intOf]
      · subst hs
        obtain ⟨s2, hs2⟩ : ∃ s2, s2 = s.caught G k := ⟨_, rfl⟩
        obtain ⟨s3, hs3⟩ : ∃ s3, s3 = (s2.fl0 0).fl0 1 := ⟨_, rfl⟩
        obtain ⟨a, ha⟩ : ∃ a, a = s2.flushed.1 := ⟨_, rfl⟩
        obtain ⟨b, hb⟩ : ∃ b, b = s2.flushed.2 := ⟨_, rfl⟩
        rw [← hs2] at M HRV2
        have HEF := Lib.hid (each_flush M.out.at_)
        rw [← hs3] at HEF HRV2
        rw [← ha, ← hb] at HEF
        rw [show s2.flushed = (a, b) by rw [ha, hb]] at HRV2
        have hE : ∀ W, (Op.equalIn 10000 50 (.agg (two2 a b)) (.agg #[.bool true, .bool true])).run Try.prog W = .ok (a && b) W := fun W => by
          have h := eq_two a b true true W
          rwa [show ((a == true) && (b == true)) = (a && b) by cases a <;> cases b <;> rfl] at h
        obtain ⟨o, ho⟩ : ∃ o, o = (a && b) := ⟨_, rfl⟩
        rw [← ho] at hE
        have HRV3 := Lib.hid (show RV = (if o then (if cnt s3.a = 0 ∧ cnt s3.b = 0 then 0 else 9) else 13, s3) by rw [HRV2.out, ho]; cases a <;> cases b <;> rfl)
        clear hs2 hs3 ha hb ho HRV2
        go_wp2_with fail
        refine HEF.out.mono ?_
        rintro e w2 ⟨rfl, F2, hm2⟩
        have M2 := Lib.hid (M.out.trans hm2)
        clear hm2 M HEF
        cases o
        · have HE := Lib.hid (show RV = (13, s3) by rw [HRV3.out, if_neg (by simp)])
          go_wp2_with fail
          go_ret
          exact ⟨by rw [HE.out]; rfl, F2, by rw [HE.out]; exact M2.out⟩
        · have HST := Lib.hid (stale_any M2.out.at_)
          obtain ⟨x, hx⟩ : ∃ x, x = cnt s3.a := ⟨_, rfl⟩
          obtain ⟨y, hy⟩ : ∃ y, y = cnt s3.b := ⟨_, rfl⟩
          rw [← hx, ← hy] at HST HRV3
          clear hx hy
          go_wp2_with fail
          refine HST.out.mono ?_
          rintro e w3 ⟨rfl, bw⟩
          have M3 := Lib.hid (M2.out.below bw)
          clear bw M2 HST
          by_cases hx : x = 0
          · subst hx
            by_cases hy : y = 0
            · subst hy
              have HE := Lib.hid (show RV = (0, s3) by rw [HRV3.out, if_pos trivial, if_pos ⟨rfl, rfl⟩])
              go_wp2_with fail
              go_ret
              exact ⟨by rw [HE.out]; rfl, F2, by rw [HE.out]; exact M3.out⟩
            · have HE := Lib.hid (show RV = (9, s3) by rw [HRV3.out, if_pos trivial, if_neg (fun h => hy h.2)])
              have hyp : (0 : Int) < (y : Int) := by omega
              clear hy
              go_wp2_with fail
              go_ret
              exact ⟨by rw [HE.out]; rfl, F2, by rw [HE.out]; exact M3.out⟩
          · have HE := Lib.hid (show RV = (9, s3) by rw [HRV3.out, if_pos trivial, if_neg (fun h => hx h.1)])
            have hxp : (0 : Int) < (x : Int) := by omega
            clear hx
            go_wp2_with fail
            go_ret
            exact ⟨by rw [HE.out]; rfl, F2, by rw [HE.out]; exact M3.out⟩
end
end Go.Proofs.Ytgfldfofiglefaa.Mi
/-
  Deeds: how a row of them that came in is opened, and how one is read.
-/
namespace Go.Proofs.Ytgfldfofiglefaa.Kd
open Go.RowKit
/-- A deed: On, Kind, N, M, C. -/
structure Dd where
  on : Int
  kind : Int
  n : Int
  m : Int
  c : UInt8
def ddV (x : Dd) : List Value := [.int .i64 x.on, .int .i64 x.kind, .int .i64 x.n, .int .i64 x.m, .int .u8 (x.c.toNat : Int)]
def ddN : Dd := ⟨0, 0, 0, 0, 0⟩
def dds : List Dd → List Value
  | [] => []
  | x :: l => ddV x ++ dds l
theorem dds_append (a b : List Dd) : dds (a ++ b) = dds a ++ dds b := by
  induction a with
  | nil => rfl
  | cons x l ih => simp [dds, ih]
theorem ddV_length (x : Dd) : (ddV x).length = 5 := rfl
theorem dds_length (l : List Dd) : (dds l).length = l.length * 5 := by
  induction l with
  | nil => rfl
  | cons x l ih => rw [dds, List.length_append, ddV_length, ih, List.length_cons]; omega
theorem dds_get {l : List Dd} {k : Nat} (hk : k < l.length) {j : Nat} {v : Value} (hv : (ddV l[k])[j]? = some v) : (dds l)[5 * k + j]? = some v := by
  induction l generalizing k with
  | nil => simp at hk
  | cons x l ih =>
    cases k with
    | zero =>
      have hj : j < 5 := (List.getElem?_eq_some_iff.1 hv).1
      rw [dds, Nat.mul_zero, Nat.zero_add, List.getElem?_append_left (by rw [ddV_length]; omega)]
      exact hv
    | succ k =>
      rw [dds, List.getElem?_append_right (by rw [ddV_length]; omega), ddV_length, show 5 * (k + 1) + j - 5 = 5 * k + j by omega]
      exact ih (by simpa using hk) (by simpa using hv)
/-- All of a deed's numbers are numbers. -/
def Dd.ok (x : Dd) : Prop := (-9223372036854775808 ≤ x.on ∧ x.on ≤ 9223372036854775807) ∧ (-9223372036854775808 ≤ x.kind ∧ x.kind ≤ 9223372036854775807) ∧ (-9223372036854775808 ≤ x.n ∧ x.n ≤ 9223372036854775807) ∧ (-9223372036854775808 ≤ x.m ∧ x.m ≤ 9223372036854775807)
/-- A deed of a row, read. -/
theorem rd_deed {B : Nat} {w : World} {A : Option Addr} {l : List Dd} (h : Rd B w A (dds l)) {k : Nat} (hk : k < l.length) :
    ∃ ad, A = some ad ∧ ad.block < B ∧ ∀ j v, (ddV l[k])[j]? = some v → w.cell? ((ad.add (k * 5)).add j) = some v := by
  obtain ⟨ad, hA, hb, _⟩ := h _ _ (dds_get hk (j := 0) (v := .int .i64 l[k].on) rfl)
  refine ⟨ad, hA, hb, fun j v hv => ?_⟩
  obtain ⟨ad', hA', _, hc⟩ := h _ _ (dds_get hk hv)
  rw [hA] at hA'; injection hA' with hA'
  rw [hA', add_twice8, Nat.mul_comm k 5]
  exact hc
section
open Go.ChangeShapes Go.WideShapes
variable {H : Type} {enc : TypeId × Value → H} {w : World} {base : Nat} {spare : Nat → Bool} {held : Bool}
theorem deed_fields : (Try.prog.fieldsOf 36).toList.map (fun f => (f.name == "_", f.type, f.offset)) = [(false, 3, 0), (false, 3, 1), (false, 3, 2), (false, 3, 3), (false, 5, 4)] := by kernel_rfl
theorem deed_under : Try.prog.underlying 36 = some (.struct (Try.prog.fieldsOf 36)) := by kernel_rfl
set_option maxRecDepth 100000 in
theorem deed_of_trod {fuel : Nat} {cs : List Value} {x : DataW H × List MemPlace} (h : DataW.trod enc Try.prog w base spare held fuel 36 cs = some x) :
    ∃ y : Dd, cs = ddV y ∧ y.ok := by
  obtain ⟨xs, n, _, _, hl, hlen, hf⟩ := DataW.trod_struct deed_under h
  have hfs := deed_fields
  have hcn : Try.prog.cellsOf 36 = 5 := by kernel_rfl
  have hci : Try.prog.cellsOf 3 = 1 := by kernel_rfl
  have hcb : Try.prog.cellsOf 5 = 1 := by kernel_rfl
  generalize Try.prog.fieldsOf 36 = fs at hfs hlen hf
  rw [hcn] at hl
  obtain ⟨L⟩ := fs
  have hL5 : L.length = 5 := by simpa using congrArg List.length hfs
  match L, hL5, hfs, hf, hlen with
  | [f0, f1, f2, f3, f4], _, hfs, hf, hlen =>
    simp only [List.map_cons, List.map_nil, List.cons.injEq, Prod.mk.injEq, and_true] at hfs
    obtain ⟨⟨_, t0, o0⟩, ⟨_, t1, o1⟩, ⟨_, t2, o2⟩, ⟨_, t3, o3⟩, ⟨_, t4, o4⟩⟩ := hfs
    have h5 : xs.length = 5 := hlen
    have g0 := hf 0 f0 rfl
    have g1 := hf 1 f1 rfl
    have g2 := hf 2 f2 rfl
    have g3 := hf 3 f3 rfl
    have g4 := hf 4 f4 rfl
    rw [t0, o0, hci, List.getElem?_eq_getElem (by omega)] at g0
    rw [t1, o1, hci, List.getElem?_eq_getElem (by omega)] at g1
    rw [t2, o2, hci, List.getElem?_eq_getElem (by omega)] at g2
    rw [t3, o3, hci, List.getElem?_eq_getElem (by omega)] at g3
    rw [t4, o4, hcb, List.getElem?_eq_getElem (by omega)] at g4
    obtain ⟨a0, e0, _, w0⟩ := DataW.trod_int Try.underlying3 g0
    obtain ⟨a1, e1, _, w1⟩ := DataW.trod_int Try.underlying3 g1
    obtain ⟨a2, e2, _, w2⟩ := DataW.trod_int Try.underlying3 g2
    obtain ⟨a3, e3, _, w3⟩ := DataW.trod_int Try.underlying3 g3
    obtain ⟨a4, e4, _, w4⟩ := DataW.trod_int Try.underlying5 g4
    match cs, hl with
    | [u0, u1, u2, u3, u4], _ =>
      simp at e0 e1 e2 e3 e4
      exact ⟨⟨a0, a1, a2, a3, byteOf a4⟩, by rw [e0, e1, e2, e3, e4]; unfold ddV; rw [byteOf_val w4], bounds_i64 w0, bounds_i64 w1, bounds_i64 w2, bounds_i64 w3⟩
/-- A row of deeds that came in. -/
theorem open_deeds {a : Option Addr} {len cap : Nat} {d : DataW H} {ps : List MemPlace} (h : DataW.Trod enc Try.prog w base spare held 22 (.slice a len cap) d ps) :
    ∃ l : List Dd, l.length = len ∧ len ≤ cap ∧ cap ≤ maxLen ∧ Rd w.heap.size w a (dds l) ∧ ∀ y ∈ l, y.ok := by
  obtain ⟨fuel, hf⟩ := h
  have hf' : DataW.trod enc Try.prog w base spare held fuel 22 [Value.slice a len cap] = some (d, ps) := hf
  have hcn : Try.prog.cellsOf 36 = 5 := by kernel_rfl
  rcases Go.Deep.open_slice Try.underlying22 hf' with ⟨hcs, _⟩ | ⟨a', len', cap', m, n, D, Pl, hcs, _, hl, hm, hmm, _, hx⟩
  · simp only [List.cons.injEq, and_true] at hcs
    injection hcs with e1 e2 e3
    subst e1; subst e2; subst e3
    exact ⟨[], rfl, Nat.le_refl _, Nat.zero_le _, Rd.none, fun y hy => by simp at hy⟩
  · simp only [List.cons.injEq, and_true] at hcs
    injection hcs with e1 e2 e3
    subst e1; subst e2; subst e3
    have hlm : len ≤ m := by rw [hmm]; split <;> omega
    rw [hcn] at hx
    have hall : ∀ j, j ≤ len → ∃ l : List Dd, l.length = j ∧ (∀ y ∈ l, y.ok) ∧ ∀ k u, (dds l)[k]? = some u → w.cell? (a'.add k) = some u := by
      intro j
      induction j with
      | zero => exact fun _ => ⟨[], rfl, fun y hy => by simp at hy, fun k u hu => by simp [dds] at hu⟩
      | succ j ih =>
        intro hj
        obtain ⟨l, hl', hb, hc⟩ := ih (by omega)
        obtain ⟨cs', h1, h2⟩ := hx j (by omega)
        obtain ⟨y, hy, hyb⟩ := deed_of_trod h2
        obtain ⟨_, _, hcl⟩ := World.cells?_some h1
        have hnl : (dds l).length = j * 5 := by rw [dds_length, hl']
        refine ⟨l ++ [y], by simp [hl'], fun z hz => ?_, fun k u hu => ?_⟩
        · rcases List.mem_append.1 hz with hz | hz
          · exact hb z hz
          · rw [List.mem_singleton] at hz; rw [hz]; exact hyb
        · rw [dds_append] at hu
          rcases Nat.lt_or_ge k (dds l).length with hk | hk
          · rw [List.getElem?_append_left hk] at hu
            exact hc k u hu
          · rw [List.getElem?_append_right hk, dds, dds, List.append_nil, ← hy, hnl] at hu
            have hk5 : k - j * 5 < 5 := by
              have := (List.getElem?_eq_some_iff.1 hu).1
              rw [hy, ddV_length] at this; exact this
            have h3 := hcl (k - j * 5) hk5
            rw [add_twice8, show j * 5 + (k - j * 5) = k by omega, hu] at h3
            exact h3
    obtain ⟨l, hl', hb, hc⟩ := hall len (Nat.le_refl _)
    refine ⟨l, hl', hl, hm, fun k u hu => ⟨a', rfl, ?_, hc k u hu⟩, hb⟩
    have := World.block_lt_of_cell? _ _ (hc k u hu)
    rw [add_block] at this
    exact this
end
end Go.Proofs.Ytgfldfofiglefaa.Kd
/-
  A device that lies; a row of sectors that is appended to. The rows of deeds in the laws.
-/
namespace Go.Proofs.Ytgfldfofiglefaa.Kd
open Go.RowKit Go.Maps
/-- One device of L empty sectors, of which these writes wait; does it lie? -/
def lieS (L : Nat) (b : Bool) (wt : List (Nat × List UInt8)) : Sy := ⟨⟨false, -1⟩, [⟨List.replicate L zeroS, wt, 0, 0, b, false⟩]⟩
variable {L : Nat} {b : Bool} {wt : List (Nat × List UInt8)} {i : Int} {s : List UInt8}
theorem lie_refuse (h : 0 ≤ i ∧ i < (L : Int)) : refuseN (lieS L b wt).p ((lieS L b wt).at 0) i = 0 := by
  show (if (false || false) = true then (13 : Int) else if i < 0 ∨ ((List.replicate L zeroS).length : Int) ≤ i then 2 else 0) = 0
  rw [if_neg (by simp), if_neg (by rw [List.length_replicate]; omega)]
theorem lie_wy (h : 0 ≤ i ∧ i < (L : Int)) : (lieS L b wt).write 0 i s = (0, lieS L b (wt ++ [(i.toNat, s)])) := by
  obtain ⟨n, rfl⟩ := Int.eq_ofNat_of_zero_le h.1
  rw [write_yes (lie_refuse h)]; rfl
theorem lie_wn (h : ¬ (0 ≤ i ∧ i < (L : Int))) : (lieS L b wt).write 0 i s = (2, lieS L b wt) := by
  have hr : refuseN (lieS L b wt).p ((lieS L b wt).at 0) i = 2 := by
    show (if (false || false) = true then (13 : Int) else if i < 0 ∨ ((List.replicate L zeroS).length : Int) ≤ i then 2 else 0) = 2
    rw [if_neg (by simp), if_pos (by rw [List.length_replicate]; omega)]
  rw [write_no (by rw [hr]; decide), hr]
theorem lie_f : (lieS L true wt).flush 0 = (0, lieS L true wt) := rfl
theorem lie_off : (lieS L true wt).put 0 (((lieS L true wt).at 0).lie false) = lieS L false wt := rfl
theorem lie_on : (S0.new (20 : Int)).put 0 (((S0.new 20).at 0).lie true) = lieS 20 true [] := by kernel_rfl
/-- .. when all is flushed. -/
def lieE (L : Nat) (wt : List (Nat × List UInt8)) : Sy := ⟨⟨false, -1⟩, [⟨flushL (List.replicate L zeroS) wt, [], 0, 0, false, false⟩]⟩
theorem lie_e : (lieS L false wt).flush 0 = (0, lieE L wt) := rfl
theorem lie_len : ((lieS L b wt).at 0).st.length = L := by show (List.replicate L zeroS).length = L; rw [List.length_replicate]
theorem lie_secs : ∀ x ∈ List.replicate L zeroS, x.length = 128 := fun x hx => by rw [List.eq_of_mem_replicate hx]; exact zeroS_length
theorem lie_wait : (((lieS L b wt).at 0).wt.length : Int) = (wt.length : Int) := rfl
theorem lieE_st : ((lieE L wt).at 0).st = (List.range L).map (nowL (List.replicate L zeroS) wt) := by
  show flushL (List.replicate L zeroS) wt = _
  rw [flush_now, List.length_replicate]
theorem lieE_wait : (((lieE L wt).at 0).wt.length : Int) = 0 := rfl
theorem lie_read {k : Nat} (h : k < L) : readV (lieS L b wt).p ((lieS L b wt).at 0) (k : Int) = .tuple #[.agg (bva (nowL (List.replicate L zeroS) wt k)), .int .i64 0] := by
  rw [readV_yes (lie_refuse (by omega))]; rfl
/-- A row of sectors in new memory that is none of the devices'. -/
def RowN (w0 w : World) (F : Nat → Prop) (v : Value) (n : Nat) (l : List (List UInt8)) : Prop := w.ownsRow w0.heap.size 38 128 v n (svs l) ∧ ∀ q, v.ownBlock = some q → ¬ F q
section
variable {w0 w w' : World} {F F' : Nat → Prop} {v : Value} {n : Nat} {l : List (List UInt8)}
theorem RowN.step (h : RowN w0 w F v n l) (h1 : ∀ q, F' q → F q ∨ w.heap.size ≤ q) (h2 : But F w w') : RowN w0 w' F' v n l :=
  ⟨Own.but h.1 h2 h.2, fun q hq hf => by
    rcases h1 q hf with h3 | h3
    · exact h.2 q hq h3
    · have := (h.1.lt q hq).2; omega⟩
theorem RowN.below (h : RowN w0 w F v n l) (hb : Below w.heap.size w w') : RowN w0 w' F v n l := ⟨own_belowN h.1 hb, h.2⟩
theorem RowN.app {A' : Option Addr} {m c' : Nat} {y : List UInt8} (h : RowN w0 w F v n l) (hF : ∀ q, F q → q < w.heap.size) (ho : w'.ownsRow w0.heap.size 38 128 (.slice A' m c') m (svs l ++ bv y))
    (hor : (Value.slice A' m c').ownBlock = v.ownBlock ∨ (Value.slice A' m c').ownBlock = some w.heap.size) : RowN w0 w' F (.slice A' m c') m (l ++ [y]) :=
  ⟨by rw [svs_append, svs, svs, List.append_nil]; exact ho, fun q hq hf => by
    rcases hor with h1 | h1
    · exact h.2 q (h1 ▸ hq) hf
    · rw [h1] at hq; injection hq with hq; have := hF q hf; omega⟩
theorem rowN_nil : RowN w0 w F (.slice none 0 0) 0 [] := ⟨World.ownsRow_nil _ _ _ _, fun q hq => by cases hq⟩
/-- The devices behind an append to such a row. -/
theorem Live.app8 {p : Nat} {gs : List Nat} {S : Sy} (h : Live w0 w p gs S F) (hr : RowN w0 w F v n l) (hg : w.grownBy w' v.ownBlock) : Live w0 w' p gs S F :=
  h.but8 (T := fun q => v.ownBlock = some q) ((But.refl w).grown hg (fun _ hq => .inl hq)) (fun q hf hq => hr.2 q hq hf) (fun q hq => (hr.1.lt q hq).1)
end
end Go.Proofs.Ytgfldfofiglefaa.Kd
/-
  The contract of the mirror's Both.
-/
namespace Go.Proofs.Ytgfldfofiglefaa.Mi
open Go.RowKit Kd
attribute [local go_sem ↓] Go.wp_at_zero Go.wp_at_succ
section
variable {C : Duo} {G : Gd} {g : Nat} {w : World} {s : Mr C} {F : Nat → Prop}
/-- What the first p devices read of a place, as far as it may stand. -/
def bothTo (C : Duo) (G : Gd) (d : C.L.St) (n : Int) : Nat → List (List UInt8)
  | 0 => []
  | p + 1 => bothTo C G d n p ++ if rdOk C G d p n then [(C.rd d p n).2] else []
def bothL (G : Gd) (s : Mr C) (n : Int) : List (List UInt8) := if has s n then bothTo C G s.d n 2 else []
theorem bothTo_len (h : (ML C G g).At w s F) (n : Int) : ∀ p, p ≤ 2 → ∀ x ∈ bothTo C G s.d n p, x.length = 128
  | 0, _ => fun x hx => by cases hx
  | p + 1, hp => fun x hx => by
    rw [bothTo, List.mem_append] at hx
    rcases hx with hx | hx
    · exact bothTo_len h n p (by omega) x hx
    · split at hx
      · rw [List.mem_singleton] at hx
        subst hx
        obtain ⟨F1, hd, _⟩ := ml_dev h
        exact C.rd_len hd (by omega)
      · cases hx
theorem bothTo_few (d : C.L.St) (n : Int) : ∀ p, (bothTo C G d n p).length ≤ p
  | 0 => Nat.le_refl _
  | p + 1 => by
    rw [bothTo, List.length_append]
    have := bothTo_few d n p
    split <;> simp <;> omega
/-- It returns a new row of sectors. -/
def RetSec (l : List (List UInt8)) (w : World) (e : Ending) (w' : World) : Prop :=
  ∃ A n c, e = .returned (.slice A n c) ∧ l.length = n ∧ w'.ownsRow w.heap.size 38 128 (.slice A n c) n (svs l) ∧ Below w.heap.size w w'
set_option maxRecDepth 100000 in
set_option maxHeartbeats 3200000 in
theorem both_no {p : Option Addr} {n : Int} (hc : Calls Try.prog 89 #[.pointer p, .int .i64 n] w (RetB (.bool false) w)) : Calls Try.prog 36 #[.pointer p, .int .i64 n] w (RetSec [] w) := by
  have HC := Lib.hid hc
  clear hc
  go_enter Try.func36, Try.ntmps36
  go_wp2_with fail
  refine HC.out.mono ?_
  rintro e w1 ⟨rfl, bw⟩
  have B1 := Lib.hid bw
  clear bw
  go_wp2_with fail
  go_ret
  exact ⟨none, 0, 0, rfl, rfl, World.ownsRow_nil _ _ _ _, B1.out⟩
theorem both_nil (n : Int) : Calls Try.prog 36 #[.pointer none, .int .i64 n] w (RetSec [] w) := both_no (has_nil w n)
set_option maxRecDepth 100000 in
set_option maxHeartbeats 12800000 in
theorem both_any (h : (ML C G g).At w s F) (n : Int) : Calls Try.prog 36 #[.pointer (some ⟨g, 0, none⟩), .int .i64 n] w (RetSec (bothL G s n) w) := by
  cases hh : has s n with
  | false =>
    rw [bothL, hh, if_neg (by simp)]
    have := has_any h n
    rw [hh] at this
    exact both_no this
  | true =>
    obtain ⟨z, hz0⟩ : ∃ z : List UInt8, z = zeroS := ⟨_, rfl⟩
    have hz : ∀ W, (zeroValue 38).run Try.prog W = .ok (.agg (bva z)) W := fun _ => by rw [hz0]; kernel_rfl
    have HZ3 := Lib.hid (show z.length = 128 by rw [hz0]; exact zeroS_length)
    have hcc := has_any h n
    rw [hh] at hcc
    have HC := Lib.hid hcc
    have H := Lib.hid h
    rw [bothL, hh, if_pos rfl]
    clear hz0 hcc hh h
    go_enter Try.func36, Try.ntmps36
    go_wp2_with fail
    refine HC.out.mono ?_
    rintro e w1 ⟨rfl, bw⟩
    have B1 := Lib.hid bw
    clear bw HC
    go_wp2_with fail
    go_loopw [4, 12] (fun l x wr => ∃ (p : Nat) (A : Option Addr) (k c : Nat), p ≤ 2 ∧ x = .int .i64 p ∧ l = .slice A k c ∧ (bothTo C G s.d n p).length = k ∧ wr.ownsRow w.heap.size 38 128 (.slice A k c) k (svs (bothTo C G s.d n p)) ∧ Below w.heap.size w wr) (fun _ x _ => 2 - (intOf x).toNat)
    case atStart => exact ⟨0, none, 0, 0, by omega, rfl, rfl, rfl, World.ownsRow_nil _ _ _ _, B1.out⟩
    case round =>
      clear B1
      obtain ⟨p, A, k, c, hp, rfl, rfl, hk, ho, hb⟩ := hrel
      have HP := Lib.hid hp
      have HK := Lib.hid hk
      have O := Lib.hid ho
      have B := Lib.hid hb
      clear hp hk ho hb
      by_cases hlt : p < 2
      · have HPL := Lib.hid hlt
        have HR := Lib.hid (reads_any ((ML C G g).below H.out B.out) hlt n)
        have HS := Lib.hid (show bothTo C G s.d n (p + 1) = bothTo C G s.d n p ++ if rdOk C G s.d p n then [rdVal C G s.d p n] else [] by rw [bothTo, rdVal]; split <;> rfl)
        obtain ⟨y, hy⟩ : ∃ y, y = rdVal C G s.d p n := ⟨_, rfl⟩
        have HY3 := Lib.hid (show y.length = 128 by rw [hy, rdVal]; split; exact (ml_dev H.out).elim (fun F1 h => C.rd_len h.1 hlt); exact zeroS_length)
        have HIY : Hid ((Try.prog.info? 38).map (·.size) = some (bva y).size) := by rw [bva_size, HY3.out]; exact info_sec
        obtain ⟨o, ho⟩ : ∃ o, o = rdOk C G s.d p n := ⟨_, rfl⟩
        have HF := Lib.hid (bothTo_few (G := G) s.d n p)
        rw [← hy, ← ho] at HR HS
        have p0 : (0 : Int) ≤ (p : Int) := by omega
        have p1 : (p : Int) < 2 := by omega
        clear hy ho hlt
        go_wp2_with fail
        refine HR.out.mono ?_
        rintro e w2 ⟨rfl, bw⟩
        have O2 := Lib.hid (own_belowN O.out bw)
        have B2 := Lib.hid (B.out.trans (bw.mono B.out.size))
        clear bw O B HR
        go_wp2_with (show wpList _ _ _ ({ dst := none, op := .store 38 (.tmp 6) (.tmp 20), type := _, pos := _, after := _, guard := _ } :: _) _ _; apply Classical.byContradiction; intro hneg)
        refine hneg ?_
        clear hneg
        refine wpList_store_row rfl 38 (.tmp 6) (.tmp 20) rfl w2.heap.size (bva y) rfl rfl 38 (bva z) (heap_alloc_new _ _) HIY.out (by rw [bva_size, bva_size, HY3.out, HZ3.out]) (bva_one _) ?_
        obtain ⟨w3, hw3⟩ : ∃ w3, w3 = (w2.alloc (.cells (bva z) 38)).setRow w2.heap.size (bva y) := ⟨_, rfl⟩
        have hbw3 : Below w2.heap.size w2 w3 := by rw [hw3]; exact below_setRow ((Below.refl _ _).alloc (Nat.le_refl _) _) (Nat.le_refl _) _
        have BXw3 := Lib.hid (show Blk w3 w2.heap.size (bva y) 38 from by rw [hw3]; exact setRow_heap _ _ _ _ _ _ (heap_alloc_new _ _))
        rw [← hw3]
        clear hw3
        have O3 := Lib.hid (own_belowN O2.out hbw3)
        have B3 := Lib.hid (B2.out.trans (hbw3.mono B2.out.size))
        clear hbw3 O2 B2
        cases o
        · have HE := Lib.hid (show bothTo C G s.d n (p + 1) = bothTo C G s.d n p by rw [HS.out, if_neg (by simp), List.append_nil])
          go_wp2_with fail
          go_roundw
          case rel => exact ⟨p + 1, A, k, c, HPL.out, by go_num, rfl, by rw [HE.out]; exact HK.out, by rw [HE.out]; exact O3.out, B3.out⟩
          case measure => (have := HPL.out; simp [intOf]; omega)
        · have HE := Lib.hid (show bothTo C G s.d n (p + 1) = bothTo C G s.d n p ++ [y] by rw [HS.out, if_pos rfl])
          obtain ⟨L, hL⟩ : ∃ L, L = bothTo C G s.d n p := ⟨_, rfl⟩
          rw [← hL] at HE HK O3 HF
          have BA := Lib.hid (show Below w3.heap.size w3 (w3.alloc (.cells (bva y) 38)) from (Below.refl _ _).alloc (Nat.le_refl _) _)
          have RA := Lib.hid (show Rd (w3.alloc (.cells (bva y) 38)).heap.size (w3.alloc (.cells (bva y) 38)) (some ⟨w3.heap.size, 0, none⟩) (bv y) from by
            have hb5 : Blk (w3.alloc (.cells (bva y) 38)) w3.heap.size (bva y) 38 := heap_alloc_new _ _
            intro j v hv
            exact ⟨_, rfl, hb5.lt, by rw [Addr.add_mid, hb5.cell, Nat.zero_add]; simpa [bva] using hv⟩)
          clear hL HS
          go_wp2_with (show wpList _ _ _ ({ dst := some 24, op := .load 38 (.tmp 6), type := _, pos := _, after := _, guard := _ } :: _) _ _; apply Classical.byContradiction; intro hneg)
          refine hneg ?_
          clear hneg
          refine wpList_load_row rfl 38 (.tmp 6) rfl w2.heap.size rfl 38 (bva y) (0, 0) _ BXw3.out Try.underlying38 rfl HIY.out ?_
          go_wp2_with (show wpList _ _ _ ({ dst := some 25, op := .buildSlice 43 1 #[(0, .tmp 24)], type := _, pos := _, after := _, guard := _ } :: _) _ _; apply Classical.byContradiction; intro hneg)
          refine hneg ?_
          clear hneg
          refine wpList_execg8 (v := .slice (some ⟨w3.heap.size, 0, none⟩) 1 1) (w' := w3.alloc (.cells (bva y) 38)) rfl (exec_buildSlice 43 1 #[(0, .tmp 24)] rfl ?hbld) ?_
          case hbld =>
            simp only [List.map_toArray, List.map_cons, List.map_nil]
            exact run_oneN secsElt _ (.agg (bva y)) (by show (bva y).size = 128; rw [bva_size, HY3.out]) (by omega)
          go_wp2_with (at_builtin; apply Classical.byContradiction; intro hneg)
          refine hneg ?_
          clear hneg
          refine wpList_appN _ rfl (.tmp 23) (.tmp 25) 43 rfl secsElt (base := w.heap.size) (v := .slice A k c) (n := k) (xs := svs L) rfl (own_belowN O3.out BA.out) (m := 1) rfl RA.out (by rw [bv_length, HY3.out]) (bv_one _) (by have := HF.out; have := HK.out; omega) (Nat.le_trans B3.out.size BA.out.size) ?_
          intro A6 c6 w6 ho6 hg6 hl6
          have B6 := Lib.hid (app_belowN (B3.out.trans (BA.out.mono B3.out.size)) (own_belowN O3.out BA.out) hg6 (Nat.le_refl _) (Nat.le_trans B3.out.size BA.out.size))
          have O6 := Lib.hid (show World.ownsRow w6 w.heap.size 38 128 (.slice A6 (k + 1) c6) (k + 1) (svs (L ++ [y])) from by rw [svs_append, svs, svs, List.append_nil]; exact ho6)
          clear ho6 hg6 hl6 BXw3 O3 B3 BA RA
          go_wp2_with fail
          go_roundw
          case rel => exact ⟨p + 1, A6, k + 1, c6, HPL.out, by go_num, rfl, by rw [HE.out, List.length_append, HK.out]; rfl, by rw [HE.out]; exact O6.out, B6.out⟩
          case measure => (have := HPL.out; simp [intOf]; omega)
      · obtain rfl : p = 2 := by have := HP.out; omega
        clear hlt
        go_wp2_with fail
        go_ret
        exact ⟨A, k, c, rfl, HK.out, O.out, B.out⟩
end
end Go.Proofs.Ytgfldfofiglefaa.Mi
/-
  The contract of the mirror's Read.
-/
namespace Go.Proofs.Ytgfldfofiglefaa.Mi
open Go.RowKit Kd
attribute [local go_sem ↓] Go.wp_at_zero Go.wp_at_succ
section
variable {C : Duo} {G : Gd} {g : Nat} {w : World} {s : Mr C} {F1 F : Nat → Prop}
/-- What Read tells of a place: the sector; how it went. -/
def readM (C : Duo) (G : Gd) (s : Mr C) (n : Int) : List UInt8 × Int :=
  if has s n then
    (if right C G s 0 n.toNat then ((C.rd s.d 0 n).2, 0) else if right C G s 1 n.toNat then ((C.rd s.d 1 n).2, 0)
     else (zeroS, if C.there s.d 0 || C.there s.d 1 then 9 else 13))
  else (zeroS, 2)
set_option maxRecDepth 100000 in
set_option maxHeartbeats 3200000 in
theorem mread_no {P : Value} {n : Int} (hc : ∀ w', Below w.heap.size w w' → Calls Try.prog 89 #[P, .int .i64 n] w' (RetB (.bool false) w')) : Calls Try.prog 35 #[P, .int .i64 n] w (RetB (.tuple #[.agg (bva zeroS), .int .i64 2]) w) := by
  obtain ⟨z, hz0⟩ : ∃ z : List UInt8, z = zeroS := ⟨_, rfl⟩
  rw [← hz0]
  have hz : ∀ W, (zeroValue 38).run Try.prog W = .ok (.agg (bva z)) W := fun _ => by rw [hz0]; kernel_rfl
  have HBZ := Lib.hid (show ∀ W, (Instr.build 38 #[]).run Try.prog W = .ok (.agg (bva z)) W from fun _ => by rw [hz0]; kernel_rfl)
  have HIZ : Hid ((Try.prog.info? 38).map (·.size) = some (bva z).size) := by rw [bva_size, hz0, zeroS_length]; exact info_sec
  have R0 := Lib.hid (show Blk (w.alloc (.cells (bva z) 38)) w.heap.size (bva z) 38 from heap_alloc_new _ _)
  have HC := Lib.hid (hc _ ((Below.refl _ _).alloc (Nat.le_refl _) (.cells (bva z) 38)))
  clear hz0 hc
  go_enter Try.func35, Try.ntmps35
  go_wp2_with fail
  refine HC.out.mono ?_
  rintro e w1 ⟨rfl, bw⟩
  rw [World.size_alloc] at bw
  have R1 := Lib.hid (R0.out.below (by rw [World.size_alloc]; exact bw))
  have B1 := Lib.hid (show Below w.heap.size w w1 from ((Below.refl _ _).alloc (Nat.le_refl _) _).trans (bw.mono (Nat.le_succ _)))
  clear bw R0
  go_wp2_with (first
    | (refine wpList_build rfl 38 #[] rfl (v := .agg (bva z)) ?hbld ?_; case hbld => exact HBZ.out _)
    | (refine wpList_store_row rfl 38 (.tmp 4) (.tmp 13) rfl w.heap.size (bva z) rfl rfl 38 (bva z) R1.out HIZ.out (by rfl) (bva_one _) ?_))
  exact bodyPost_ret (v := .tuple #[.agg (bva z), .int .i64 2]) (results_ct8 Try.results35 _ _ w.heap.size 38 (bva z) _ rfl (setRow_heap _ _ _ _ _ _ R1.out) Try.underlying38 rfl HIZ.out) rfl ⟨rfl, below_setRow B1.out (Nat.le_refl _) _⟩
theorem mread_nil (n : Int) : Calls Try.prog 35 #[.pointer none, .int .i64 n] w (RetB (.tuple #[.agg (bva zeroS), .int .i64 2]) w) := mread_no (fun w' _ => has_nil w' n)
set_option maxRecDepth 100000 in
set_option maxHeartbeats 6400000 in
theorem mread_any (h : (ML C G g).At w s F) (hab : s.b.length = s.a.length) (n : Int) : Calls Try.prog 35 #[.pointer (some ⟨g, 0, none⟩), .int .i64 n] w (RetA (ML C G g) (.tuple #[.agg (bva (readM C G s n).1), .int .i64 (readM C G s n).2]) s F w) := by
  cases hh : has s n with
  | false =>
    rw [readM, hh, if_neg (by simp)]
    refine (mread_no (fun w' hb => ?_)).mono fun _ _ hr => RetB.reta h hr
    have := has_any ((ML C G g).below h hb) n
    rwa [hh] at this
  | true =>
    obtain ⟨k, rfl⟩ : ∃ k : Nat, n = (k : Int) := ⟨n.toNat, by rw [has] at hh; simp at hh; omega⟩
    have hk : k < s.a.length := by rw [has] at hh; simp at hh; exact hh
    have HK := Lib.hid (show ∀ i, i < 2 → k < (s.st i).length from fun i hi => by rcases two hi with rfl | rfl; exact hk; show k < s.b.length; omega)
    obtain ⟨z, hz0⟩ : ∃ z : List UInt8, z = zeroS := ⟨_, rfl⟩
    have hz : ∀ W, (zeroValue 38).run Try.prog W = .ok (.agg (bva z)) W := fun _ => by rw [hz0]; kernel_rfl
    have HBZ := Lib.hid (show ∀ W, (Instr.build 38 #[]).run Try.prog W = .ok (.agg (bva z)) W from fun _ => by rw [hz0]; kernel_rfl)
    have HZ3 := Lib.hid (show z.length = 128 by rw [hz0]; exact zeroS_length)
    have HIZ : Hid ((Try.prog.info? 38).map (·.size) = some (bva z).size) := by rw [bva_size, HZ3.out]; exact info_sec
    have R0 := Lib.hid (show Bx w (w.alloc (.cells (bva z) 38)) F w.heap.size (bva z) 38 from ⟨heap_alloc_new _ _, Nat.le_refl _, fun hf => by have := (ML C G g).lt h _ hf; omega⟩)
    have M0 := Lib.hid (show Mv (ML C G g) w F (w.alloc (.cells (bva z) 38)) s F from (Mv.start h).below ((Below.refl _ _).alloc (Nat.le_refl _) _))
    have hcc := has_any M0.out.at_ (k : Int)
    rw [hh] at hcc
    have HC := Lib.hid hcc
    obtain ⟨RV, hRV⟩ : ∃ RV, RV = Value.tuple #[.agg (bva (readM C G s k).1), .int .i64 (readM C G s k).2] := ⟨_, rfl⟩
    rw [← hRV]
    rw [readM, hh, if_pos rfl, Int.toNat_natCast, ← hz0] at hRV
    have HRV := Lib.hid hRV
    clear hRV hz0 hcc hh hk hab h
    go_enter Try.func35, Try.ntmps35
    go_wp2_with fail
    refine HC.out.mono ?_
    rintro e w1 ⟨rfl, bw⟩
    have M1 := Lib.hid (M0.out.below bw)
    have R1 := Lib.hid (R0.out.below bw)
    clear bw M0 R0
    obtain ⟨q, hq⟩ : ∃ q, q = w.heap.size := ⟨_, rfl⟩
    rw [← hq] at R1
    rw [← hq]
    clear hq
    go_wp2_with fail
    go_loopw [14] (fun i wr => ∃ (j : Nat) (F' : Nat → Prop), i = .int .i64 j ∧ j ≤ 2 ∧ Mv (ML C G g) w F wr s F' ∧ Bx w wr F' q (bva z) 38 ∧ ∀ i, i < j → right C G s i k = false) (fun i _ => 2 - (intOf i).toNat)
    case atStart => exact ⟨0, F, rfl, by omega, M1.out, R1.out, fun i hi => by omega⟩
    case round =>
      clear M1 R1
      obtain ⟨j, F', rfl, hj, hm, hr, hno⟩ := hrel
      have M := Lib.hid hm
      have R := Lib.hid hr
      have HJ := Lib.hid hj
      have HN := Lib.hid hno
      clear hm hr hj hno
      by_cases hlt : j < 2
      · have HJ2 := Lib.hid hlt
        have j0 : (0 : Int) ≤ (j : Int) := by omega
        have j1 : (j : Int) < 2 := by omega
        clear hlt
        go_wp2_with fail
        refine (right_any M.out.at_ HJ2.out (HK.out j HJ2.out)).mono ?_
        rintro e w2 ⟨rfl, bw⟩
        have M2 := Lib.hid (M.out.below bw)
        have R2 := Lib.hid (R.out.below bw)
        clear bw M R
        obtain ⟨y, hy⟩ : ∃ y, y = rightV C G s j k := ⟨_, rfl⟩
        have HY3 := Lib.hid (show y.length = 128 by rw [hy]; exact rightV_len M2.out.at_ HJ2.out k)
        have HIY : Hid ((Try.prog.info? 38).map (·.size) = some (bva y).size) := by rw [bva_size, HY3.out]; exact info_sec
        have HY := Lib.hid hy
        rw [← hy]
        clear hy
        go_wp2_with (show wpList _ _ _ ({ dst := none, op := .store 38 (.tmp 7) (.tmp 22), type := _, pos := _, after := _, guard := _ } :: _) _ _; apply Classical.byContradiction; intro hneg)
        refine hneg ?_
        clear hneg
        refine wpList_store_row rfl 38 (.tmp 7) (.tmp 22) rfl w2.heap.size (bva y) rfl rfl 38 (bva z) (heap_alloc_new _ _) HIY.out (by rw [bva_size, bva_size, HY3.out, HZ3.out]) (bva_one _) ?_
        obtain ⟨w3, hw3⟩ : ∃ w3, w3 = (w2.alloc (.cells (bva z) 38)).setRow w2.heap.size (bva y) := ⟨_, rfl⟩
        have hbw3 : Below w2.heap.size w2 w3 := by rw [hw3]; exact below_setRow ((Below.refl _ _).alloc (Nat.le_refl _) _) (Nat.le_refl _) _
        have BXw3 := Lib.hid (show Blk w3 w2.heap.size (bva y) 38 from by rw [hw3]; exact setRow_heap _ _ _ _ _ _ (heap_alloc_new _ _))
        rw [← hw3]
        clear hw3
        have M3 := Lib.hid (M2.out.below hbw3)
        have R3 := Lib.hid (R2.out.below hbw3)
        clear hbw3 M2 R2
        cases ho : right C G s j k with
        | false =>
          go_wp2_with fail
          go_roundw
          case rel => exact ⟨j + 1, F', by go_num, HJ2.out, M3.out, R3.out, fun i hi => by
            by_cases h : i < j
            · exact HN.out i h
            · obtain rfl : i = j := by omega
              exact ho⟩
          case measure => (have := HJ2.out; simp [intOf]; omega)
        | true =>
          have HEND := Lib.hid (show RV = .tuple #[.agg (bva y), .int .i64 0] by
            rw [HRV.out, HY.out, rightV, ho, if_pos rfl]
            rcases two HJ2.out with rfl | rfl
            · rw [ho, if_pos rfl]
            · rw [HN.out 0 (by omega), if_neg (by simp), ho, if_pos rfl])
          clear ho
          go_wp2_with (first
            | (refine wpList_load_row rfl 38 (.tmp 7) rfl w2.heap.size rfl 38 (bva y) (0, 0) _ BXw3.out Try.underlying38 rfl HIY.out ?_)
            | (refine wpList_store_row rfl 38 (.tmp 4) (.tmp 25) rfl q (bva y) rfl rfl 38 (bva z) R3.out.1 HIY.out (by rw [bva_size, bva_size, HY3.out, HZ3.out]) (bva_one _) ?_))
          exact bodyPost_ret (v := .tuple #[.agg (bva y), .int .i64 0]) (results_ct8 Try.results35 _ _ q 38 (bva y) _ rfl (setRow_heap _ _ _ _ _ _ R3.out.1) Try.underlying38 rfl HIY.out) rfl ⟨by rw [HEND.out], F', M3.out.own (But.setRow (S := fun x => x = q) (But.refl _) (.inl rfl) _) (fun x e => by rw [e]; exact R3.out.2.1) (fun x hx e => R3.out.2.2 (e ▸ hx))⟩
      · obtain rfl : j = 2 := by have := HJ.out; omega
        have hE := eq_ff
        obtain ⟨a, ha⟩ : ∃ a, a = C.there s.d 0 := ⟨_, rfl⟩
        obtain ⟨b, hb⟩ : ∃ b, b = C.there s.d 1 := ⟨_, rfl⟩
        have HEND := Lib.hid (show RV = .tuple #[.agg (bva z), .int .i64 (if a || b then 9 else 13)] by
          rw [HRV.out, HN.out 0 (by omega), if_neg (by simp), HN.out 1 (by omega), if_neg (by simp), ha, hb])
        have HT := Lib.hid (each_there M.out.at_)
        rw [← ha, ← hb] at HT
        clear hlt ha hb
        go_wp2_with fail
        refine HT.out.mono ?_
        rintro e w2 ⟨rfl, F2, hm2⟩
        have M2 := Lib.hid (M.out.trans hm2)
        have R2 := Lib.hid (R.out.step hm2)
        clear hm2 M R
        cases a <;> cases b
        · go_wp2_with (first
            | (refine wpList_build rfl 50 #[] rfl (v := .agg (two2 false false)) ?hbld ?_; case hbld => exact build_ff _)
            | (refine wpList_build rfl 38 #[] rfl (v := .agg (bva z)) ?hbld ?_; case hbld => exact HBZ.out _)
            | (refine wpList_store_row rfl 38 (.tmp 4) (.tmp 32) rfl q (bva z) rfl rfl 38 (bva z) R2.out.1 HIZ.out (by rfl) (bva_one _) ?_))
          exact bodyPost_ret (v := .tuple #[.agg (bva z), .int .i64 13]) (results_ct8 Try.results35 _ _ q 38 (bva z) _ rfl (setRow_heap _ _ _ _ _ _ R2.out.1) Try.underlying38 rfl HIZ.out) rfl ⟨by rw [HEND.out]; rfl, F2, M2.out.own (But.setRow (S := fun x => x = q) (But.refl _) (.inl rfl) _) (fun x e => by rw [e]; exact R2.out.2.1) (fun x hx e => R2.out.2.2 (e ▸ hx))⟩
        · go_wp2_with (first
            | (refine wpList_build rfl 50 #[] rfl (v := .agg (two2 false false)) ?hbld ?_; case hbld => exact build_ff _)
            | (refine wpList_build rfl 38 #[] rfl (v := .agg (bva z)) ?hbld ?_; case hbld => exact HBZ.out _)
            | (refine wpList_store_row rfl 38 (.tmp 4) (.tmp 33) rfl q (bva z) rfl rfl 38 (bva z) R2.out.1 HIZ.out (by rfl) (bva_one _) ?_))
          exact bodyPost_ret (v := .tuple #[.agg (bva z), .int .i64 9]) (results_ct8 Try.results35 _ _ q 38 (bva z) _ rfl (setRow_heap _ _ _ _ _ _ R2.out.1) Try.underlying38 rfl HIZ.out) rfl ⟨by rw [HEND.out]; rfl, F2, M2.out.own (But.setRow (S := fun x => x = q) (But.refl _) (.inl rfl) _) (fun x e => by rw [e]; exact R2.out.2.1) (fun x hx e => R2.out.2.2 (e ▸ hx))⟩
        · go_wp2_with (first
            | (refine wpList_build rfl 50 #[] rfl (v := .agg (two2 false false)) ?hbld ?_; case hbld => exact build_ff _)
            | (refine wpList_build rfl 38 #[] rfl (v := .agg (bva z)) ?hbld ?_; case hbld => exact HBZ.out _)
            | (refine wpList_store_row rfl 38 (.tmp 4) (.tmp 33) rfl q (bva z) rfl rfl 38 (bva z) R2.out.1 HIZ.out (by rfl) (bva_one _) ?_))
          exact bodyPost_ret (v := .tuple #[.agg (bva z), .int .i64 9]) (results_ct8 Try.results35 _ _ q 38 (bva z) _ rfl (setRow_heap _ _ _ _ _ _ R2.out.1) Try.underlying38 rfl HIZ.out) rfl ⟨by rw [HEND.out]; rfl, F2, M2.out.own (But.setRow (S := fun x => x = q) (But.refl _) (.inl rfl) _) (fun x e => by rw [e]; exact R2.out.2.1) (fun x hx e => R2.out.2.2 (e ▸ hx))⟩
        · go_wp2_with (first
            | (refine wpList_build rfl 50 #[] rfl (v := .agg (two2 false false)) ?hbld ?_; case hbld => exact build_ff _)
            | (refine wpList_build rfl 38 #[] rfl (v := .agg (bva z)) ?hbld ?_; case hbld => exact HBZ.out _)
            | (refine wpList_store_row rfl 38 (.tmp 4) (.tmp 33) rfl q (bva z) rfl rfl 38 (bva z) R2.out.1 HIZ.out (by rfl) (bva_one _) ?_))
          exact bodyPost_ret (v := .tuple #[.agg (bva z), .int .i64 9]) (results_ct8 Try.results35 _ _ q 38 (bva z) _ rfl (setRow_heap _ _ _ _ _ _ R2.out.1) Try.underlying38 rfl HIZ.out) rfl ⟨by rw [HEND.out]; rfl, F2, M2.out.own (But.setRow (S := fun x => x = q) (But.refl _) (.inl rfl) _) (fun x e => by rw [e]; exact R2.out.2.1) (fun x hx e => R2.out.2.2 (e ▸ hx))⟩
end
end Go.Proofs.Ytgfldfofiglefaa.Mi
/-
  The contract of slices.Repeat of one bool.
-/
namespace Go.Proofs.Ytgfldfofiglefaa.Mi
open Go.RowKit Kd
attribute [local go_sem ↓] Go.wp_at_zero Go.wp_at_succ
theorem mask_small (a : Nat) (ha : a < 4294967296) : bits .and .u64 (a : Int) 4294967295 = (a : Int) := by
  have h := bits_and_u64_nat a 4294967295 (by omega) (by omega)
  rw [show a &&& 4294967295 = a % 4294967296 from Nat.and_two_pow_sub_one_eq_mod a 32, Nat.mod_eq_of_lt ha] at h
  exact h
theorem mul_one (w : World) (N : Nat) (hN : N ≤ 4096) : Calls Try.prog 118 #[.int .u64 1, .int .u64 N] w (Ret0 (.tuple #[.int .u64 0, .int .u64 N]) w) := by
  have a1 : bits .and .u64 1 4294967295 = 1 := by decide
  have a0 : bits .and .u64 0 4294967295 = 0 := by decide
  have aN : bits .and .u64 (N : Int) 4294967295 = N := mask_small N (by omega)
  have dN : (N : Int) / 4294967296 = 0 := by omega
  have wN : IntKind.u64.wrap (N : Int) = N := IntWalk.u64_in _ (by omega)
  have w0 : IntKind.u64.wrap 0 = 0 := by decide
  clear hN
  go_enter Try.func118, Try.ntmps118
  go_wp2_with fail
  exact bodyPost_ret (results_tmp2 Try.results118 _ _ _) rfl ⟨by rfl, rfl⟩
theorem mul_u (w : World) (N : Nat) (hN : N ≤ 4096) : Calls Try.prog 113 #[.int .u64 1, .int .u64 N] w (Ret0 (.tuple #[.int .u64 0, .int .u64 N]) w) := by
  have HN := Lib.hid hN
  clear hN
  go_enter Try.func113, Try.ntmps113
  go_wp2_with fail
  refine (mul_one _ N HN.out).mono ?_
  rintro e _ ⟨rfl, rfl⟩
  go_wp2_with fail
  exact bodyPost_ret (results_tmp2 Try.results113 _ _ _) rfl ⟨rfl, rfl⟩
theorem info_boolW : (Try.prog.info? 4).map (fun i => (i.zero, i.size, i.bytes)) = some (some (.bool false), 1, 1) := by kernel_rfl
theorem info_bool : (Try.prog.info? 4).map (·.size) = some 1 := by kernel_rfl
/-- A row whose first n cells are b. -/
structure Fst (w0 w : World) (g N n : Nat) (b : Bool) : Prop where
  cells : ∃ cur : Array Value, w.heap[g]? = some (.cells cur 4 (0, 0)) ∧ cur.size = N ∧ ∀ i, i < n → cur[i]? = some (.bool b)
  le : n ≤ N
  bel : Below w0.heap.size w0 w
theorem splice_get {α : Type} (L : List α) (o : Nat) (cs : List α) (h : o + cs.length ≤ L.length) (i : Nat) : (splice L o cs)[i]? = if i < o then L[i]? else if i < o + cs.length then cs[i - o]? else L[i]? := by
  unfold splice
  have ht : (L.take o).length = o := by rw [List.length_take]; omega
  by_cases h1 : i < o
  · rw [if_pos h1, List.getElem?_append_left (by omega), List.getElem?_take, if_pos h1]
  · rw [if_neg h1, List.getElem?_append_right (by omega), ht]
    by_cases h2 : i < o + cs.length
    · rw [if_pos h2, List.getElem?_append_left (by omega)]
    · rw [if_neg h2, List.getElem?_append_right (by omega), List.getElem?_drop]
      congr 1; omega
/-- A copy of the first cells behind them. -/
theorem Fst.copy {w0 w : World} {g N n : Nat} {b : Bool} (h : Fst w0 w g N n b) (hg : w0.heap.size ≤ g) (m : Nat) (hm : m = Nat.min n (N - n)) (k1 k2 : Nat) :
    ∃ w', (Builtin.copy_ #[128, 128] 3 #[.slice (some ⟨g, n, none⟩) (N - n) k1, .slice (some ⟨g, 0, none⟩) n k2]).run Try.prog w = .ok (goInt m) w' ∧ Fst w0 w' g N (n + m) b := by
  obtain ⟨cur, hc, hs, hb⟩ := h.cells
  have hle := h.le
  have hmn : m ≤ n ∧ m ≤ N - n := by rw [hm]; exact ⟨Nat.min_le_left _ _, Nat.min_le_right _ _⟩
  have hr := run_copyN (P := Try.prog) w 128 128 3 4 1 Try.underlying128 info_bool g n (N - n) k1 ⟨g, 0, none⟩ n k2 cur 4 (List.replicate m (.bool b)) hc
    (by rw [List.length_replicate, Nat.mul_one, hm]) (fun j v hv => by
      have hj : j < m := by have := (List.getElem?_eq_some_iff.1 hv).1; rwa [List.length_replicate] at this
      rw [List.getElem?_replicate, if_pos hj] at hv
      rw [Addr.add_mid, Nat.zero_add, ← hv, ← hb j (by omega)]
      exact Blk.cell (show Blk w g cur 4 from hc) j) (by rw [List.length_replicate]; omega) (fun v hv => by rw [List.eq_of_mem_replicate hv]; rfl)
  rw [← hm] at hr
  refine ⟨_, hr, ⟨⟨_, setRow_heap _ _ _ _ _ _ hc, ?_, fun i hi => ?_⟩, by omega, below_setRow h.bel hg _⟩⟩
  · rw [List.size_toArray, length_splice _ _ _ (by rw [List.length_replicate, Array.length_toList]; omega), Array.length_toList]; exact hs
  · rw [List.getElem?_toArray, splice_get _ _ _ (by rw [List.length_replicate, Array.length_toList]; omega), List.length_replicate]
    split
    · rw [Array.getElem?_toList]; exact hb i (by omega)
    · rw [List.getElem?_replicate, if_pos (by omega)]
theorem Fst.row {w0 w : World} {g N : Nat} {b : Bool} (h : Fst w0 w g N N b) (hg : w0.heap.size ≤ g) (hN : N ≤ maxLen) : w.ownsRow w0.heap.size 4 1 (.slice (some ⟨g, 0, none⟩) N N) N (bs (List.replicate N b)) := by
  obtain ⟨cur, hc, hs, hb⟩ := h.cells
  refine ⟨by rw [bs_length, List.length_replicate, Nat.mul_one], .inr ⟨g, N, cur, rfl, hg, hc, Nat.le_refl _, hN, by rw [hs, Nat.mul_one], ?_⟩⟩
  apply List.ext_getElem?
  intro i
  rw [List.getElem?_take, Nat.mul_one, bs, List.getElem?_map, List.getElem?_replicate]
  split
  · rw [Array.getElem?_toList, hb i (by assumption)]; rfl
  · rfl
set_option maxRecDepth 100000 in
set_option maxHeartbeats 6400000 in
theorem repeat_any {w : World} {a : Addr} {b : Bool} {c : Nat} (hb : w.cell? a = some (.bool b)) (N : Nat) (hN : N ≤ 4096) :
    Calls Try.prog 75 #[.slice (some a) 1 c, .int .i64 N] w (fun e w' => ∃ g, e = .returned (.slice (some ⟨g, 0, none⟩) N N) ∧ w'.ownsRow w.heap.size 4 1 (.slice (some ⟨g, 0, none⟩) N N) N (bs (List.replicate N b)) ∧ Below w.heap.size w w') := by
  have HN := Lib.hid hN
  have HB := Lib.hid hb
  obtain ⟨i0, hi, hz0, hz1, hz2⟩ := info_parts info_boolW
  have n0 : (0 : Int) ≤ (N : Int) := by omega
  have n1 : (N : Int) ≤ 4096 := by omega
  have wu : IntKind.u64.wrap (N : Int) = N := IntWalk.u64_in _ (by omega)
  have wi : IntKind.i64.wrap (N : Int) = N := IntWalk.i64_in _ (by omega)
  have w1 : IntKind.u64.wrap 1 = 1 := by decide
  clear hN
  go_enter Try.func75, Try.ntmps75
  go_wp2_with fail
  refine (mul_u _ N HN.out).mono ?_
  rintro e _ ⟨rfl, rfl⟩
  go_wp2_with (at_make; apply Classical.byContradiction; intro hneg)
  refine hneg ?_
  clear hneg
  refine wpList_make_full _ rfl _ _ _ rfl w.heap.size 4 i0 _ 1 Try.underlying128 hi hz0 hz1 .i64 .i64 _ _ N rfl rfl rfl rfl (by rw [hz2]; have := HN.out; omega) (by have := HN.out; unfold maxLen; omega) (Nat.le_refl _) ?_
  intro w1 hown hg
  have HO1 := Lib.hid hown
  have HG1 := Lib.hid (below_of_grown8 hg)
  have HMC := Lib.hid hg
  clear hown hg
  obtain ⟨g, hge⟩ : ∃ g, g = w.heap.size := ⟨_, rfl⟩
  rw [← hge]
  rw [← hge] at HO1
  have HGE := Lib.hid (show w.heap.size ≤ g by omega)
  have F0 := Lib.hid (show Fst w w1 g N 0 b from by
    rcases HO1.out.2 with ⟨h0, _⟩ | ⟨g', cap, cur, h0, _, h2, _, _, h5, _⟩
    · cases h0
    · injection h0 with h0 _ h7
      injection h0 with h0
      injection h0 with h0
      subst h0 h7
      exact ⟨⟨cur, h2, by rw [h5, Nat.mul_one], fun i hi => absurd hi (Nat.not_lt_zero _)⟩, Nat.zero_le _, HG1.out⟩)
  have hab : a.block < w.heap.size := block_lt_of_cell HB.out
  have HB1 := Lib.hid (show w1.cell? a = some (.bool b) from by rw [HG1.out.cell hab]; exact HB.out)
  clear hge HO1 hab
  have HCP := Lib.hid (show ∃ w2, (Builtin.copy_ #[128, 128] 3 #[.slice (some ⟨g, 0, none⟩) N N, .slice (some a) 1 c]).run Try.prog w1 = .ok (goInt (Nat.min 1 N)) w2 ∧ Fst w w2 g N (Nat.min 1 N) b from by
    obtain ⟨cur, hc, hs, _⟩ := F0.out.cells
    have hm1 : Nat.min 1 N ≤ 1 ∧ Nat.min 1 N ≤ N := ⟨Nat.min_le_left _ _, Nat.min_le_right _ _⟩
    have hr := run_copyN (P := Try.prog) w1 128 128 3 4 1 Try.underlying128 info_bool g 0 N N a 1 c cur 4 (List.replicate (Nat.min 1 N) (.bool b)) hc
      (by rw [List.length_replicate, Nat.mul_one]) (fun j v hv => by
        have hj : j < Nat.min 1 N := by have := (List.getElem?_eq_some_iff.1 hv).1; rwa [List.length_replicate] at this
        rw [List.getElem?_replicate, if_pos hj] at hv
        obtain rfl : j = 0 := by omega
        rw [show a.add 0 = a by rw [add_zero], ← hv]
        exact HB1.out) (by rw [List.length_replicate]; omega) (fun v hv => by rw [List.eq_of_mem_replicate hv]; rfl)
    refine ⟨_, hr, ⟨⟨_, setRow_heap _ _ _ _ _ _ hc, ?_, fun i hi => ?_⟩, hm1.2, below_setRow F0.out.bel HGE.out _⟩⟩
    · rw [List.size_toArray, length_splice _ _ _ (by rw [List.length_replicate, Array.length_toList]; omega), Array.length_toList]; exact hs
    · rw [List.getElem?_toArray, splice_get _ _ _ (by rw [List.length_replicate, Array.length_toList]; omega), List.length_replicate, if_neg (Nat.not_lt_zero _), if_pos (by omega), List.getElem?_replicate, if_pos (by omega)])
  obtain ⟨m0, hm0⟩ : ∃ m0, m0 = Nat.min 1 N := ⟨_, rfl⟩
  rw [← hm0] at HCP
  have HM0 := Lib.hid hm0
  obtain ⟨w2, hcp, hf2⟩ := HCP.out
  have F2 := Lib.hid hf2
  have hcq : (Builtin.copy_ #[128, 128] 3 #[.slice (some ⟨g, 0, none⟩) N N, .slice (some a) 1 c]).run Try.prog w1 = .ok (.int .i64 m0) w2 := hcp
  clear hm0 hcp hf2 HCP F0 HMC HG1 HB1
  go_wp2_with fail
  go_loopw [8] (fun x wr => ∃ n : Nat, x = .int .i64 n ∧ Fst w wr g N n b ∧ (n = 0 → N = 0)) (fun x _ => N - (intOf x).toNat)
  case atStart => exact ⟨m0, rfl, F2.out, fun h => by have h1 := HM0.out; rw [h] at h1; have : Nat.min 1 N = min 1 N := rfl; omega⟩
  case round =>
    clear F2 HM0 hcq
    obtain ⟨n, rfl, hf, hnz⟩ := hrel
    have FF := Lib.hid hf
    have HNZ := Lib.hid hnz
    clear hf hnz
    by_cases hlt : n < N
    · have HLT := Lib.hid hlt
      have m0 : (0 : Int) ≤ (n : Int) := by omega
      have m1 : (n : Int) < (N : Int) := by omega
      have m2 : (n : Int) ≤ (N : Int) := by omega
      have m3 : ¬ N = n := by omega
      have e1 : (N : Int) - (n : Int) = ((N - n : Nat) : Int) := by omega
      obtain ⟨k, hk⟩ : ∃ k, k = Nat.min n (N - n) := ⟨_, rfl⟩
      have HK := Lib.hid hk
      have HKB := Lib.hid (show k ≤ n ∧ k ≤ N - n by rw [hk]; exact ⟨Nat.min_le_left _ _, Nat.min_le_right _ _⟩)
      have HK0 := Lib.hid (show 0 < k by
        have h1 : n ≠ 0 := fun h => by have := HNZ.out h; omega
        have : Nat.min n (N - n) = min n (N - n) := rfl
        omega)
      have wk : IntKind.i64.wrap ((n : Int) + (k : Int)) = ((n + k : Nat) : Int) := by rw [show (n : Int) + (k : Int) = ((n + k : Nat) : Int) by omega]; exact IntWalk.i64_in _ (by have := HKB.out; have := HN.out; omega)
      have HCP := Lib.hid (show ∀ W, W = wr.drew → ∃ w', (Builtin.copy_ #[128, 128] 3 #[.slice (some ⟨g, n, none⟩) (N - n) (N - n), .slice (some ⟨g, 0, none⟩) n N]).run Try.prog W = .ok (goInt k) w' ∧ Fst w w' g N (n + k) b from fun W hW => by
        subst hW
        have hf : Fst w wr.drew g N n b := ⟨FF.out.cells, FF.out.le, FF.out.bel.drew⟩
        exact hf.copy HGE.out k HK.out _ _)
      clear hlt hk
      go_wp2_with fail
      refine wp_region_held_drew (S := fun _ => True) (by kernel_rfl) trivial (fun hh => ?_)
      have HH := Lib.hid hh
      clear hh
      refine wpAnyH_take (i := 0) (v := ?vR0) rfl (by kernel_rfl) (by kernel_rfl) (by kernel_rfl) (fun _ _ _ h => h) (Or.inl ⟨by rfl, fun w' _ => ?yR0⟩) HH.out ?_
      case yR0 => (go_simp; try with_reducible rfl)
      refine wpAnyH_take (i := 1) (v := ?vR1) rfl (by kernel_rfl) (by kernel_rfl) (by kernel_rfl) (fun _ _ _ h => h) (Or.inl ⟨by rfl, fun w' _ => ?yR1⟩) HH.out ?_
      case yR1 => (go_simp; try with_reducible rfl)
      try simp only [List.getElem_toArray, List.getElem_cons_succ, List.getElem_cons_zero, Act.put, List.setIfInBounds_toArray, List.set_cons_zero, List.set_cons_succ]
      refine wpAnyH_take (i := 2) (v := ?vR2) rfl (by kernel_rfl) (by kernel_rfl) (by kernel_rfl) (fun _ _ _ h => h) (Or.inl ⟨by rfl, fun w' _ => ?yR2⟩) HH.out ?_
      case yR2 => (go_simp; try with_reducible rfl)
      refine wpAnyH_take (i := 3) (v := ?vR3) rfl (by kernel_rfl) (by kernel_rfl) (by kernel_rfl) (fun _ _ _ h => h) (Or.inl ⟨by rfl, fun w' _ => ?yR3⟩) HH.out ?_
      case yR3 => (go_simp; try with_reducible rfl)
      refine wpAnyH_take (i := 4) (v := ?vR4) rfl (by kernel_rfl) (by kernel_rfl) (by kernel_rfl) (fun _ _ _ h => h) (Or.inl ⟨by rfl, fun w' _ => ?yR4⟩) HH.out ?_
      case yR4 => (go_simp; try with_reducible rfl)
      try simp only [List.getElem_toArray, List.getElem_cons_succ, List.getElem_cons_zero, Act.put, List.setIfInBounds_toArray, List.set_cons_zero, List.set_cons_succ]
      refine wpAnyH_take (i := 5) (v := ?vR5) rfl (by kernel_rfl) (by kernel_rfl) (by kernel_rfl) (fun _ _ _ h => h) (Or.inl ⟨by rfl, fun w' _ => ?yR5⟩) HH.out ?_
      case yR5 => (go_simp; try with_reducible rfl)
      refine wpAnyH_take (i := 6) (v := ?vR6) rfl (by kernel_rfl) (by kernel_rfl) (by kernel_rfl) (fun _ _ _ h => h) (Or.inl ⟨by rfl, fun w' _ => ?yR6⟩) HH.out ?_
      case yR6 => (go_simp; try with_reducible rfl)
      try simp only [List.getElem_toArray, List.getElem_cons_succ, List.getElem_cons_zero, Act.put, List.setIfInBounds_toArray, List.set_cons_zero, List.set_cons_succ]
      refine wpAnyH_ready (rs := [7]) (by kernel_rfl) (by simp) (AllReadyH.cons rfl (fun K hK => ?_) AllReadyH.nil)
      obtain ⟨w3, hcp, hf3⟩ := HCP.out _ rfl
      have F3 := Lib.hid hf3
      have HC3 := Lib.hid hcp
      clear hcp hf3 HCP
      refine step_copyR (by rfl) (.tmp 41) (.tmp 44) 128 128 rfl _ _ rfl rfl HC3.out ?_
      refine hK.out _ _ trivial (fun hh => ?_)
      have HH' := Lib.hid hh
      clear hh hK K HH FF HC3
      have HH := Lib.hid HH'.out
      clear HH'
      refine wpAnyH_take (i := 8) (v := ?vR8) rfl (by kernel_rfl) (by kernel_rfl) (by kernel_rfl) (fun _ _ _ h => h) (Or.inl ⟨by rfl, fun w' _ => ?yR8⟩) HH.out ?_
      case yR8 => (go_simp; try with_reducible rfl)
      refine wpAnyH_take (i := 9) (v := ?vR9) rfl (by kernel_rfl) (by kernel_rfl) (by kernel_rfl) (fun _ _ _ h => h) (Or.inl ⟨by rfl, fun w' _ => ?yR9⟩) HH.out ?_
      case yR9 => (go_simp; try with_reducible rfl)
      try simp only [List.getElem_toArray, List.getElem_cons_succ, List.getElem_cons_zero, Act.put, List.setIfInBounds_toArray, List.set_cons_zero, List.set_cons_succ]
      refine wpAnyH_done (by kernel_rfl) ?_ _
      go_wp2_with fail
      go_roundw
      case rel => exact ⟨n + k, by go_num, F3.out, fun h => by have := HK0.out; omega⟩
      case measure => (have := HLT.out; have := HK0.out; simp [intOf]; omega)
    · obtain rfl : n = N := by have := FF.out.le; omega
      clear hlt
      go_wp2_with fail
      go_ret
      exact ⟨g, rfl, FF.out.row HGE.out (by have := HN.out; unfold maxLen; omega), FF.out.bel⟩
end Go.Proofs.Ytgfldfofiglefaa.Mi
