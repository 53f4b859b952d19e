/-
  Texts of this seat, one behind the other: ScRows, ScOut.
-/
import Derived.Test.YtniamllcoemikaaMt1
/-
  Two rows that are appended to, and boxes, beside something that is laid; what is read of a mirror ahead of scrubbing, and behind it.
-/
namespace Go.Proofs.Ytniamllcoemikaa.Sc
open Go.RowKit Kd Mi
structure QS (L : Laid) (w0 w : World) (s : L.St) (F : Nat → Prop) (tA tE : TypeId) (zA zE : Nat) (A E : Value) (nA nE : Nat) (xs es : List Value) (bs : List (Nat × Array Value × TypeId)) : Prop where
  live : LiveA L w0 w s F
  a : w.ownsRow w0.heap.size tA zA A nA xs
  e : w.ownsRow w0.heap.size tE zE E nE es
  af : ∀ q, A.ownBlock = some q → ¬ F q
  ef : ∀ q, E.ownBlock = some q → ¬ F q
  ae : ∀ q, A.ownBlock = some q → E.ownBlock = some q → False
  bx : ∀ b ∈ bs, Blk w b.1 b.2.1 b.2.2 ∧ ¬ F b.1 ∧ (∀ q, A.ownBlock = some q → q ≠ b.1) ∧ ∀ q, E.ownBlock = some q → q ≠ b.1
section
variable {L : Laid} {w0 w w' : World} {s s' : L.St} {F F' : Nat → Prop} {tA tE : TypeId} {zA zE : Nat} {A E : Value} {nA nE : Nat} {xs es : List Value} {bs : List (Nat × Array Value × TypeId)}
theorem QS.swap (h : QS L w0 w s F tA tE zA zE A E nA nE xs es bs) : QS L w0 w s F tE tA zE zA E A nE nA es xs bs := ⟨h.live, h.e, h.a, h.ef, h.af, fun q a b => h.ae q b a, fun b hb => ⟨(h.bx b hb).1, (h.bx b hb).2.1, (h.bx b hb).2.2.2, (h.bx b hb).2.2.1⟩⟩
theorem QS.below (h : QS L w0 w s F tA tE zA zE A E nA nE xs es bs) (hb : Below w.heap.size w w') : QS L w0 w' s F tA tE zA zE A E nA nE xs es bs := ⟨h.live.below hb, own_belowN h.a hb, own_belowN h.e hb, h.af, h.ef, h.ae, fun b hm => ⟨(h.bx b hm).1.below hb, (h.bx b hm).2⟩⟩
theorem QS.dev (h : QS L w0 w s F tA tE zA zE A E nA nE xs es bs) (hm : Mv L w F w' s' F') : QS L w0 w' s' F' tA tE zA zE A E nA nE xs es bs := by
  have hn : ∀ q, ¬ F q → q < w.heap.size → ¬ F' q := fun q h1 h2 h3 => by
    rcases hm.new q h3 with h4 | h4
    · exact h1 h4
    · omega
  exact ⟨h.live.step hm, Own.but h.a hm.but h.af, Own.but h.e hm.but h.ef, fun q hq => hn q (h.af q hq) (h.a.lt q hq).2, fun q hq => hn q (h.ef q hq) (h.e.lt q hq).2, h.ae, fun b hb => ⟨(h.bx b hb).1.but hm.but (h.bx b hb).2.1, hn _ (h.bx b hb).2.1 (h.bx b hb).1.lt, (h.bx b hb).2.2⟩⟩
theorem QS.more (h : QS L w0 w s F tA tE zA zE A E nA nE xs es bs) {g : Nat} {cs : Array Value} {t : TypeId} (hb : Blk w g cs t) (hg : ¬ F g) (ha : ∀ q, A.ownBlock = some q → q ≠ g) (he : ∀ q, E.ownBlock = some q → q ≠ g) : QS L w0 w s F tA tE zA zE A E nA nE xs es ((g, cs, t) :: bs) :=
  ⟨h.live, h.a, h.e, h.af, h.ef, h.ae, fun b hm => by
    rcases List.mem_cons.1 hm with rfl | hm
    · exact ⟨hb, hg, ha, he⟩
    · exact h.bx b hm⟩
theorem QS.fewer (h : QS L w0 w s F tA tE zA zE A E nA nE xs es bs) {bs' : List (Nat × Array Value × TypeId)} (hb : ∀ b ∈ bs', b ∈ bs) : QS L w0 w s F tA tE zA zE A E nA nE xs es bs' := ⟨h.live, h.a, h.e, h.af, h.ef, h.ae, fun b hm => h.bx b (hb b hm)⟩
/-- A box that is new. -/
theorem QS.new (h : QS L w0 w s F tA tE zA zE A E nA nE xs es bs) (hb : Below w.heap.size w w') {g : Nat} {cs : Array Value} {t : TypeId} (hg : Blk w' g cs t) (hs : w.heap.size ≤ g) : QS L w0 w' s F tA tE zA zE A E nA nE xs es ((g, cs, t) :: bs) :=
  (h.below hb).more hg (fun hf => by have := L.lt h.live.at_ g hf; omega) (fun q hq => by have := (h.a.lt q hq).2; omega) (fun q hq => by have := (h.e.lt q hq).2; omega)
theorem QS.app {A' : Option Addr} {c' : Nat} {ys : List Value} (h : QS L w0 w s F tA tE zA zE A E nA nE xs es bs) (ho : w'.ownsRow w0.heap.size tA zA (.slice A' (nA + 1) c') (nA + 1) (xs ++ ys))
    (hg : w.grownBy w' A.ownBlock) (hor : (Value.slice A' (nA + 1) c').ownBlock = A.ownBlock ∨ (Value.slice A' (nA + 1) c').ownBlock = some w.heap.size) :
    QS L w0 w' s F tA tE zA zE (.slice A' (nA + 1) c') E (nA + 1) nE (xs ++ ys) es bs := by
  have hT : But (fun q => A.ownBlock = some q) w w' := (But.refl w).grown hg (fun _ hq => .inl hq)
  have hF := L.lt h.live.at_
  have hs := h.live.bel.size
  have hk : ∀ (P : Nat → Prop), (∀ q, A.ownBlock = some q → P q) → P w.heap.size → ∀ q, (Value.slice A' (nA + 1) c').ownBlock = some q → P q := fun P h1 h2 q hq => by
    rcases hor with h3 | h3
    · exact h1 q (h3 ▸ hq)
    · rw [h3] at hq; injection hq with hq; exact hq ▸ h2
  refine ⟨⟨L.but h.live.at_ hT (fun q hf hq => h.af q hq hf), h.live.new, h.live.bel.trans (hT.below (fun k hk hq => by have := (h.a.lt k hq).1; omega) hs)⟩, ho, Own.but h.e hT (fun q hq ha => h.ae q ha hq), hk _ h.af (fun hf => by have := hF _ hf; omega), h.ef, hk _ h.ae (fun he => by have := (h.e.lt _ he).2; omega), fun b hb => ?_⟩
  obtain ⟨h1, h2, h3, h4⟩ := h.bx b hb
  exact ⟨h1.but hT (fun e => h3 _ e rfl), h2, hk _ h3 (fun e => by have := h1.lt; omega), h4⟩
end
/-! ### Rows of numbers -/
def ev (l : List Int) : List Value := l.map (Value.int .i64)
theorem ev_length (l : List Int) : (ev l).length = l.length := by simp [ev]
theorem ev_append (a b : List Int) : ev (a ++ b) = ev a ++ ev b := by simp [ev]
theorem errElt : EltN Try.prog 51 40 (.int .i64 0) 1 8 := ⟨Try.underlying51, by kernel_rfl, rfl, by omega, by omega⟩
/-! ### What is read -/
def rd3 (f : Int → List UInt8 → Bool) (k : Nat) (u v : List UInt8) : List UInt8 × Int := if f k u then (u, 0) else if f k v then (v, 0) else (zeroS, 9)
section
variable {f : Int → List UInt8 → Bool} {x : Md} {n k : Nat}
theorem read_fresh (h : Fresh x n) (hk : k < n) : x.read f k = rd3 f k (x.l0.getD k zeroS) (x.l1.getD k zeroS) := by
  rw [Md.read, h.has hk, if_pos rfl, Int.toNat_natCast, h.right 0 k, h.right 1 k, show x.l 0 = x.l0 from rfl, show x.l 1 = x.l1 from rfl, rd3, h.o0, h.o1]
  rfl
theorem read_out (h : Fresh x n) (hk : k < n) (i : Nat) : (x.out i true).read f k = if i = 0 then (if f k (x.l1.getD k zeroS) then (x.l1.getD k zeroS, 0) else (zeroS, 9)) else (if f k (x.l0.getD k zeroS) then (x.l0.getD k zeroS, 0) else (zeroS, 9)) := by
  have ha : x.a.getD k false = false := by rw [h.a]; exact rep_getD
  have hb : x.b.getD k false = false := by rw [h.b]; exact rep_getD
  unfold Md.out
  split
  · rw [Md.read, show Md.has { x with o0 := true } (k : Int) = true from h.has hk, if_pos rfl, Int.toNat_natCast]
    have r0 : Md.right f { x with o0 := true } 0 k = false := by rw [Md.right, show Md.o { x with o0 := true } 0 = true from rfl]; simp
    have r1 : Md.right f { x with o0 := true } 1 k = f k (x.l1.getD k zeroS) := by rw [Md.right, show Md.st { x with o0 := true } 1 = x.b from rfl, hb, show Md.o { x with o0 := true } 1 = false from h.o1]; rfl
    rw [r0, r1, show (true && x.o1) = false by rw [h.o1]; rfl]; rfl
  · rw [Md.read, show Md.has { x with o1 := true } (k : Int) = true from h.has hk, if_pos rfl, Int.toNat_natCast]
    have r0 : Md.right f { x with o1 := true } 0 k = f k (x.l0.getD k zeroS) := by rw [Md.right, show Md.st { x with o1 := true } 0 = x.a from rfl, ha, show Md.o { x with o1 := true } 0 = false from h.o0]; rfl
    have r1 : Md.right f { x with o1 := true } 1 k = false := by rw [Md.right, show Md.o { x with o1 := true } 1 = true from rfl]; simp
    rw [r0, r1, show (x.o0 && true) = false by rw [h.o0]; rfl]; rfl
/-- What was read ahead is read behind, of each device alone. -/
theorem reads_after (h : Fresh x n) (hk : k < n) (i : Nat) : ((mdRun f (x, Wk.zero) n).1.out i true).read f k = rd3 f k (x.l0.getD k zeroS) (x.l1.getD k zeroS) := by
  obtain ⟨h1, _, h3, h4⟩ := h.run (f := f) n (Nat.le_refl _)
  rw [read_out h1 hk, h3 k hk, h4 k hk, if_pos hk, if_pos hk, good_hl0 (f := f), good_hl1 (f := f)]
  unfold rd3 hl0 hl1
  cases h5 : f k (x.l0.getD k zeroS) <;> cases h6 : f k (x.l1.getD k zeroS) <;> simp
theorem rd3_len {u v : List UInt8} (hu : u.length = 128) (hv : v.length = 128) : (rd3 f k u v).1.length = 128 := by
  unfold rd3; split
  · exact hu
  · split
    · exact hv
    · exact zeroS_length
end
end Go.Proofs.Ytniamllcoemikaa.Sc
/-
  A device is taken out while writes wait: what waits of it is gone; the other one is read.
-/
namespace Go.Proofs.Ytniamllcoemikaa.Sc
open Go.RowKit Kd Mi
theorem see_out_on {S : Sy} {i : Nat} {L : List (List UInt8)} {g : Bool} {m : Nat} (h : Mu.See S i L g m) : Mu.See (S.put i ((S.at i).out true)) i (S.at i).st true 0 := by
  have hd0 : i < S.ds.length := by rw [h.ds]; exact h.lt
  have ha : (S.put i ((S.at i).out true)).at i = (S.at i).out true := by rw [at_put _ hd0, if_pos rfl]
  exact ⟨by rw [len_put]; exact h.ds, h.p, h.lt, by rw [ha]; rfl, fun j hj => by rw [ha]; rfl, by rw [ha]; rfl, by rw [ha]; exact h.lies, by rw [ha]; exact Nat.le_refl _⟩
section
variable {pw g1 g2 g : Nat} {G : Gd} {w0 w w' : World} {F F' : Nat → Prop} {m : Nat} {s : Mr (Mu.one pw g1 g2)} {x : Md}
theorem lm_out0_on (h : Mu.LM pw g1 g2 G g w0 w s F x m) : Calls Try.prog 29 #[.pointer (some ⟨g1, 0, none⟩), .bool true] w (fun e w' => ∃ L', L'.length = x.a.length ∧ Mu.RetM (.tuple #[]) pw g1 g2 G g w0 { x with l0 := L', o0 := true } m F w e w') := by
  obtain ⟨F1, h1, h2, hl⟩ := Mu.ml_sys h.live.at_
  have hs : Mu.Sees (⟨s.d.put 0 ((s.d.at 0).out true), s.a, s.b⟩ : Mr (Mu.one pw g1 g2)) { x with l0 := (s.d.at 0).st, o0 := true } m :=
    ⟨(see_out_on h.sees.d0).more (Nat.zero_le _), h.sees.d1.put _ (by omega), h.sees.a, h.sees.b, h.sees.d0.len.trans h.sees.n0, h.sees.n1, h.sees.nb⟩
  exact (out_sys h1 0 (by rw [h2]; omega) true).mono fun _ _ hr => ⟨_, h.sees.d0.len.trans h.sees.n0, h.ret (hl ((len_put _).trans h2) hr) hs ⟨fun _ => see_out_on h.sees.d0, fun ho => (h.dry.d1 ho).put _ (by omega)⟩⟩
theorem lm_out1_on (h : Mu.LM pw g1 g2 G g w0 w s F x m) : Calls Try.prog 29 #[.pointer (some ⟨g2, 0, none⟩), .bool true] w (fun e w' => ∃ L', L'.length = x.a.length ∧ Mu.RetM (.tuple #[]) pw g1 g2 G g w0 { x with l1 := L', o1 := true } m F w e w') := by
  obtain ⟨F1, h1, h2, hl⟩ := Mu.ml_sys h.live.at_
  have hs : Mu.Sees (⟨s.d.put 1 ((s.d.at 1).out true), s.a, s.b⟩ : Mr (Mu.one pw g1 g2)) { x with l1 := (s.d.at 1).st, o1 := true } m :=
    ⟨h.sees.d0.put _ (by omega), (see_out_on h.sees.d1).more (Nat.zero_le _), h.sees.a, h.sees.b, h.sees.n0, h.sees.d1.len.trans h.sees.n1, h.sees.nb⟩
  exact (out_sys h1 1 (by rw [h2]; omega) true).mono fun _ _ hr => ⟨_, h.sees.d1.len.trans h.sees.n1, h.ret (hl ((len_put _).trans h2) hr) hs ⟨fun ho => (h.dry.d0 ho).put _ (by omega), fun _ => see_out_on h.sees.d1⟩⟩
end
section
variable {f : Int → List UInt8 → Bool} {x : Md} {n k : Nat}
theorem read_gone0 (h : Fresh x n) (hk : k < n) (L : List (List UInt8)) : Md.read f { x with l0 := L, o0 := true } k = (x.out 0 true).read f k := by
  have e : ∀ y : Md, y.a = x.a → y.o0 = true → y.l1 = x.l1 → y.o1 = x.o1 → y.b = x.b → y.read f k = if f k (x.l1.getD k zeroS) then (x.l1.getD k zeroS, 0) else (zeroS, 9) := fun y ha h0 h1 h2 h3 => by
    have hb : x.b.getD k false = false := by rw [h.b]; exact rep_getD
    rw [Md.read, show y.has (k : Int) = true by rw [Md.has, ha]; exact h.has hk, if_pos rfl, Int.toNat_natCast]
    have r0 : Md.right f y 0 k = false := by rw [Md.right, show y.o 0 = true from h0]; simp
    have r1 : Md.right f y 1 k = f k (x.l1.getD k zeroS) := by rw [Md.right, show y.st 1 = x.b from h3, hb, show y.o 1 = false from h2.trans h.o1, show y.l 1 = x.l1 from h1]; rfl
    rw [r0, r1, h0, h2, h.o1, h1]; rfl
  exact (e { x with l0 := L, o0 := true } rfl rfl rfl rfl rfl).trans (e (x.out 0 true) rfl rfl rfl rfl rfl).symm
theorem read_gone1 (h : Fresh x n) (hk : k < n) (L : List (List UInt8)) : Md.read f { x with l1 := L, o1 := true } k = (x.out 1 true).read f k := by
  have e : ∀ y : Md, y.a = x.a → y.o1 = true → y.l0 = x.l0 → y.o0 = x.o0 → y.b = x.b → y.read f k = if f k (x.l0.getD k zeroS) then (x.l0.getD k zeroS, 0) else (zeroS, 9) := fun y ha h0 h1 h2 h3 => by
    have hb : x.a.getD k false = false := by rw [h.a]; exact rep_getD
    rw [Md.read, show y.has (k : Int) = true by rw [Md.has, ha]; exact h.has hk, if_pos rfl, Int.toNat_natCast]
    have r1 : Md.right f y 1 k = false := by rw [Md.right, show y.o 1 = true from h0]; simp
    have r0 : Md.right f y 0 k = f k (x.l0.getD k zeroS) := by rw [Md.right, show y.st 0 = x.a from ha, hb, show y.o 0 = false from h2.trans h.o0, show y.l 0 = x.l0 from h1]; rfl
    rw [r0, r1, h0, h2, h.o0, h1]; rfl
  exact (e { x with l1 := L, o1 := true } rfl rfl rfl rfl rfl).trans (e (x.out 1 true) rfl rfl rfl rfl rfl).symm
end
end Go.Proofs.Ytniamllcoemikaa.Sc
