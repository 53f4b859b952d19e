/-
  Texts of this seat, one behind the other: MiLaw, MuLaw, SuTop, SxGood, SxGd, MuDevs, Put, Get, SuRef, ScWalk, ScStep, ScAll, ScMd, ScStart, SuPair, SxPure2, SxRPack, ConvB, SuRef2, LoZero, SuLaw.
-/
import Derived.OrdersHeld
import Derived.Deep.RegionHeld
import Derived.Test.YtnplhagfmfggcaaRows
import Derived.Deep.QuietTactic
import Derived.BigQuiet
import Derived.Laws.BitsAllLaws
import Derived.Laws.IdiomStrings
import Derived.Lib.Strings
import Derived.Test.YtnplhagfmfggcaaSa3
/-
  Two devices, and a mirror of them, in the laws: what each call tells, and makes of what is told of them.
-/
namespace Go.Proofs.Ytnplhagfmfggcaa.Mi
open Go.RowKit Kd
section
variable {p1 g1 p2 g2 g : Nat} {G : Gd} {w0 w w1 w' : World} {F F' : Nat → Prop} {m : Nat}
/-- Two devices, new behind w0. -/
structure LD (p1 g1 p2 g2 : Nat) (w0 w : World) (d : (Two p1 g1 p2 g2).L.St) (F : Nat → Prop) (L0 L1 : List (List UInt8)) (o0 o1 : Bool) (m : Nat) : Prop where
  live : LiveA (Two p1 g1 p2 g2).L w0 w d F
  d0 : See d.1 L0 o0 m
  d1 : See d.2 L1 o1 m
/-- A mirror of them. -/
structure LM (p1 g1 p2 g2 : Nat) (G : Gd) (g : Nat) (w0 w : World) (s : Mr (Two p1 g1 p2 g2)) (F : Nat → Prop) (x : Md) (m : Nat) : Prop where
  live : LiveA (ML (Two p1 g1 p2 g2) G g) w0 w s F
  sees : Sees s x m
  dry : Dry s x
/-- It returns v; the mirror is x now. -/
def RetM (v : Value) (p1 g1 p2 g2 : Nat) (G : Gd) (g : Nat) (w0 : World) (x : Md) (m : Nat) (F : Nat → Prop) (w : World) (e : Ending) (w' : World) : Prop :=
  e = .returned v ∧ ∃ (s : Mr (Two p1 g1 p2 g2)) (F' : Nat → Prop), LM p1 g1 p2 g2 G g w0 w' s F' x m ∧ Mv (ML (Two p1 g1 p2 g2) G g) w F w' s F'
variable {s s' : Mr (Two p1 g1 p2 g2)} {x x' : Md}
theorem LM.ret (h : LM p1 g1 p2 g2 G g w0 w s F x m) {v : Value} {e : Ending} {m' : Nat} (hr : RetA (ML (Two p1 g1 p2 g2) G g) v s' F w e w') (hs : Sees s' x' m') (hd : Dry s' x') : RetM v p1 g1 p2 g2 G g w0 x' m' F w e w' := by
  obtain ⟨rfl, F', hm⟩ := hr
  exact ⟨rfl, s', F', ⟨h.live.step hm, hs, hd⟩, hm⟩
theorem LM.below (h : LM p1 g1 p2 g2 G g w0 w s F x m) (hb : Below w.heap.size w w') : LM p1 g1 p2 g2 G g w0 w' s F x m := ⟨h.live.below hb, h.sees, h.dry⟩
theorem LM.more (h : LM p1 g1 p2 g2 G g w0 w s F x m) {m' : Nat} (hm : m ≤ m') : LM p1 g1 p2 g2 G g w0 w s F x m' := ⟨h.live, h.sees.more hm, h.dry⟩
theorem lm_write (h : LM p1 g1 p2 g2 G g w0 w s F x m) (n : Int) (y : List UInt8) (hy : y.length = 128) (hm : m < 900000) :
    Calls Try.prog 91 #[.pointer (some ⟨g, 0, none⟩), .int .i64 n, .agg (bva y)] w (RetM (.int .i64 (x.write n y).1) p1 g1 p2 g2 G g w0 (x.write n y).2 (m + 2) F w) := by
  obtain ⟨h1, h2⟩ := h.sees.write n y
  have hc := mwrite_any h.live.at_ h.sees.ok n y hy (Nat.lt_of_le_of_lt h.sees.most hm)
  rw [h1] at hc
  exact hc.mono fun _ _ hr => h.ret hr h2 (h.dry.write h.sees n y)
theorem lm_flush (h : LM p1 g1 p2 g2 G g w0 w s F x m) :
    Calls Try.prog 56 #[.pointer (some ⟨g, 0, none⟩)] w (RetM (.int .i64 (if x.o0 && x.o1 then 13 else 0)) p1 g1 p2 g2 G g w0 x 0 F w) := by
  obtain ⟨h1, h2⟩ := h.sees.flush h.dry
  have hc := mflushm_any h.live.at_
  rw [h1] at hc
  exact hc.mono fun _ _ hr => h.ret hr h2 h2.dry
theorem lm_read (h : LM p1 g1 p2 g2 G g w0 w s F x m) (n : Int) :
    Calls Try.prog 95 #[.pointer (some ⟨g, 0, none⟩), .int .i64 n] w (RetM (.tuple #[.agg (bva (x.read G.f n).1), .int .i64 (x.read G.f n).2]) p1 g1 p2 g2 G g w0 x m F w) := by
  have hc := mread_any h.live.at_ (by rw [h.sees.ok.1, h.sees.ok.2]) n
  rw [h.sees.read n] at hc
  exact hc.mono fun _ _ hr => h.ret hr h.sees h.dry
theorem lm_heal (h : LM p1 g1 p2 g2 G g w0 w s F x m) (n : Int) (hm : m < 900000) :
    Calls Try.prog 116 #[.pointer (some ⟨g, 0, none⟩), .int .i64 n] w (RetM (tup2 (x.heal G.f n).1) p1 g1 p2 g2 G g w0 (x.heal G.f n).2 (m + 1) F w) := by
  obtain ⟨h1, h2⟩ := h.sees.heal (G := G) n
  have hc := heal_any h.live.at_ h.sees.ok n (Nat.lt_of_le_of_lt h.sees.most (by omega))
  rw [h1] at hc
  exact hc.mono fun _ _ hr => h.ret hr h2 (h.dry.heal h.sees n)
theorem lm_both (h : LM p1 g1 p2 g2 G g w0 w s F x m) (n : Int) : Calls Try.prog 129 #[.pointer (some ⟨g, 0, none⟩), .int .i64 n] w (RetSec (x.both G.f n) w) := by
  have hc := both_any h.live.at_ n
  rwa [h.sees.both n] at hc
theorem lm_len (h : LM p1 g1 p2 g2 G g w0 w s F x m) : Calls Try.prog 77 #[.pointer (some ⟨g, 0, none⟩)] w (RetB (.int .i64 x.a.length) w) := by
  have hc := mlen_any h.live.at_
  rwa [h.sees.a] at hc
/-! ### The devices beneath a mirror -/
theorem ml_fst (h : (ML (Two p1 g1 p2 g2) G g).At w s F) : ∃ F1, Kd.Sys w p1 [g1] s.d.1 F1 ∧ s.d.1.ds.length = 1 ∧ ∀ {v : Value} {S : Sy} {e w'}, S.ds.length = 1 → RetS v p1 [g1] S F1 w e w' → RetA (ML (Two p1 g1 p2 g2) G g) v ⟨(S, s.d.2), s.a, s.b⟩ F w e w' := by
  obtain ⟨F0, hd, hl⟩ := ml_dev h
  obtain ⟨F1, h1, hl1⟩ := pair_fst hd
  exact ⟨F1, h1.1, h1.2, fun hS hr => hl (hl1 (RetS.reta hS hr))⟩
theorem ml_snd (h : (ML (Two p1 g1 p2 g2) G g).At w s F) : ∃ F2, Kd.Sys w p2 [g2] s.d.2 F2 ∧ s.d.2.ds.length = 1 ∧ ∀ {v : Value} {S : Sy} {e w'}, S.ds.length = 1 → RetS v p2 [g2] S F2 w e w' → RetA (ML (Two p1 g1 p2 g2) G g) v ⟨(s.d.1, S), s.a, s.b⟩ F w e w' := by
  obtain ⟨F0, hd, hl⟩ := ml_dev h
  obtain ⟨F1, h1, hl1⟩ := pair_snd hd
  exact ⟨F1, h1.1, h1.2, fun hS hr => hl (hl1 (RetS.reta hS hr))⟩
theorem lm_out0 (h : LM p1 g1 p2 g2 G g w0 w s F x 0) (on : Bool) : Calls Try.prog 54 #[.pointer (some ⟨g1, 0, none⟩), .bool on] w (RetM (.tuple #[]) p1 g1 p2 g2 G g w0 (x.out 0 on) 0 F w) := by
  obtain ⟨F1, h1, h2, hl⟩ := ml_fst h.live.at_
  have hs := h.sees.out0 on
  exact (out_sys h1 0 (by rw [h2]; omega) on).mono fun _ _ hr => h.ret (hl ((len_put _).trans h2) hr) hs hs.dry
theorem lm_out1 (h : LM p1 g1 p2 g2 G g w0 w s F x 0) (on : Bool) : Calls Try.prog 54 #[.pointer (some ⟨g2, 0, none⟩), .bool on] w (RetM (.tuple #[]) p1 g1 p2 g2 G g w0 (x.out 1 on) 0 F w) := by
  obtain ⟨F1, h1, h2, hl⟩ := ml_snd h.live.at_
  have hs := h.sees.out1 on
  exact (out_sys h1 0 (by rw [h2]; omega) on).mono fun _ _ hr => h.ret (hl ((len_put _).trans h2) hr) hs hs.dry
theorem rot_ds {S : Sy} (n a : Int) (b : UInt8) : (S.rot 0 n a b).ds.length = S.ds.length := by rw [Sy.rot]; split; exact len_put _; rfl
theorem lm_rot0 (h : LM p1 g1 p2 g2 G g w0 w s F x 0) (n a : Int) (b : UInt8) : Calls Try.prog 55 #[.pointer (some ⟨g1, 0, none⟩), .int .i64 n, .int .i64 a, .int .u8 (b.toNat : Int)] w (RetM (.bool (hasByte x.a.length n a)) p1 g1 p2 g2 G g w0 (x.rot 0 n a b) 0 F w) := by
  obtain ⟨F1, h1, h2, hl⟩ := ml_fst h.live.at_
  have hs := h.sees.rot0 n a b
  have hc := rot_sys h1 0 (by rw [h2]; omega) n a b
  rw [h.sees.d0.len, h.sees.n0] at hc
  exact hc.mono fun _ _ hr => h.ret (hl ((rot_ds n a b).trans h2) hr) hs hs.dry
theorem lm_rot1 (h : LM p1 g1 p2 g2 G g w0 w s F x 0) (n a : Int) (b : UInt8) : Calls Try.prog 55 #[.pointer (some ⟨g2, 0, none⟩), .int .i64 n, .int .i64 a, .int .u8 (b.toNat : Int)] w (RetM (.bool (hasByte x.a.length n a)) p1 g1 p2 g2 G g w0 (x.rot 1 n a b) 0 F w) := by
  obtain ⟨F1, h1, h2, hl⟩ := ml_snd h.live.at_
  have hs := h.sees.rot1 n a b
  have hc := rot_sys h1 0 (by rw [h2]; omega) n a b
  rw [h.sees.d1.len, h.sees.n1] at hc
  exact hc.mono fun _ _ hr => h.ret (hl ((rot_ds n a b).trans h2) hr) hs hs.dry
/-! ### Two devices ahead of a mirror -/
theorem LD.below {d : (Two p1 g1 p2 g2).L.St} {L0 L1 : List (List UInt8)} {o0 o1 : Bool} (h : LD p1 g1 p2 g2 w0 w d F L0 L1 o0 o1 m) (hb : Below w.heap.size w w') : LD p1 g1 p2 g2 w0 w' d F L0 L1 o0 o1 m := ⟨h.live.below hb, h.d0, h.d1⟩
theorem ld_new {S T : Sy} {F1 F2 : Nat → Prop} {L0 L1 : List (List UInt8)} {o0 o1 : Bool} (h1 : Live w0 w1 p1 [g1] S F1) (h2 : Live w1 w p2 [g2] T F2) (s1 : See S L0 o0 m) (s2 : See T L1 o1 m) :
    LD p1 g1 p2 g2 w0 w (S, T) (fun q => F1 q ∨ F2 q) L0 L1 o0 o1 m := by
  have hl1 := h1.lt
  refine ⟨⟨⟨F1, F2, ⟨(h1.below h2.bel).sys, s1.ds⟩, ⟨h2.sys, s2.ds⟩, fun q a b => by have := hl1 q a; have := h2.new q b; omega, fun q a => .inl a, fun q a => .inr a, ?_⟩, ?_, h1.bel.trans (h2.bel.mono h1.bel.size)⟩, s1, s2⟩
  · rintro q (hq | hq)
    · exact Nat.lt_of_lt_of_le (hl1 q hq) h2.bel.size
    · exact h2.lt q hq
  · rintro q (hq | hq)
    · exact h1.new q hq
    · exact Nat.le_trans h1.bel.size (h2.new q hq)
theorem lm_new (hR : ∀ A n c B m e, G.R A n c B m e) {d : (Two p1 g1 p2 g2).L.St} {L0 L1 : List (List UInt8)} {o0 o1 : Bool} {n : Nat} (h : LD p1 g1 p2 g2 w0 w d F L0 L1 o0 o1 0) (e0 : L0.length = n) (e1 : L1.length = n) (hl : G.l = [] := by rfl) :
    Calls Try.prog 74 #[.pointer (some ⟨g1, 0, none⟩), .pointer (some ⟨g2, 0, none⟩), G.v] w (fun e w' => ∃ g s F', e = .returned (.pointer (some ⟨g, 0, none⟩)) ∧ LM p1 g1 p2 g2 G g w0 w' s F' ⟨L0, L1, o0, o1, List.replicate n o0, List.replicate n o1⟩ 0 ∧ (∀ q, F' q → F q ∨ w.heap.size ≤ q) ∧ But F w w') := by
  refine (new_any (C := Two p1 g1 p2 g2) hR h.live.at_ hl).mono ?_
  rintro e w' ⟨g, F', rfl, h1, h2, h3⟩
  have hs : Sees (newM (Two p1 g1 p2 g2) d) ⟨L0, L1, o0, o1, List.replicate n o0, List.replicate n o1⟩ 0 := sees_new h.d0 h.d1 e0 e1
  exact ⟨g, _, F', rfl, ⟨⟨h1, fun q hq => (h2 q hq).elim (h.live.new q) (Nat.le_trans h.live.bel.size), h.live.bel.trans (h3.below (fun k hk hq => by have := h.live.new k hq; omega) h.live.bel.size)⟩, hs, hs.dry⟩, h2, h3⟩
end
end Go.Proofs.Ytnplhagfmfggcaa.Mi
/-
  Two devices of one power, and a mirror of them, in the laws: what each call tells, and makes of what is told of them.
-/
namespace Go.Proofs.Ytnplhagfmfggcaa.Mu
open Go.RowKit Kd Mi
section
variable {p g1 g2 g : Nat} {G : Gd} {w0 w w1 w' : World} {F F' : Nat → Prop} {m : Nat}
/-- Two devices, new behind w0. -/
structure LD (p g1 g2 : Nat) (w0 w : World) (d : Sy) (F : Nat → Prop) (L0 L1 : List (List UInt8)) (o0 o1 : Bool) (m : Nat) : Prop where
  live : LiveA (SysL p [g1, g2] 2) w0 w d F
  d0 : See d 0 L0 o0 m
  d1 : See d 1 L1 o1 m
/-- A mirror of them. -/
structure LM (p g1 g2 : Nat) (G : Gd) (g : Nat) (w0 w : World) (s : Mr (one p g1 g2)) (F : Nat → Prop) (x : Md) (m : Nat) : Prop where
  live : LiveA (ML (one p g1 g2) G g) w0 w s F
  sees : Sees s x m
  dry : Dry s x
/-- It returns v; the mirror is x now. -/
def RetM (v : Value) (p g1 g2 : Nat) (G : Gd) (g : Nat) (w0 : World) (x : Md) (m : Nat) (F : Nat → Prop) (w : World) (e : Ending) (w' : World) : Prop :=
  e = .returned v ∧ ∃ (s : Mr (one p g1 g2)) (F' : Nat → Prop), LM p g1 g2 G g w0 w' s F' x m ∧ Mv (ML (one p g1 g2) G g) w F w' s F'
variable {s s' : Mr (one p g1 g2)} {x x' : Md}
theorem LM.ret (h : LM p g1 g2 G g w0 w s F x m) {v : Value} {e : Ending} {m' : Nat} (hr : RetA (ML (one p g1 g2) G g) v s' F w e w') (hs : Sees s' x' m') (hd : Dry s' x') : RetM v p g1 g2 G g w0 x' m' F w e w' := by
  obtain ⟨rfl, F', hm⟩ := hr
  exact ⟨rfl, s', F', ⟨h.live.step hm, hs, hd⟩, hm⟩
theorem LM.below (h : LM p g1 g2 G g w0 w s F x m) (hb : Below w.heap.size w w') : LM p g1 g2 G g w0 w' s F x m := ⟨h.live.below hb, h.sees, h.dry⟩
theorem LM.more (h : LM p g1 g2 G g w0 w s F x m) {m' : Nat} (hm : m ≤ m') : LM p g1 g2 G g w0 w s F x m' := ⟨h.live, h.sees.more hm, h.dry⟩
theorem lm_write (h : LM p g1 g2 G g w0 w s F x m) (n : Int) (y : List UInt8) (hy : y.length = 128) (hm : m < 900000) :
    Calls Try.prog 91 #[.pointer (some ⟨g, 0, none⟩), .int .i64 n, .agg (bva y)] w (RetM (.int .i64 (x.write n y).1) p g1 g2 G g w0 (x.write n y).2 (m + 2) F w) := by
  obtain ⟨h1, h2⟩ := h.sees.write n y
  have hc := mwrite_any h.live.at_ h.sees.ok n y hy (Nat.lt_of_le_of_lt h.sees.most hm)
  rw [h1] at hc
  exact hc.mono fun _ _ hr => h.ret hr h2 (h.dry.write h.sees n y)
theorem lm_flush (h : LM p g1 g2 G g w0 w s F x m) :
    Calls Try.prog 56 #[.pointer (some ⟨g, 0, none⟩)] w (RetM (.int .i64 (if x.o0 && x.o1 then 13 else 0)) p g1 g2 G g w0 x 0 F w) := by
  obtain ⟨h1, h2⟩ := h.sees.flush h.dry
  have hc := mflushm_any h.live.at_
  rw [h1] at hc
  exact hc.mono fun _ _ hr => h.ret hr h2 h2.dry
theorem lm_read (h : LM p g1 g2 G g w0 w s F x m) (n : Int) :
    Calls Try.prog 95 #[.pointer (some ⟨g, 0, none⟩), .int .i64 n] w (RetM (.tuple #[.agg (bva (x.read G.f n).1), .int .i64 (x.read G.f n).2]) p g1 g2 G g w0 x m F w) := by
  have hc := mread_any h.live.at_ (by rw [h.sees.ok.1, h.sees.ok.2]) n
  rw [h.sees.read n] at hc
  exact hc.mono fun _ _ hr => h.ret hr h.sees h.dry
theorem lm_heal (h : LM p g1 g2 G g w0 w s F x m) (n : Int) (hm : m < 900000) :
    Calls Try.prog 116 #[.pointer (some ⟨g, 0, none⟩), .int .i64 n] w (RetM (tup2 (x.heal G.f n).1) p g1 g2 G g w0 (x.heal G.f n).2 (m + 1) F w) := by
  obtain ⟨h1, h2⟩ := h.sees.heal (G := G) n
  have hc := heal_any h.live.at_ h.sees.ok n (Nat.lt_of_le_of_lt h.sees.most (by omega))
  rw [h1] at hc
  exact hc.mono fun _ _ hr => h.ret hr h2 (h.dry.heal h.sees n)
theorem lm_both (h : LM p g1 g2 G g w0 w s F x m) (n : Int) : Calls Try.prog 129 #[.pointer (some ⟨g, 0, none⟩), .int .i64 n] w (RetSec (x.both G.f n) w) := by
  have hc := both_any h.live.at_ n
  rwa [h.sees.both n] at hc
theorem lm_len (h : LM p g1 g2 G g w0 w s F x m) : Calls Try.prog 77 #[.pointer (some ⟨g, 0, none⟩)] w (RetB (.int .i64 x.a.length) w) := by
  have hc := mlen_any h.live.at_
  rwa [h.sees.a] at hc
/-! ### The devices beneath a mirror -/
theorem ml_sys (h : (ML (one p g1 g2) G g).At w s F) : ∃ F1, Kd.Sys w p [g1, g2] s.d F1 ∧ s.d.ds.length = 2 ∧ ∀ {v : Value} {S : Sy} {e w'}, S.ds.length = 2 → RetS v p [g1, g2] S F1 w e w' → RetA (ML (one p g1 g2) G g) v ⟨S, s.a, s.b⟩ F w e w' := by
  obtain ⟨F1, h1, hl⟩ := ml_dev h
  exact ⟨F1, h1.1, h1.2, fun hS hr => hl (RetS.reta hS hr)⟩
theorem lm_out0 (h : LM p g1 g2 G g w0 w s F x 0) (on : Bool) : Calls Try.prog 54 #[.pointer (some ⟨g1, 0, none⟩), .bool on] w (RetM (.tuple #[]) p g1 g2 G g w0 (x.out 0 on) 0 F w) := by
  obtain ⟨F1, h1, h2, hl⟩ := ml_sys h.live.at_
  have hs := h.sees.out0 on
  exact (out_sys h1 0 (by rw [h2]; omega) on).mono fun _ _ hr => h.ret (hl ((len_put _).trans h2) hr) hs hs.dry
theorem lm_out1 (h : LM p g1 g2 G g w0 w s F x 0) (on : Bool) : Calls Try.prog 54 #[.pointer (some ⟨g2, 0, none⟩), .bool on] w (RetM (.tuple #[]) p g1 g2 G g w0 (x.out 1 on) 0 F w) := by
  obtain ⟨F1, h1, h2, hl⟩ := ml_sys h.live.at_
  have hs := h.sees.out1 on
  exact (out_sys h1 1 (by rw [h2]; omega) on).mono fun _ _ hr => h.ret (hl ((len_put _).trans h2) hr) hs hs.dry
theorem rot_dsT {S : Sy} (i : Nat) (n a : Int) (b : UInt8) : (S.rot i n a b).ds.length = S.ds.length := by rw [Sy.rot]; split; exact len_put _; rfl
theorem lm_rot0 (h : LM p g1 g2 G g w0 w s F x 0) (n a : Int) (b : UInt8) : Calls Try.prog 55 #[.pointer (some ⟨g1, 0, none⟩), .int .i64 n, .int .i64 a, .int .u8 (b.toNat : Int)] w (RetM (.bool (hasByte x.a.length n a)) p g1 g2 G g w0 (x.rot 0 n a b) 0 F w) := by
  obtain ⟨F1, h1, h2, hl⟩ := ml_sys h.live.at_
  have hs := h.sees.rot0 n a b
  have hc := rot_sys h1 0 (by rw [h2]; omega) n a b
  rw [h.sees.d0.len, h.sees.n0] at hc
  exact hc.mono fun _ _ hr => h.ret (hl ((rot_dsT 0 n a b).trans h2) hr) hs hs.dry
theorem lm_rot1 (h : LM p g1 g2 G g w0 w s F x 0) (n a : Int) (b : UInt8) : Calls Try.prog 55 #[.pointer (some ⟨g2, 0, none⟩), .int .i64 n, .int .i64 a, .int .u8 (b.toNat : Int)] w (RetM (.bool (hasByte x.a.length n a)) p g1 g2 G g w0 (x.rot 1 n a b) 0 F w) := by
  obtain ⟨F1, h1, h2, hl⟩ := ml_sys h.live.at_
  have hs := h.sees.rot1 n a b
  have hc := rot_sys h1 1 (by rw [h2]; omega) n a b
  rw [h.sees.d1.len, h.sees.n1] at hc
  exact hc.mono fun _ _ hr => h.ret (hl ((rot_dsT 1 n a b).trans h2) hr) hs hs.dry
/-- A device beneath it is read. -/
theorem lm_dread0 (h : LM p g1 g2 G g w0 w s F x m) (n : Int) : Calls Try.prog 30 #[.pointer (some ⟨g1, 0, none⟩), .int .i64 n] w (RetB (.tuple #[.agg (bva (if x.o0 = false ∧ 0 ≤ n ∧ n < (x.a.length : Int) then x.l0.getD n.toNat zeroS else zeroS)), .int .i64 (if x.o0 then 13 else if n < 0 ∨ (x.a.length : Int) ≤ n then 2 else 0)]) w) := by
  obtain ⟨F1, h1, hl⟩ := ml_dev h.live.at_
  have hc := (one p g1 g2).crd (i := 0) h1 (by omega) n
  rw [h.sees.rd (i := 0) (by omega) n] at hc
  exact hc
theorem lm_dread1 (h : LM p g1 g2 G g w0 w s F x m) (n : Int) : Calls Try.prog 30 #[.pointer (some ⟨g2, 0, none⟩), .int .i64 n] w (RetB (.tuple #[.agg (bva (if x.o1 = false ∧ 0 ≤ n ∧ n < (x.a.length : Int) then x.l1.getD n.toNat zeroS else zeroS)), .int .i64 (if x.o1 then 13 else if n < 0 ∨ (x.a.length : Int) ≤ n then 2 else 0)]) w) := by
  obtain ⟨F1, h1, hl⟩ := ml_dev h.live.at_
  have hc := (one p g1 g2).crd (i := 1) h1 (by omega) n
  rw [h.sees.rd (i := 1) (by omega) n] at hc
  exact hc
/-! ### Two devices ahead of a mirror -/
variable {d : Sy} {L0 L1 : List (List UInt8)} {o0 o1 : Bool}
theorem LD.below (h : LD p g1 g2 w0 w d F L0 L1 o0 o1 m) (hb : Below w.heap.size w w') : LD p g1 g2 w0 w' d F L0 L1 o0 o1 m := ⟨h.live.below hb, h.d0, h.d1⟩
theorem ld_new {S : Sy} (h : Live w0 w p [g1, g2] S F) (s1 : See S 0 L0 o0 m) (s2 : See S 1 L1 o1 m) : LD p g1 g2 w0 w S F L0 L1 o0 o1 m :=
  ⟨⟨⟨h.sys, s1.ds⟩, h.new, h.bel⟩, s1, s2⟩
/-- It returns v; the devices have that now. -/
def RetD (v : Value) (p g1 g2 : Nat) (w0 : World) (L0 L1 : List (List UInt8)) (o0 o1 : Bool) (m : Nat) (F : Nat → Prop) (w : World) (e : Ending) (w' : World) : Prop :=
  e = .returned v ∧ ∃ (d : Sy) (F' : Nat → Prop), LD p g1 g2 w0 w' d F' L0 L1 o0 o1 m ∧ (∀ q, F' q → F q ∨ w.heap.size ≤ q) ∧ But F w w'
theorem LD.ret (h : LD p g1 g2 w0 w d F L0 L1 o0 o1 m) {v : Value} {S : Sy} {L0' L1' : List (List UInt8)} {o0' o1' : Bool} {m' : Nat} {e : Ending} (hr : RetS v p [g1, g2] S F w e w') (s1 : See S 0 L0' o0' m') (s2 : See S 1 L1' o1' m') : RetD v p g1 g2 w0 L0' L1' o0' o1' m' F w e w' := by
  obtain ⟨rfl, F', h1, h2, h3⟩ := hr
  exact ⟨rfl, S, F', ⟨h.live.step ⟨⟨h1, s1.ds⟩, h2, h3⟩, s1, s2⟩, h2, h3⟩
theorem ld_write0 (h : LD p g1 g2 w0 w d F L0 L1 false o1 m) (k : Nat) (hk : k < L0.length) (y : List UInt8) (hy : y.length = 128) (hm : m < 900000) :
    Calls Try.prog 57 #[.pointer (some ⟨g1, 0, none⟩), .int .i64 k, .agg (bva y)] w (RetD (.int .i64 0) p g1 g2 w0 (L0.set k y) L1 false o1 (m + 1) F w) := by
  obtain ⟨h1, h2, h3⟩ := h.d0.write_yes (x := y) rfl hk
  have hc := write_any h.live.at_.1 0 (by rw [h.d0.ds]; omega) (k : Int) y hy (by have := h.d0.few; omega)
  rw [h1] at hc
  exact hc.mono fun _ _ hr => h.ret hr h2 ((h3 (by omega) h.d1).more (Nat.le_succ _))
theorem ld_write1 (h : LD p g1 g2 w0 w d F L0 L1 o0 false m) (k : Nat) (hk : k < L1.length) (y : List UInt8) (hy : y.length = 128) (hm : m < 900000) :
    Calls Try.prog 57 #[.pointer (some ⟨g2, 0, none⟩), .int .i64 k, .agg (bva y)] w (RetD (.int .i64 0) p g1 g2 w0 L0 (L1.set k y) o0 false (m + 1) F w) := by
  obtain ⟨h1, h2, h3⟩ := h.d1.write_yes (x := y) rfl hk
  have hc := write_any h.live.at_.1 1 (by rw [h.d0.ds]; omega) (k : Int) y hy (by have := h.d1.few; omega)
  rw [h1] at hc
  exact hc.mono fun _ _ hr => h.ret hr ((h3 (by omega) h.d0).more (Nat.le_succ _)) h2
theorem ld_flush0 (h : LD p g1 g2 w0 w d F L0 L1 false o1 m) :
    Calls Try.prog 61 #[.pointer (some ⟨g1, 0, none⟩)] w (RetD (.int .i64 0) p g1 g2 w0 L0 L1 false o1 m F w) := by
  obtain ⟨h1, h2, h3⟩ := h.d0.flush_yes rfl
  have hc := flush_any h.live.at_.1 0 (by rw [h.d0.ds]; omega)
  rw [h1] at hc
  exact hc.mono fun _ _ hr => h.ret hr (h2.more (Nat.zero_le _)) (h3 (by omega) h.d1)
/-- The second one's flush, when nothing waits of the first. -/
theorem ld_flush1 (h : LD p g1 g2 w0 w d F L0 L1 o0 false m) (hw : See d 0 L0 o0 0) :
    Calls Try.prog 61 #[.pointer (some ⟨g2, 0, none⟩)] w (RetD (.int .i64 0) p g1 g2 w0 L0 L1 o0 false 0 F w) := by
  obtain ⟨h1, h2, h3⟩ := h.d1.flush_yes rfl
  have hc := flush_any h.live.at_.1 1 (by rw [h.d0.ds]; omega)
  rw [h1] at hc
  exact hc.mono fun _ _ hr => h.ret hr (h3 (by omega) hw) h2
theorem ld_flush0' (h : LD p g1 g2 w0 w d F L0 L1 false o1 m) :
    Calls Try.prog 61 #[.pointer (some ⟨g1, 0, none⟩)] w (fun e w' => e = .returned (.int .i64 0) ∧ ∃ (d : Sy) (F' : Nat → Prop), LD p g1 g2 w0 w' d F' L0 L1 false o1 m ∧ See d 0 L0 false 0 ∧ (∀ q, F' q → F q ∨ w.heap.size ≤ q) ∧ But F w w') := by
  obtain ⟨h1, h2, h3⟩ := h.d0.flush_yes rfl
  have hc := flush_any h.live.at_.1 0 (by rw [h.d0.ds]; omega)
  rw [h1] at hc
  exact hc.mono fun _ _ hr => by
    obtain ⟨h4, S, F', h5, h6, h7⟩ := h.ret (L0' := L0) (L1' := L1) (m' := m) hr (h2.more (Nat.zero_le _)) (h3 (by omega) h.d1)
    obtain ⟨_, F2, h8, h9, h10⟩ := hr
    exact ⟨h4, _, F2, ⟨h.live.step ⟨⟨h8, h2.ds⟩, h9, h10⟩, h2.more (Nat.zero_le _), h3 (by omega) h.d1⟩, h2, h9, h10⟩
theorem lm_new (hR : ∀ A n c B m e, G.R A n c B m e) {n : Nat} (h : LD p g1 g2 w0 w d F L0 L1 o0 o1 0) (e0 : L0.length = n) (e1 : L1.length = n) (hl : G.l = [] := by rfl) :
    Calls Try.prog 74 #[.pointer (some ⟨g1, 0, none⟩), .pointer (some ⟨g2, 0, none⟩), G.v] w (fun e w' => ∃ g s F', e = .returned (.pointer (some ⟨g, 0, none⟩)) ∧ LM p g1 g2 G g w0 w' s F' ⟨L0, L1, o0, o1, List.replicate n o0, List.replicate n o1⟩ 0 ∧ (∀ q, F' q → F q ∨ w.heap.size ≤ q) ∧ But F w w') := by
  refine (new_any (C := one p g1 g2) hR h.live.at_ hl).mono ?_
  rintro e w' ⟨g, F', rfl, h1, h2, h3⟩
  have hs : Sees (newM (one p g1 g2) d) ⟨L0, L1, o0, o1, List.replicate n o0, List.replicate n o1⟩ 0 := sees_new h.d0 h.d1 e0 e1
  exact ⟨g, _, F', rfl, ⟨⟨h1, fun q hq => (h2 q hq).elim (h.live.new q) (Nat.le_trans h.live.bel.size), h.live.bel.trans (h3.below (fun k hk hq => by have := h.live.new k hq; omega) h.live.bel.size)⟩, hs, hs.dry⟩, h2, h3⟩
end
end Go.Proofs.Ytnplhagfmfggcaa.Mu
/-
  Read and Write of supers, over a mirror of two devices of one power.
-/
namespace Go.Proofs.Ytnplhagfmfggcaa.Su
open Go.RowKit Kd Sx Mi
attribute [local go_sem ↓] Go.wp_at_zero Go.wp_at_succ
theorem by_restU {R G : Value → Nat → World → Prop} {p : Prop} (ways : (∀ X Y w', R X Y w' → G X Y w') → p) (rest : ∀ X Y w', R X Y w' → G X Y w') : p := ways rest
section
variable {p g1 g2 g : Nat} {G : Gd} {w0 w : World} {s : Mr (Mu.one p g1 g2)} {F : Nat → Prop} {x : Md} {m : Nat}
theorem lm_both_len (h : Mu.LM p g1 g2 G g w0 w s F x m) (n : Int) : ∀ y ∈ x.both G.f n, y.length = 128 := by
  rw [← h.sees.both n]
  intro y hy
  unfold bothL at hy
  split at hy
  · exact bothTo_len h.live.at_ n 2 (Nat.le_refl _) y hy
  · cases hy
theorem lm_read_len (h : Mu.LM p g1 g2 G g w0 w s F x m) (k : Int) : (x.read G.f k).1.length = 128 := by
  rw [← h.sees.read k]
  obtain ⟨A, n, c, B, m, e, F1, hr, _⟩ := h.live.at_
  unfold readM
  split
  · split
    · exact (Mu.one p g1 g2).rd_len hr.d (by omega)
    · split
      · exact (Mu.one p g1 g2).rd_len hr.d (by omega)
      · exact zeroS_length
  · exact zeroS_length
/-- What Read tells of a mirror that is x. -/
def readP (f : List UInt8 → List UInt8 → List UInt8) (G : Gd) (x : Md) : Sp × Int :=
  if (newestP f (x.both G.f 0) (x.both G.f 1)).2 then ((newestP f (x.both G.f 0) (x.both G.f 1)).1, 0) else (zeroP, if (x.read G.f 0).2 = 13 then 13 else 4)
set_option maxRecDepth 100000 in
set_option maxHeartbeats 3200000 in
theorem uread_any (h : Mu.LM p g1 g2 G g w0 w s F x m) (ci : SCiph) :
    Calls Try.prog 53 #[.pointer (some ⟨g, 0, none⟩), ci.v] w (Mu.RetM (.tuple #[spA (readP ci.f G x).1, .int .i64 (readP ci.f G x).2]) p g1 g2 G g w0 x m F w) := by
  have hzf := zero_super
  obtain ⟨z, hz0⟩ : ∃ z : List UInt8, z = zeroS := ⟨_, rfl⟩
  have hz : ∀ W, (zeroValue 38).run Try.prog W = .ok (.agg (bva z)) W := fun _ => by rw [hz0]; kernel_rfl
  have HZ3 := Lib.hid (show z.length = 128 by rw [hz0]; exact zeroS_length)
  obtain ⟨w1, hw1⟩ : ∃ W, W = w.alloc (.cells #[.int .u64 0, .int .i64 0, .int .u64 0] 100) := ⟨_, rfl⟩
  have bw1 : Below w.heap.size w w1 := by rw [hw1]; exact (Below.refl _ _).alloc (Nat.le_refl _) _
  have X1 := Lib.hid (show Blk w1 w.heap.size #[.int .u64 0, .int .i64 0, .int .u64 0] 100 by rw [hw1]; exact heap_alloc_new _ _)
  have H0 := Lib.hid h
  have H1 := Lib.hid (h.below bw1)
  have NF := Lib.hid (show ¬ F w.heap.size from fun hf => by have := (ML (Mu.one p g1 g2) G g).lt h.live.at_ _ hf; omega)
  have B1 := Lib.hid bw1
  have HNW := Lib.hid (unewest_any (some ⟨g, 0, none⟩) ci (x.both G.f 0) (x.both G.f 1) (lm_both_len h 0) (lm_both_len h 1) w1 (fun W hb k hk => by
    have hc := Mu.lm_both (H1.out.below hb) (k : Int)
    rcases (show k = 0 ∨ k = 1 by omega) with rfl | rfl
    · exact hc
    · exact hc))
  obtain ⟨R, hR⟩ : ∃ R, R = newestP ci.f (x.both G.f 0) (x.both G.f 1) := ⟨_, rfl⟩
  obtain ⟨⟨y, er⟩, hye⟩ : ∃ q, q = x.read G.f 0 := ⟨_, rfl⟩
  have HY3 := Lib.hid (show y.length = 128 by have hh := lm_read_len h 0; rw [← hye] at hh; exact hh)
  have HRD := Lib.hid (fun W s F (hl : Mu.LM p g1 g2 G g w0 W s F x m) => show Calls Try.prog 95 #[.pointer (some ⟨g, 0, none⟩), .int .i64 0] W (Mu.RetM (.tuple #[.agg (bva y), .int .i64 er]) p g1 g2 G g w0 x m F W) by have hc := Mu.lm_read hl 0; rw [← hye] at hc; exact hc)
  have HRP := Lib.hid (show readP ci.f G x = if R.2 then (R.1, 0) else (zeroP, if er = 13 then 13 else 4) by rw [readP, ← hR, ← hye])
  rw [← hR] at HNW
  obtain ⟨⟨rv, rn, rt⟩, rf⟩ := R
  unfold SCiph.v
  unfold SCiph.v spA at HNW
  clear hz0 hR bw1 h hye
  go_enter Try.func53, Try.ntmps53
  go_wp2_with fail
  rw [← hw1]
  clear hw1
  refine HNW.out.mono ?_
  rintro e w2 ⟨rfl, bw⟩
  have X2 := Lib.hid (X1.out.below bw)
  have H2 := Lib.hid (H1.out.below bw)
  have B2 := Lib.hid (B1.out.trans (bw.mono B1.out.size))
  clear bw X1 H1 B1 HNW
  have HRt := Lib.hid (show rf = true → readP ci.f G x = (⟨rv, rn, rt⟩, 0) from fun h => by rw [HRP.out, h]; rfl)
  have HRf := Lib.hid (show rf = false → readP ci.f G x = (zeroP, if er = 13 then 13 else 4) from fun h => by rw [HRP.out, h]; rfl)
  clear HRP
  cases rf with
  | true =>
    have HRP := Lib.hid (HRt.out rfl)
    clear HRt HRf
    go_wp2_with first | (refine wpList_store_row rfl 100 (.tmp 4) (.tmp 24) rfl w.heap.size #[.int .u64 (rv : Int), .int .i64 rn, .int .u64 (rt : Int)] rfl rfl 100 _ (show Blk (World.alloc _ _) _ _ _ from X2.out.below ((Below.refl _ _).alloc (Nat.le_refl _) _)) super_info rfl (by simp [Value.oneCell']) ?_)
    rw [HRP.out]
    have bb := below_setRow (g := w.heap.size) (B2.out.alloc B2.out.size (.cells #[.int .u64 (rv : Int), .int .i64 rn, .int .u64 (rt : Int)] 100)) (Nat.le_refl _) #[.int .u64 (rv : Int), .int .i64 rn, .int .u64 (rt : Int)]
    exact bodyPost_ret (v := .tuple #[spA ⟨rv, rn, rt⟩, .int .i64 0]) (results_ct8 Try.results53 _ _ w.heap.size 100 #[.int .u64 (rv : Int), .int .i64 rn, .int .u64 (rt : Int)] _ rfl (setRow_heap _ _ _ _ _ _ (show Blk (World.alloc _ _) _ _ _ from X2.out.below ((Below.refl _ _).alloc (Nat.le_refl _) _))) super_under rfl super_info) rfl ⟨rfl, s, F, H0.out.below bb, (Mv.start H0.out.live.at_).below bb⟩
  | false =>
    have HRP := Lib.hid (HRf.out rfl)
    clear HRt HRf
    obtain ⟨w3, hw3⟩ : ∃ W, W = w2.alloc (.cells #[.int .u64 (rv : Int), .int .i64 rn, .int .u64 (rt : Int)] 100) := ⟨_, rfl⟩
    have bw : Below w2.heap.size w2 w3 := by rw [hw3]; exact (Below.refl _ _).alloc (Nat.le_refl _) _
    have X3 := Lib.hid (X2.out.below bw)
    have H3 := Lib.hid (H2.out.below bw)
    have B3 := Lib.hid (B2.out.trans (bw.mono B2.out.size))
    go_wp2_with fail
    rw [← hw3]
    clear hw3 bw X2 H2 B2
    refine (HRD.out _ _ _ H3.out).mono ?_
    rintro e w4 ⟨rfl, s4, F4, hl, hm⟩
    have NF3 := Lib.hid (show ¬ F4 w.heap.size from fun hf => (hm.new _ hf).elim NF.out (fun h => by have := X3.out.lt; omega))
    have X4 := Lib.hid (X3.out.but hm.but NF.out)
    have M4 := Lib.hid (((Mv.start H0.out.live.at_).below B3.out).trans hm)
    have S4 := Lib.hid (And.intro hl.sees hl.dry)
    clear hl hm X3 H3 B3 HRD
    go_wp2_with (show wpList _ _ _ ({ dst := none, op := .store 38 (.tmp 8) (.tmp 28), type := _, pos := _, after := _, guard := _ } :: _) _ _; apply Classical.byContradiction; intro hneg)
    refine hneg ?_
    clear hneg
    refine wpList_store_row rfl 38 (.tmp 8) (.tmp 28) rfl w4.heap.size (bva y) rfl rfl 38 (bva z) (heap_alloc_new _ _) (by rw [bva_size, HY3.out]; exact info_sec) (by rw [bva_size, bva_size, HY3.out, HZ3.out]) (bva_one _) ?_
    obtain ⟨w5, hw5⟩ : ∃ W, W = (w4.alloc (.cells (bva z) 38)).setRow w4.heap.size (bva y) := ⟨_, rfl⟩
    have bw : Below w4.heap.size w4 w5 := by rw [hw5]; exact below_setRow ((Below.refl _ _).alloc (Nat.le_refl _) _) (Nat.le_refl _) _
    have X5 := Lib.hid (X4.out.below bw)
    have M5 := Lib.hid (M4.out.below bw)
    rw [← hw5]
    clear hw5 bw X4 M4
    by_cases h13 : er = 13
    · subst h13
      have HRP := Lib.hid (show readP ci.f G x = (zeroP, 13) from HRP.out)
      go_wp2_with first | (refine wpList_store_row rfl 100 (.tmp 4) (.tmp 32) rfl w.heap.size #[.int .u64 0, .int .i64 0, .int .u64 0] rfl rfl 100 _ X5.out super_info rfl (by simp [Value.oneCell']) ?_)
      rw [HRP.out]
      exact bodyPost_ret (v := .tuple #[spA zeroP, .int .i64 13]) (results_ct8 Try.results53 _ _ w.heap.size 100 #[.int .u64 0, .int .i64 0, .int .u64 0] _ rfl (setRow_heap _ _ _ _ _ _ X5.out) super_under rfl super_info) rfl
        (H0.out.ret ⟨rfl, F4, M5.out.own (T := fun q => q = w.heap.size) ((But.refl _).setRow (S := fun q => q = w.heap.size) (.inl rfl) _) (fun q hq => by rw [hq]; exact Nat.le_refl _) (fun q hf hq => NF3.out (hq ▸ hf))⟩ S4.out.1 S4.out.2)
    · have HRP := Lib.hid (show readP ci.f G x = (zeroP, 4) by rw [HRP.out, if_neg h13])
      have h13' : (er == 13) = false := by simpa using h13
      go_wp2_with first | (refine wpList_store_row rfl 100 (.tmp 4) (.tmp 34) rfl w.heap.size #[.int .u64 0, .int .i64 0, .int .u64 0] rfl rfl 100 _ X5.out super_info rfl (by simp [Value.oneCell']) ?_)
      rw [HRP.out]
      exact bodyPost_ret (v := .tuple #[spA zeroP, .int .i64 4]) (results_ct8 Try.results53 _ _ w.heap.size 100 #[.int .u64 0, .int .i64 0, .int .u64 0] _ rfl (setRow_heap _ _ _ _ _ _ X5.out) super_under rfl super_info) rfl
        (H0.out.ret ⟨rfl, F4, M5.out.own (T := fun q => q = w.heap.size) ((But.refl _).setRow (S := fun q => q = w.heap.size) (.inl rfl) _) (fun q hq => by rw [hq]; exact Nat.le_refl _) (fun q hf hq => NF3.out (hq ▸ hf))⟩ S4.out.1 S4.out.2)
/-- What Write does to a mirror that is x. -/
def wrP (f : List UInt8 → List UInt8 → List UInt8) (x : Md) (s : Sp) : Int × Md :=
  if okP s then
    (if (x.write (placeP s : Int) (secP f s)).1 = 0 then (if (x.write (placeP s : Int) (secP f s)).2.o0 && (x.write (placeP s : Int) (secP f s)).2.o1 then 13 else 0, (x.write (placeP s : Int) (secP f s)).2)
     else ((x.write (placeP s : Int) (secP f s)).1, (x.write (placeP s : Int) (secP f s)).2))
  else (3, x)
/-- How much waits then. -/
def wrM (f : List UInt8 → List UInt8 → List UInt8) (x : Md) (s : Sp) (m : Nat) : Nat := if okP s then (if (x.write (placeP s : Int) (secP f s)).1 = 0 then 0 else m + 2) else m
theorem pack_sec (f : List UInt8 → List UInt8 → List UInt8) (s : Sp) : packS f (placeP s : Int) s.v (encP s) = secP f s := by
  rw [packS, may_enc, if_pos rfl, secP]
set_option maxRecDepth 100000 in
set_option maxHeartbeats 3200000 in
theorem uwrite_any (h : Mu.LM p g1 g2 G g w0 w s F x m) (ci : SCiph) (t : Sp) (ht : t.ok) (hm : m < 900000) :
    Calls Try.prog 51 #[.pointer (some ⟨g, 0, none⟩), ci.v, spA t] w (Mu.RetM (.int .i64 (wrP ci.f x t).1) p g1 g2 G g w0 (wrP ci.f x t).2 (wrM ci.f x t m) F w) := by
  have H0 := Lib.hid h
  have HT := Lib.hid ht
  obtain ⟨z, hz0⟩ : ∃ z : List UInt8, z = zeroS := ⟨_, rfl⟩
  have hz : ∀ W, (zeroValue 38).run Try.prog W = .ok (.agg (bva z)) W := fun _ => by rw [hz0]; kernel_rfl
  have HZ3 := Lib.hid (show z.length = 128 by rw [hz0]; exact zeroS_length)
  obtain ⟨w1, hw1⟩ : ∃ W, W = w.alloc (.cells (spC t) 100) := ⟨_, rfl⟩
  have X1 := Lib.hid (show Blk w1 w.heap.size (spC t) 100 by rw [hw1]; exact heap_alloc_new _ _)
  have B1 := Lib.hid (show Below w.heap.size w w1 by rw [hw1]; exact (Below.refl _ _).alloc (Nat.le_refl _) _)
  have HRI := Lib.hid (fun W => right_any t W)
  have HPL := Lib.hid (fun W => place_any t W)
  have HEN := Lib.hid (fun W => uenc_any t ht W)
  have HM := Lib.hid hm
  unfold SCiph.v spA
  unfold spA at HRI HPL HEN
  unfold spC at hw1 X1
  clear hz0 h ht hm
  go_enter Try.func51, Try.ntmps51
  go_wp2_with fail
  rw [← hw1]
  clear hw1
  refine (HRI.out w1).mono ?_
  rintro e w2 ⟨rfl, bw⟩
  have X2 := Lib.hid (X1.out.below bw)
  have B2 := Lib.hid (B1.out.trans (bw.mono B1.out.size))
  clear bw X1 B1 HRI
  by_cases hok : okP t = true
  · have HOK := Lib.hid hok
    rw [hok]
    have c0 := X2.out.cell 0
    have c1 := X2.out.cell 1
    have c2 := X2.out.cell 2
    go_wp2_with fail
    refine (HPL.out w2).mono ?_
    rintro e w3 ⟨rfl, bw⟩
    have X3 := Lib.hid (X2.out.below bw)
    have B3 := Lib.hid (B2.out.trans (bw.mono B2.out.size))
    clear bw X2 B2 HPL c0 c1 c2 hok
    go_wp2_with fail
    -- REGION
    have hv : t.v < 18446744073709551616 := HT.out.1
    have HPK := Lib.hid (fun W A n c (hR : Rd W.heap.size W A (bv (bytP t))) (hl : (bytP t).length = n) => show Calls Try.prog 90 #[.iface ci.T ci.x, .int .i64 (placeP t : Int), .int .u64 (t.v : Int), .slice A n c] W (RetB (.tuple #[.agg (bva (secP ci.f t)), .bool true]) W) by
      have hc := pack_any ci (placeP t : Int) t.v hv A n c (bytP t) W hl hR
      rw [bytP, if_pos HOK.out, pack_sec, may_enc] at hc
      exact hc)
    obtain ⟨y, hy⟩ : ∃ y, y = secP ci.f t := ⟨_, rfl⟩
    have HY3 := Lib.hid (show y.length = 128 by rw [hy]; exact secP_length ci.len t)
    have HIY := Lib.hid (show (Try.prog.info? 38).map (·.size) = some (bva y).size by rw [bva_size, HY3.out]; exact info_sec)
    have HYE := Lib.hid hy
    rw [← hy] at HPK
    obtain ⟨pl, hpl⟩ : ∃ pl, pl = placeP t := ⟨_, rfl⟩
    have HPE := Lib.hid hpl
    rw [← hpl] at HPK
    rw [← hpl]
    clear hy hv hpl
    apply by_restU (R := fun _ b8 W => Blk W b8 (bva y) 38 ∧ Below w.heap.size w W)
    case ways =>
      intro hG
      refine wp_region_held_drew (S := fun w' => Blk w' w.heap.size #[.int .u64 (t.v : Int), .int .i64 t.n, .int .u64 (t.t : Int)] 100 ∧ Below w.heap.size w w') (by kernel_rfl) ⟨(show Blk (World.drew _) _ _ _ from X3.out), B3.out.drew⟩ (fun hh => ?_)
      have HH := Lib.hid hh
      clear hh
      obtain ⟨w3d, hw3d⟩ : ∃ W, W = w3.drew := ⟨_, rfl⟩
      rw [← hw3d] at HH
      rw [← hw3d]
      clear hw3d
      refine wpAnyH_take (i := 0) (v := ?v24) rfl (by kernel_rfl) (by kernel_rfl) (by kernel_rfl) (fun _ _ _ h => h) (Or.inl ⟨by rfl, fun w' _ => ?y24⟩) HH.out ?_
      case y24 => (go_simp; try with_reducible rfl)
      refine wpAnyH_take (i := 1) (v := ?v25) rfl (by kernel_rfl) (by kernel_rfl) (by kernel_rfl) (fun _ _ _ h => h) (Or.inl ⟨by rfl, fun w' _ => ?y25⟩) HH.out ?_
      case y25 => (go_simp; try with_reducible rfl)
      try simp only [List.getElem_toArray, List.getElem_cons_succ, List.getElem_cons_zero, Act.put, List.setIfInBounds_toArray, List.set_cons_zero, List.set_cons_succ]
      refine wpAnyH_take (i := 2) (v := ?v26) rfl (by kernel_rfl) (by kernel_rfl) (by kernel_rfl) (fun _ _ _ h => h) (Or.inl ⟨by rfl, fun w' _ => ?y26⟩) HH.out ?_
      case y26 => (go_simp; try with_reducible rfl)
      refine wpAnyH_take (i := 3) (v := .int .u64 (t.v : Int)) rfl (by kernel_rfl) (by kernel_rfl) (by kernel_rfl) (fun _ _ _ h => h) (Or.inl ⟨by rfl, fun w' hw' => ?yc3⟩) HH.out ?_
      case yc3 => (have c0 := hw'.1.cell 0; go_simp; try with_reducible rfl)
      try simp only [List.getElem_toArray, List.getElem_cons_succ, List.getElem_cons_zero, Act.put, List.setIfInBounds_toArray, List.set_cons_zero, List.set_cons_succ]
      refine wpAnyH_take (i := 4) (v := .agg #[.int .u64 (t.v : Int), .int .i64 t.n, .int .u64 (t.t : Int)]) rfl (by kernel_rfl) (by kernel_rfl) (by kernel_rfl) (fun _ _ _ h => h) (Or.inl ⟨by rfl, fun w' hw' => ?yc4⟩) HH.out ?_
      case yc4 => exact exec_load 100 (.tmp 5) rfl rfl hw'.1 super_under rfl super_info
      try simp only [List.getElem_toArray, List.getElem_cons_succ, List.getElem_cons_zero, Act.put, List.setIfInBounds_toArray, List.set_cons_zero, List.set_cons_succ]
      refine wpAnyH_ready (rs := [5, 10]) (by kernel_rfl) (by simp) (AllReadyH.cons rfl (fun K hK => ?_) (AllReadyH.cons rfl (fun K hK => ?_) AllReadyH.nil))
      · skip
        go_simp
        refine (HEN.out _).mono ?_
        rintro e u1 ⟨A, n, c, rfl, ho, bw⟩
        have OE := Lib.hid (own_more ho (show w.heap.size ≤ _ from HH.out.2.size))
        clear ho
        go_simp
        refine hK.out _ _ ⟨HH.out.1.below bw, HH.out.2.trans (bw.mono HH.out.2.size)⟩ (fun hh => ?_)
        clear bw
        have HH' := Lib.hid hh
        clear hh hK K HH
        have HH := Lib.hid HH'.out
        clear HH'
        try simp only [List.getElem_toArray, List.getElem_cons_succ, List.getElem_cons_zero, Act.put, List.setIfInBounds_toArray, List.set_cons_zero, List.set_cons_succ]
        refine wpAnyH_ready (rs := [6, 10]) (by kernel_rfl) (by simp) (AllReadyH.cons rfl (fun K hK => ?_) (AllReadyH.cons rfl (fun K hK => ?_) AllReadyH.nil))
        · skip
          go_simp
          refine (HPK.out _ A n c (Rd.own OE.out) (own_blen OE.out)).mono ?_
          rintro e u2 ⟨rfl, bw⟩
          clear OE
          go_simp
          refine hK.out _ _ ⟨HH.out.1.below bw, HH.out.2.trans (bw.mono HH.out.2.size)⟩ (fun hh => ?_)
          clear bw
          have HH' := Lib.hid hh
          clear hh hK K HH
          have HH := Lib.hid HH'.out
          clear HH'
          refine wpAnyH_take (i := 7) (v := ?v3) rfl (by kernel_rfl) (by kernel_rfl) (by kernel_rfl) (fun _ _ _ h => h) (Or.inl ⟨by rfl, fun w' _ => ?y3⟩) HH.out ?_
          case y3 => (go_simp; try with_reducible rfl)
          try simp only [List.getElem_toArray, List.getElem_cons_succ, List.getElem_cons_zero, Act.put, List.setIfInBounds_toArray, List.set_cons_zero, List.set_cons_succ]
          refine wpAnyH_take (i := 8) (v := ?v4) rfl (by kernel_rfl) (by kernel_rfl) (by kernel_rfl) (fun _ _ _ h => h) (Or.inl ⟨by rfl, fun w' _ => ?y4⟩) HH.out ?_
          case y4 => (go_simp; try with_reducible rfl)
          refine wpAnyH_take (i := 9) (v := ?v5) rfl (by kernel_rfl) (by kernel_rfl) (by kernel_rfl) (fun _ _ _ h => h) (Or.inl ⟨by rfl, fun w' _ => ?y5⟩) HH.out ?_
          case y5 => (go_simp; try with_reducible rfl)
          try simp only [List.getElem_toArray, List.getElem_cons_succ, List.getElem_cons_zero, Act.put, List.setIfInBounds_toArray, List.set_cons_zero, List.set_cons_succ]
          refine wpAnyH_ready (rs := [10]) (by kernel_rfl) (by simp) (AllReadyH.cons rfl (fun K hK => ?_) AllReadyH.nil)
          go_simp
          obtain ⟨u6, hu6⟩ : ∃ W, W = World.alloc u2 (.cells (bva z) 38) := ⟨_, rfl⟩
          have XA := Lib.hid (show Blk u6 u2.heap.size (bva z) 38 ∧ w.heap.size ≤ u2.heap.size ∧ w.heap.size ≠ u2.heap.size from ⟨by rw [hu6]; exact heap_alloc_new _ _, HH.out.2.size, fun e => by have h1 := HH.out.1.lt; rw [← e] at h1; exact Nat.lt_irrefl _ h1⟩)
          have bw : Below u2.heap.size u2 u6 := by rw [hu6]; exact (Below.refl _ _).alloc (Nat.le_refl _) _
          rw [← hu6]
          clear hu6
          obtain ⟨b8, hb8⟩ : ∃ b, b = u2.heap.size := ⟨_, rfl⟩
          rw [← hb8] at XA
          rw [← hb8]
          refine hK.out _ _ ⟨HH.out.1.below bw, HH.out.2.trans (bw.mono HH.out.2.size)⟩ (fun hh => ?_)
          clear bw hb8
          have HH' := Lib.hid hh
          clear hh hK K HH
          have HH := Lib.hid HH'.out
          clear HH'
          try simp only [List.getElem_toArray, List.getElem_cons_succ, List.getElem_cons_zero, Act.put, List.setIfInBounds_toArray, List.set_cons_zero, List.set_cons_succ]
          refine wpAnyH_ready (rs := [11]) (by kernel_rfl) (by simp) (AllReadyH.cons rfl (fun K hK => ?_) AllReadyH.nil)
          rw [if_pos (by rfl)]
          refine wp_store_row 38 (.tmp 8) (.tmp 32) rfl b8 (bva y) rfl rfl 38 (bva z) XA.out.1 HIY.out (by rw [bva_size, bva_size, HY3.out, HZ3.out]) (bva_one _) ?_
          obtain ⟨u7, hu7⟩ : ∃ W, W = u6.setRow b8 (bva y) := ⟨_, rfl⟩
          have XL := Lib.hid (show Blk u7 b8 (bva y) 38 by rw [hu7]; exact setRow_heap _ _ _ _ _ _ XA.out.1)
          have XB := Lib.hid (show Blk u7 w.heap.size #[.int .u64 (t.v : Int), .int .i64 t.n, .int .u64 (t.t : Int)] 100 by rw [hu7]; exact HH.out.1.but ((But.refl _).setRow (S := fun q => q = b8) (.inl rfl) _) (fun e => XA.out.2.2 e))
          have BL := Lib.hid (show Below w.heap.size w u7 by rw [hu7]; exact below_setRow HH.out.2 XA.out.2.1 _)
          rw [← hu7]
          clear hu7
          refine hK.out _ _ ⟨XB.out, BL.out⟩ (fun hh => ?_)
          have HH' := Lib.hid hh
          clear hh hK K HH
          have HH := Lib.hid HH'.out
          clear HH'
          refine wpAnyH_take (i := 12) (v := ?v8) rfl (by kernel_rfl) (by kernel_rfl) (by kernel_rfl) (fun _ _ _ h => h) (Or.inl ⟨by rfl, fun w' _ => ?y8⟩) HH.out ?_
          case y8 => (go_simp; try with_reducible rfl)
          try simp only [List.getElem_toArray, List.getElem_cons_succ, List.getElem_cons_zero, Act.put, List.setIfInBounds_toArray, List.set_cons_zero, List.set_cons_succ]
          refine wpAnyH_done (by kernel_rfl) ?_ _
          obtain ⟨sl, hsl⟩ : ∃ sl, sl = Value.slice A n c := ⟨_, rfl⟩
          rw [← hsl]
          exact hG sl b8 u7 ⟨XL.out, BL.out⟩
        · skip
          go_simp
          obtain ⟨u9, hu9⟩ : ∃ W, W = World.alloc u1 (.cells (bva z) 38) := ⟨_, rfl⟩
          have XA := Lib.hid (show Blk u9 u1.heap.size (bva z) 38 ∧ w.heap.size ≤ u1.heap.size ∧ w.heap.size ≠ u1.heap.size from ⟨by rw [hu9]; exact heap_alloc_new _ _, HH.out.2.size, fun e => by have h1 := HH.out.1.lt; rw [← e] at h1; exact Nat.lt_irrefl _ h1⟩)
          have bw : Below u1.heap.size u1 u9 := by rw [hu9]; exact (Below.refl _ _).alloc (Nat.le_refl _) _
          rw [← hu9]
          clear hu9
          obtain ⟨b8, hb8⟩ : ∃ b, b = u1.heap.size := ⟨_, rfl⟩
          rw [← hb8] at XA
          rw [← hb8]
          have OE2 := Lib.hid (own_below OE.out bw)
          clear OE
          have OE := Lib.hid OE2.out
          clear OE2
          refine hK.out _ _ ⟨HH.out.1.below bw, HH.out.2.trans (bw.mono HH.out.2.size)⟩ (fun hh => ?_)
          clear bw hb8
          have HH' := Lib.hid hh
          clear hh hK K HH
          have HH := Lib.hid HH'.out
          clear HH'
          try simp only [List.getElem_toArray, List.getElem_cons_succ, List.getElem_cons_zero, Act.put, List.setIfInBounds_toArray, List.set_cons_zero, List.set_cons_succ]
          refine wpAnyH_ready (rs := [6]) (by kernel_rfl) (by simp) (AllReadyH.cons rfl (fun K hK => ?_) AllReadyH.nil)
          go_simp
          refine (HPK.out _ A n c (Rd.own OE.out) (own_blen OE.out)).mono ?_
          rintro e u10 ⟨rfl, bw⟩
          clear OE
          have XA2 := Lib.hid (show Blk _ b8 (bva z) 38 ∧ w.heap.size ≤ b8 ∧ w.heap.size ≠ b8 from ⟨XA.out.1.below bw, XA.out.2⟩)
          clear XA
          have XA := Lib.hid XA2.out
          clear XA2
          go_simp
          refine hK.out _ _ ⟨HH.out.1.below bw, HH.out.2.trans (bw.mono HH.out.2.size)⟩ (fun hh => ?_)
          clear bw
          have HH' := Lib.hid hh
          clear hh hK K HH
          have HH := Lib.hid HH'.out
          clear HH'
          refine wpAnyH_take (i := 7) (v := ?v11) rfl (by kernel_rfl) (by kernel_rfl) (by kernel_rfl) (fun _ _ _ h => h) (Or.inl ⟨by rfl, fun w' _ => ?y11⟩) HH.out ?_
          case y11 => (go_simp; try with_reducible rfl)
          try simp only [List.getElem_toArray, List.getElem_cons_succ, List.getElem_cons_zero, Act.put, List.setIfInBounds_toArray, List.set_cons_zero, List.set_cons_succ]
          refine wpAnyH_take (i := 8) (v := ?v12) rfl (by kernel_rfl) (by kernel_rfl) (by kernel_rfl) (fun _ _ _ h => h) (Or.inl ⟨by rfl, fun w' _ => ?y12⟩) HH.out ?_
          case y12 => (go_simp; try with_reducible rfl)
          refine wpAnyH_take (i := 9) (v := ?v13) rfl (by kernel_rfl) (by kernel_rfl) (by kernel_rfl) (fun _ _ _ h => h) (Or.inl ⟨by rfl, fun w' _ => ?y13⟩) HH.out ?_
          case y13 => (go_simp; try with_reducible rfl)
          try simp only [List.getElem_toArray, List.getElem_cons_succ, List.getElem_cons_zero, Act.put, List.setIfInBounds_toArray, List.set_cons_zero, List.set_cons_succ]
          refine wpAnyH_ready (rs := [11]) (by kernel_rfl) (by simp) (AllReadyH.cons rfl (fun K hK => ?_) AllReadyH.nil)
          rw [if_pos (by rfl)]
          refine wp_store_row 38 (.tmp 8) (.tmp 32) rfl b8 (bva y) rfl rfl 38 (bva z) XA.out.1 HIY.out (by rw [bva_size, bva_size, HY3.out, HZ3.out]) (bva_one _) ?_
          obtain ⟨u14, hu14⟩ : ∃ W, W = u10.setRow b8 (bva y) := ⟨_, rfl⟩
          have XL := Lib.hid (show Blk u14 b8 (bva y) 38 by rw [hu14]; exact setRow_heap _ _ _ _ _ _ XA.out.1)
          have XB := Lib.hid (show Blk u14 w.heap.size #[.int .u64 (t.v : Int), .int .i64 t.n, .int .u64 (t.t : Int)] 100 by rw [hu14]; exact HH.out.1.but ((But.refl _).setRow (S := fun q => q = b8) (.inl rfl) _) (fun e => XA.out.2.2 e))
          have BL := Lib.hid (show Below w.heap.size w u14 by rw [hu14]; exact below_setRow HH.out.2 XA.out.2.1 _)
          rw [← hu14]
          clear hu14
          refine hK.out _ _ ⟨XB.out, BL.out⟩ (fun hh => ?_)
          have HH' := Lib.hid hh
          clear hh hK K HH
          have HH := Lib.hid HH'.out
          clear HH'
          refine wpAnyH_take (i := 12) (v := ?v15) rfl (by kernel_rfl) (by kernel_rfl) (by kernel_rfl) (fun _ _ _ h => h) (Or.inl ⟨by rfl, fun w' _ => ?y15⟩) HH.out ?_
          case y15 => (go_simp; try with_reducible rfl)
          try simp only [List.getElem_toArray, List.getElem_cons_succ, List.getElem_cons_zero, Act.put, List.setIfInBounds_toArray, List.set_cons_zero, List.set_cons_succ]
          refine wpAnyH_done (by kernel_rfl) ?_ _
          obtain ⟨sl, hsl⟩ : ∃ sl, sl = Value.slice A n c := ⟨_, rfl⟩
          rw [← hsl]
          exact hG sl b8 u14 ⟨XL.out, BL.out⟩
      · skip
        go_simp
        obtain ⟨u16, hu16⟩ : ∃ W, W = World.alloc w3d (.cells (bva z) 38) := ⟨_, rfl⟩
        have XA := Lib.hid (show Blk u16 w3d.heap.size (bva z) 38 ∧ w.heap.size ≤ w3d.heap.size ∧ w.heap.size ≠ w3d.heap.size from ⟨by rw [hu16]; exact heap_alloc_new _ _, HH.out.2.size, fun e => by have h1 := HH.out.1.lt; rw [← e] at h1; exact Nat.lt_irrefl _ h1⟩)
        have bw : Below w3d.heap.size w3d u16 := by rw [hu16]; exact (Below.refl _ _).alloc (Nat.le_refl _) _
        rw [← hu16]
        clear hu16
        obtain ⟨b8, hb8⟩ : ∃ b, b = w3d.heap.size := ⟨_, rfl⟩
        rw [← hb8] at XA
        rw [← hb8]
        refine hK.out _ _ ⟨HH.out.1.below bw, HH.out.2.trans (bw.mono HH.out.2.size)⟩ (fun hh => ?_)
        clear bw hb8
        have HH' := Lib.hid hh
        clear hh hK K HH
        have HH := Lib.hid HH'.out
        clear HH'
        try simp only [List.getElem_toArray, List.getElem_cons_succ, List.getElem_cons_zero, Act.put, List.setIfInBounds_toArray, List.set_cons_zero, List.set_cons_succ]
        refine wpAnyH_ready (rs := [5]) (by kernel_rfl) (by simp) (AllReadyH.cons rfl (fun K hK => ?_) AllReadyH.nil)
        go_simp
        refine (HEN.out _).mono ?_
        rintro e u17 ⟨A, n, c, rfl, ho, bw⟩
        have OE := Lib.hid (own_more ho (show w.heap.size ≤ _ from HH.out.2.size))
        clear ho
        have XA2 := Lib.hid (show Blk _ b8 (bva z) 38 ∧ w.heap.size ≤ b8 ∧ w.heap.size ≠ b8 from ⟨XA.out.1.below bw, XA.out.2⟩)
        clear XA
        have XA := Lib.hid XA2.out
        clear XA2
        go_simp
        refine hK.out _ _ ⟨HH.out.1.below bw, HH.out.2.trans (bw.mono HH.out.2.size)⟩ (fun hh => ?_)
        clear bw
        have HH' := Lib.hid hh
        clear hh hK K HH
        have HH := Lib.hid HH'.out
        clear HH'
        try simp only [List.getElem_toArray, List.getElem_cons_succ, List.getElem_cons_zero, Act.put, List.setIfInBounds_toArray, List.set_cons_zero, List.set_cons_succ]
        refine wpAnyH_ready (rs := [6]) (by kernel_rfl) (by simp) (AllReadyH.cons rfl (fun K hK => ?_) AllReadyH.nil)
        go_simp
        refine (HPK.out _ A n c (Rd.own OE.out) (own_blen OE.out)).mono ?_
        rintro e u18 ⟨rfl, bw⟩
        clear OE
        have XA2 := Lib.hid (show Blk _ b8 (bva z) 38 ∧ w.heap.size ≤ b8 ∧ w.heap.size ≠ b8 from ⟨XA.out.1.below bw, XA.out.2⟩)
        clear XA
        have XA := Lib.hid XA2.out
        clear XA2
        go_simp
        refine hK.out _ _ ⟨HH.out.1.below bw, HH.out.2.trans (bw.mono HH.out.2.size)⟩ (fun hh => ?_)
        clear bw
        have HH' := Lib.hid hh
        clear hh hK K HH
        have HH := Lib.hid HH'.out
        clear HH'
        refine wpAnyH_take (i := 7) (v := ?v19) rfl (by kernel_rfl) (by kernel_rfl) (by kernel_rfl) (fun _ _ _ h => h) (Or.inl ⟨by rfl, fun w' _ => ?y19⟩) HH.out ?_
        case y19 => (go_simp; try with_reducible rfl)
        try simp only [List.getElem_toArray, List.getElem_cons_succ, List.getElem_cons_zero, Act.put, List.setIfInBounds_toArray, List.set_cons_zero, List.set_cons_succ]
        refine wpAnyH_take (i := 8) (v := ?v20) rfl (by kernel_rfl) (by kernel_rfl) (by kernel_rfl) (fun _ _ _ h => h) (Or.inl ⟨by rfl, fun w' _ => ?y20⟩) HH.out ?_
        case y20 => (go_simp; try with_reducible rfl)
        refine wpAnyH_take (i := 9) (v := ?v21) rfl (by kernel_rfl) (by kernel_rfl) (by kernel_rfl) (fun _ _ _ h => h) (Or.inl ⟨by rfl, fun w' _ => ?y21⟩) HH.out ?_
        case y21 => (go_simp; try with_reducible rfl)
        try simp only [List.getElem_toArray, List.getElem_cons_succ, List.getElem_cons_zero, Act.put, List.setIfInBounds_toArray, List.set_cons_zero, List.set_cons_succ]
        refine wpAnyH_ready (rs := [11]) (by kernel_rfl) (by simp) (AllReadyH.cons rfl (fun K hK => ?_) AllReadyH.nil)
        rw [if_pos (by rfl)]
        refine wp_store_row 38 (.tmp 8) (.tmp 32) rfl b8 (bva y) rfl rfl 38 (bva z) XA.out.1 HIY.out (by rw [bva_size, bva_size, HY3.out, HZ3.out]) (bva_one _) ?_
        obtain ⟨u22, hu22⟩ : ∃ W, W = u18.setRow b8 (bva y) := ⟨_, rfl⟩
        have XL := Lib.hid (show Blk u22 b8 (bva y) 38 by rw [hu22]; exact setRow_heap _ _ _ _ _ _ XA.out.1)
        have XB := Lib.hid (show Blk u22 w.heap.size #[.int .u64 (t.v : Int), .int .i64 t.n, .int .u64 (t.t : Int)] 100 by rw [hu22]; exact HH.out.1.but ((But.refl _).setRow (S := fun q => q = b8) (.inl rfl) _) (fun e => XA.out.2.2 e))
        have BL := Lib.hid (show Below w.heap.size w u22 by rw [hu22]; exact below_setRow HH.out.2 XA.out.2.1 _)
        rw [← hu22]
        clear hu22
        refine hK.out _ _ ⟨XB.out, BL.out⟩ (fun hh => ?_)
        have HH' := Lib.hid hh
        clear hh hK K HH
        have HH := Lib.hid HH'.out
        clear HH'
        refine wpAnyH_take (i := 12) (v := ?v23) rfl (by kernel_rfl) (by kernel_rfl) (by kernel_rfl) (fun _ _ _ h => h) (Or.inl ⟨by rfl, fun w' _ => ?y23⟩) HH.out ?_
        case y23 => (go_simp; try with_reducible rfl)
        try simp only [List.getElem_toArray, List.getElem_cons_succ, List.getElem_cons_zero, Act.put, List.setIfInBounds_toArray, List.set_cons_zero, List.set_cons_succ]
        refine wpAnyH_done (by kernel_rfl) ?_ _
        obtain ⟨sl, hsl⟩ : ∃ sl, sl = Value.slice A n c := ⟨_, rfl⟩
        rw [← hsl]
        exact hG sl b8 u22 ⟨XL.out, BL.out⟩
    case rest =>
      rintro sl b8 w4 ⟨hx, hb⟩
      have X4 := Lib.hid hx
      have B4 := Lib.hid hb
      have H4 := Lib.hid (H0.out.below hb)
      have HWR := Lib.hid (fun W s F (hl : Mu.LM p g1 g2 G g w0 W s F x m) => Mu.lm_write hl (pl : Int) y HY3.out HM.out)
      obtain ⟨⟨e1, x1⟩, hxe⟩ : ∃ q, q = x.write (pl : Int) y := ⟨_, rfl⟩
      have HWP := Lib.hid (show wrP ci.f x t = if e1 = 0 then (if x1.o0 && x1.o1 then 13 else 0, x1) else (e1, x1) by rw [wrP, if_pos HOK.out, ← HPE.out, ← HYE.out, ← hxe])
      have HWM := Lib.hid (show wrM ci.f x t m = if e1 = 0 then 0 else m + 2 by rw [wrM, if_pos HOK.out, ← HPE.out, ← HYE.out, ← hxe])
      rw [← hxe] at HWR
      clear hx hb hxe
      go_wp2_with (refine wpList_load_row rfl 38 (.tmp 8) rfl b8 rfl 38 (bva y) (0, 0) _ X4.out Try.underlying38 rfl HIY.out ?_)
      refine (HWR.out _ _ _ H4.out).mono ?_
      rintro e w5 ⟨rfl, s5, F5, hl, hm⟩
      have M5 := Lib.hid (((Mv.start H0.out.live.at_).below B4.out).trans hm)
      have S5 := Lib.hid hl
      clear hl hm HWR H4
      by_cases h0 : e1 = 0
      · subst h0
        have HWP2 := Lib.hid (show wrP ci.f x t = (if x1.o0 && x1.o1 then 13 else 0, x1) from HWP.out)
        clear HWP
        go_wp2_with fail
        refine (Mu.lm_flush S5.out).mono ?_
        rintro e w6 ⟨rfl, s6, F6, hl, hm⟩
        have M6 := Lib.hid (M5.out.trans hm)
        have S6 := Lib.hid hl
        clear hl hm
        obtain ⟨ef, hef⟩ : ∃ e : Int, e = if x1.o0 && x1.o1 then 13 else 0 := ⟨_, rfl⟩
        rw [← hef] at HWP2
        rw [← hef]
        clear hef
        go_wp2_with fail
        go_ret
        rw [HWP2.out, show wrM ci.f x t m = 0 from HWM.out]
        exact H0.out.ret ⟨rfl, F6, M6.out⟩ S6.out.sees S6.out.dry
      · have HWP2 := Lib.hid (show wrP ci.f x t = (e1, x1) by rw [HWP.out, if_neg h0])
        clear HWP
        go_wp2_with fail
        go_ret
        rw [HWP2.out, show wrM ci.f x t m = m + 2 by rw [HWM.out, if_neg h0]]
        exact H0.out.ret ⟨rfl, F5, M5.out⟩ S5.out.sees S5.out.dry
  · have hok' : okP t = false := by simpa using hok
    have HW := Lib.hid (show wrP ci.f x t = (3, x) by rw [wrP, hok']; rfl)
    have HWM := Lib.hid (show wrM ci.f x t m = m by rw [wrM, hok']; rfl)
    rw [hok']
    have c0 := X2.out.cell 0
    have c1 := X2.out.cell 1
    have c2 := X2.out.cell 2
    clear hok hok'
    go_wp2_with fail
    go_ret
    rw [HW.out, HWM.out]
    exact H0.out.ret ⟨rfl, F, (Mv.start H0.out.live.at_).below B2.out⟩ H0.out.sees H0.out.dry
end
end Go.Proofs.Ytnplhagfmfggcaa.Su
/-
  The contract of sector.Good, and of the function that it answers.
-/
namespace Go.Proofs.Ytnplhagfmfggcaa.Sx
open Go.RowKit Kd
attribute [local go_sem ↓] Go.wp_at_zero Go.wp_at_succ
/-- Good tells a function that keeps the cipher in a box of its own. -/
theorem good_iface (T : TypeId) (x : Value) (w : World) : Calls Try.prog 85 #[.iface T x] w (fun e w' => e = .returned (.func (.func 119) #[] #[.pointer (some ⟨w.heap.size, 0, none⟩)]) ∧ w' = w.alloc (.cells #[.iface T x] 164)) := by
  go_enter Try.func85, Try.ntmps85
  go_wp2_with fail
  go_ret
  exact ⟨rfl, rfl⟩
theorem good_nil (w : World) : Calls Try.prog 85 #[.nilIface] w (fun e w' => e = .returned (.func (.func 119) #[] #[.pointer (some ⟨w.heap.size, 0, none⟩)]) ∧ w' = w.alloc (.cells #[.nilIface] 164)) := by
  go_enter Try.func85, Try.ntmps85
  go_wp2_with fail
  go_ret
  exact ⟨rfl, rfl⟩
set_option maxRecDepth 100000 in
set_option maxHeartbeats 3200000 in
theorem goodf_any (v : Value) (ok : Bool) (n : Int) (x : List UInt8) (hx : x.length = 128) (b : Nat) (w : World) (hb : Blk w b #[v] 164) (g : Nat) (l : List UInt8)
    (hU : ∀ W, Calls Try.prog 96 #[v, .int .i64 n, .agg (bva x)] W (RetU g l ok W)) :
    Calls Try.prog 119 #[.int .i64 n, .agg (bva x), .pointer (some ⟨b, 0, none⟩)] w (RetB (.bool ok) w) := by
  obtain ⟨w2, hw2⟩ : ∃ w2, w2 = w.alloc (.cells (bva x) 38) := ⟨_, rfl⟩
  have B1 := Lib.hid (show Blk w2 w.heap.size (bva x) 38 from by rw [hw2]; exact heap_alloc_new _ _)
  have hbb : Below w.heap.size w w2 := by rw [hw2]; exact (Below.refl _ _).alloc (Nat.le_refl _) _
  have BB := Lib.hid hbb
  have c0 : (w.alloc (.cells (bva x) 38)).cell? ⟨b, 0, none⟩ = some v := by rw [← hw2]; exact (hb.below hbb).cell 0
  have HIX : Hid ((Try.prog.info? 38).map (·.size) = some (bva x).size) := by rw [bva_size, hx]; exact info_sec
  have HU := Lib.hid hU
  clear hU hb hbb hx
  go_enter Try.func119, Try.ntmps119
  go_wp2_with (refine wpList_load_row rfl 38 (.tmp 4) rfl w.heap.size rfl 38 (bva x) (0, 0) _ ?hg Try.underlying38 rfl HIX.out ?_; case hg => (rw [← hw2]; exact B1.out))
  rw [← hw2]
  clear hw2 c0
  refine (HU.out w2).mono ?_
  rintro e w3 ⟨A, k, c, rfl, _, hb3⟩
  have CB := Lib.hid (BB.out.trans (hb3.mono BB.out.size))
  clear hb3 BB B1
  go_wp2_with fail
  go_ret
  exact ⟨rfl, CB.out⟩
theorem goodf_enter (args : Array Value) (W : World) : (callFunc 119 args).run Try.prog W = .ok (.enter 119 args) W := by kernel_rfl
end Go.Proofs.Ytnplhagfmfggcaa.Sx
/-
  Good by a cipher, as a function that a mirror is handed.
-/
namespace Go.Proofs.Ytnplhagfmfggcaa.Sx
open Go.RowKit Kd
set_option maxRecDepth 100000 in
/-- Good by a cipher, in a box b. -/
def gdS (ci : SCiph) (b : Nat) : Mi.Gd where
  k := some 119
  c := #[.pointer (some ⟨b, 0, none⟩)]
  l := [(b, #[ci.v], 164)]
  ty := by
    intro x hx
    rw [List.mem_singleton] at hx
    subst hx
    exact ⟨show 164 ≠ 4 by decide, show 164 ≠ 194 by decide⟩
  f := fun n x => okS ci.f n x
  R _ _ _ _ _ _ := True
  none_ h := by cases h
  enter k' h args W := by injection h with h; subst h; exact goodf_enter args W
  call k' h w n x hl hx := by
    injection h with h; subst h
    exact goodf_any ci.v _ n x hx b w (hl _ (List.mem_singleton.2 rfl)) _ _ (fun W => unpack_any ci n x hx W)
end Go.Proofs.Ytnplhagfmfggcaa.Sx
/-
  A mirror of two devices of one power, made by a function that has boxes; the devices that a mirror has.
-/
namespace Go.Proofs.Ytnplhagfmfggcaa.Lo
open Go.RowKit Kd Mi Sx
section
variable {p g1 g2 g : Nat} {G : Gd} {w0 w w' : World} {d : Sy} {s s' : Mr (Mu.one p g1 g2)} {F : Nat → Prop} {x x' : Md} {m m' : Nat}
/-- A mirror of two devices of one power, by a function that has boxes. -/
theorem lm_newB (hR : ∀ A n c B m e, G.R A n c B m e) {L0 L1 : List (List UInt8)} {o0 o1 : Bool} {n : Nat} (h : Mu.LD p g1 g2 w0 w d F L0 L1 o0 o1 0) (hG : ∀ x ∈ G.l, Blk w x.1 x.2.1 x.2.2 ∧ ¬ F x.1 ∧ w0.heap.size ≤ x.1) (e0 : L0.length = n) (e1 : L1.length = n) :
    Calls Try.prog 74 #[.pointer (some ⟨g1, 0, none⟩), .pointer (some ⟨g2, 0, none⟩), G.v] w (fun e w' => ∃ g s F', e = .returned (.pointer (some ⟨g, 0, none⟩)) ∧ Mu.LM p g1 g2 G g w0 w' s F' ⟨L0, L1, o0, o1, List.replicate n o0, List.replicate n o1⟩ 0 ∧
      (∀ q, F' q → (F q ∨ ∃ y ∈ G.l, q = y.1) ∨ w.heap.size ≤ q) ∧ But (fun q => F q ∨ ∃ y ∈ G.l, q = y.1) w w') := by
  refine (new_anyG (C := Mu.one p g1 g2) hR h.live.at_ (fun x hx => ⟨(hG x hx).1, (hG x hx).2.1⟩) rfl).mono ?_
  rintro e w' ⟨g, F', rfl, h1, h2, h3⟩
  have hs : Mu.Sees (newM (Mu.one p g1 g2) d) ⟨L0, L1, o0, o1, List.replicate n o0, List.replicate n o1⟩ 0 := Mu.sees_new h.d0 h.d1 e0 e1
  have hF : ∀ q, (F q ∨ ∃ y ∈ G.l, q = y.1) → w0.heap.size ≤ q := fun q hq => hq.elim (h.live.new q) (fun ⟨y, hy, e⟩ => by rw [e]; exact (hG y hy).2.2)
  exact ⟨g, _, F', rfl, ⟨⟨h1, fun q hq => (h2 q hq).elim (hF q) (Nat.le_trans h.live.bel.size), h.live.bel.trans (h3.below (fun k hk hq => by have := hF k hq; omega) h.live.bel.size)⟩, hs, hs.dry⟩, h2, h3⟩
/-- The devices that a mirror has. -/
theorem lm_devs (h : Mu.LM p g1 g2 G g w0 w s F x 0) : ∃ F1, Mu.LD p g1 g2 w0 w s.d F1 x.l0 x.l1 x.o0 x.o1 0 ∧ ∀ k, F1 k → F k := by
  obtain ⟨A, n, c, B, m, e, F1, hr, h1, h2⟩ := h.live.at_
  exact ⟨F1, ⟨⟨hr.d, fun q hq => h.live.new q (h1 q (.inr (.inr (.inr (.inl hq))))), h.live.bel⟩, h.sees.d0, h.sees.d1⟩, fun k hk => h1 k (.inr (.inr (.inr (.inl hk))))⟩
end
end Go.Proofs.Ytnplhagfmfggcaa.Lo
/-
  The contracts of the two Put: a number in so many bytes, the highest first, in new memory.
-/
namespace Go.Proofs.Ytnplhagfmfggcaa
open Go.RowKit

theorem info_byte : (Try.prog.info? 5).map (fun i => (i.zero, i.size, i.bytes)) = some (some (.int .u8 0), 1, 1) := by kernel_rfl

/-- n in size bytes, the highest first. -/
def putL (n size : Nat) : List UInt8 := (List.range size).map fun i => UInt8.ofNat (n / 2 ^ (8 * (size - 1 - i)) % 256)

theorem putL_length (n s : Nat) : (putL n s).length = s := by simp [putL]
theorem putL_get {n s k : Nat} (h : k < s) : (putL n s)[k]? = some (UInt8.ofNat (n / 2 ^ (8 * (s - 1 - k)) % 256)) := by
  simp [putL, h]
theorem bv_replicate (n : Nat) : bv (List.replicate n 0) = List.replicate n (.int .u8 0) := by simp [bv]
theorem put_made (n s : Nat) : (madeCells (Value.int IntKind.u8 0).cells (s * 1)).toList = bv ((putL n s).take 0 ++ List.replicate (s - 0) 0) := by
  have e : (Value.int IntKind.u8 0).cells = #[Value.int IntKind.u8 0] := rfl
  rw [e, toList_madeCells_one, List.take_zero, List.nil_append, bv_replicate]
  simp
theorem ofNat_byte (x : Nat) : ((UInt8.ofNat (x % 256)).toNat : Int) = ((x % 256 : Nat) : Int) := by simp
theorem put_set {n s k : Nat} (h : k < s) : (bv ((putL n s).take k ++ List.replicate (s - k) 0)).set k (.int .u8 ((n : Int) / 2 ^ (8 * (s - 1 - k)) % 256)) = bv ((putL n s).take (k + 1) ++ List.replicate (s - (k + 1)) 0) := by
  have hl : ((putL n s).take k).length = k := by simp [putL_length]; omega
  have e1 : List.replicate (s - k) (0 : UInt8) = 0 :: List.replicate (s - (k + 1)) 0 := by
    rw [← List.replicate_succ]; congr 1; omega
  have e2 : (putL n s).take (k + 1) = (putL n s).take k ++ [UInt8.ofNat (n / 2 ^ (8 * (s - 1 - k)) % 256)] := by
    rw [List.take_add_one, putL_get h]; rfl
  have e3 : (Value.int .u8 ((n : Int) / 2 ^ (8 * (s - 1 - k)) % 256)) = .int .u8 ((UInt8.ofNat (n / 2 ^ (8 * (s - 1 - k)) % 256)).toNat : Int) := by
    rw [ofNat_byte, Int.natCast_emod, Int.natCast_ediv, Int.natCast_pow]; rfl
  rw [e1, e2, e3, bv_append, List.set_append_right _ _ (by rw [bv_length]; omega), bv_length, hl, Nat.sub_self]
  simp [bv]
theorem put_cell {n s k : Nat} (h : k < s) : ∃ v, (bv ((putL n s).take k ++ List.replicate (s - k) 0))[k]? = some v := by
  have hl : k < ((putL n s).take k ++ List.replicate (s - k) (0 : UInt8)).length := by simp [putL_length]; omega
  exact ⟨_, bv_get hl⟩
theorem put_done (n s : Nat) : bv ((putL n s).take s ++ List.replicate (s - s) 0) = bv (putL n s) := by
  rw [List.take_of_length_le (by rw [putL_length]; exact Nat.le_refl _)]; simp

set_option maxRecDepth 100000 in
set_option maxHeartbeats 400000 in
theorem wput_in (n size : Int) (w : World) (h0 : 0 ≤ n) (h1 : n < 18446744073709551616) (hs0 : 1 ≤ size) (hs8 : size ≤ 8) :
    Calls Try.prog 99 #[.int .u64 n, .int .i64 size] w (RetRow 5 (bv (putL n.toNat size.toNat)) w) := by
  obtain ⟨s, rfl⟩ := Int.eq_ofNat_of_zero_le (by omega : 0 ≤ size)
  obtain ⟨N, rfl⟩ := Int.eq_ofNat_of_zero_le h0
  obtain ⟨i0, hi, hz0, hz1, hz2⟩ := info_parts info_byte
  rw [Int.toNat_natCast, Int.toNat_natCast]
  clear h1
  go_enter Try.func99, Try.ntmps99
  go_wp2_with (at_make; refine wpList_make_full _ rfl _ _ _ rfl w.heap.size 5 i0 _ 1 Try.underlying81 hi hz0 hz1 .i64 .i64 _ _ s rfl rfl rfl rfl ?_ ?_ ?_ ?_; (rw [hz2]; omega); (unfold maxLen; omega); (exact Nat.le_refl _); intro w1 hown hg)
  go_loopw [6, 17] (fun u i wr => ∃ k : Nat, k ≤ s ∧ i = .int .i64 k ∧ Below w.heap.size w wr ∧ wr.ownsRow w.heap.size 5 1 (.slice (some ⟨w.heap.size, 0, none⟩) s s) s (bv ((putL N s).take k ++ List.replicate (s - k) 0))) (fun _ i _ => s - (intOf i).toNat)
  case atStart => exact ⟨0, Nat.zero_le _, rfl, (Below.refl _ _).grown hg (Nat.le_refl _) (fun _ h => by cases h), by rw [← put_made]; exact hown⟩
  case round =>
    obtain ⟨k, hk, rfl, hb, how⟩ := hrel
    by_cases hlt : k < s
    · have hc := how.cellAt k (by omega)
      have hf := how.frozenAt k
      obtain ⟨v, hv⟩ := put_cell (n := N) hlt
      rw [hv] at hc
      have HS := Lib.hid (how.stored k (.int .u8 ((N : Int) / 2 ^ (8 * (s - 1 - k)) % 256))).1
      clear hv
      go_wp2
      go_roundw
      case rel => exact ⟨k + 1, by omega, by go_num, hb.setCell (Nat.le_refl _) _, by rw [← put_set hlt]; exact HS.out⟩
      case measure => simp [intOf]; omega
    · obtain rfl : k = s := by omega
      rw [put_done] at how
      go_wp2
      go_ret
      exact RetRow.mk rfl how hb

set_option maxRecDepth 100000 in
set_option maxHeartbeats 400000 in
theorem wput_out (n size : Int) (w : World) (hs : size < 1 ∨ 8 < size) :
    Calls Try.prog 99 #[.int .u64 n, .int .i64 size] w fun e w' => e = .returned (.slice none 0 0) ∧ w = w' := by
  rcases hs with hs | hs
  · go_enter Try.func99, Try.ntmps99
    go_wp2
    go_ret
    exact ⟨rfl, rfl⟩
  · have hs' : ¬ size < 1 := by omega
    go_enter Try.func99, Try.ntmps99
    go_wp2
    go_ret
    exact ⟨rfl, rfl⟩

theorem bytesElt : Elt Try.prog 81 5 (.int .u8 0) 1 := ⟨Try.underlying81, by kernel_rfl, rfl, by omega⟩

/-- n told, whatever the size. -/
def putI (n size : Int) : List UInt8 := if 1 ≤ size ∧ size ≤ 8 then putL n.toNat size.toNat else []

set_option maxHeartbeats 400000 in
theorem wput_any (n size : Int) (w : World) (h0 : 0 ≤ n) (h1 : n < 18446744073709551616) :
    Calls Try.prog 99 #[.int .u64 n, .int .i64 size] w (RetRow 5 (bv (putI n size)) w) := by
  by_cases h : 1 ≤ size ∧ size ≤ 8
  · rw [putI, if_pos h]
    exact wput_in n size w h0 h1 h.1 h.2
  · rw [putI, if_neg h]
    refine (wput_out n size w (by omega)).mono ?_
    rintro e w' ⟨rfl, rfl⟩
    exact RetRow.mk rfl (World.ownsRow_nil _ _ _ _) (Below.refl _ _)

theorem putL_step (N k : Nat) : bv [UInt8.ofNat (N / 2 ^ (8 * k) % 256)] ++ bv (putL N k) = bv (putL N (k + 1)) := by
  rw [← bv_append]
  congr 1
  unfold putL
  rw [List.range_succ_eq_map, List.map_cons, List.map_map, List.singleton_append]
  congr 1
  refine List.map_congr_left fun j hj => ?_
  simp only [Function.comp]
  rw [show k + 1 - 1 - (j + 1) = k - 1 - j by omega]
theorem put_quo {N k Z : Nat} (h : Z = N / 2 ^ (8 * k)) : Z / 256 = N / 2 ^ (8 * (k + 1)) := by
  rw [h, Nat.div_div_eq_div_mul]
  congr 1
  rw [Nat.mul_add, Nat.pow_add]
theorem put_head {N k Z : Nat} (h : Z = N / 2 ^ (8 * k)) : [Value.int .u8 ((Z : Int) % 256)] = bv [UInt8.ofNat (N / 2 ^ (8 * k) % 256)] := by
  show _ = [Value.int .u8 ((UInt8.ofNat (N / 2 ^ (8 * k) % 256)).toNat : Int)]
  rw [ofNat_byte, ← h, Int.natCast_emod]; rfl

theorem put_wrap {N k Z : Nat} (h : Z = N / 2 ^ (8 * k)) (hN : U64 N) : IntKind.u64.wrap ((Z : Int) / 256) = ((Z / 256 : Nat) : Int) := by
  have hZ : Z ≤ N := by rw [h]; exact Nat.div_le_self _ _
  unfold U64 at hN
  rw [IntWalk.u64_in _ (by omega), Int.natCast_ediv]; rfl

set_option maxRecDepth 100000 in
set_option maxHeartbeats 400000 in
theorem rput_in (n size : Int) (w : World) (h0 : 0 ≤ n) (h1 : n < 18446744073709551616) (hs0 : 1 ≤ size) (hs8 : size ≤ 8) :
    Calls Try.prog 100 #[.int .u64 n, .int .i64 size] w (RetRow 5 (bv (putL n.toNat size.toNat)) w) := by
  obtain ⟨s, rfl⟩ := Int.eq_ofNat_of_zero_le (by omega : 0 ≤ size)
  obtain ⟨N, rfl⟩ := Int.eq_ofNat_of_zero_le h0
  rw [Int.toNat_natCast, Int.toNat_natCast]
  have HN := U64.mk h1
  clear h1
  go_enter Try.func100, Try.ntmps100
  go_wp2
  go_loopw [0, 5, 6] (fun m o i wr => ∃ (k Z : Nat) (A : Option Addr) (c : Nat), k ≤ s ∧ i = .int .i64 k ∧ m = .int .u64 (Z : Int) ∧ Hid (Z = N / 2 ^ (8 * k)) ∧ o = .slice A k c ∧ Below w.heap.size w wr ∧ wr.ownsRow w.heap.size 5 1 (.slice A k c) k (bv (putL N k))) (fun _ _ i _ => s - (intOf i).toNat)
  case atStart => exact ⟨0, N, none, 0, Nat.zero_le _, rfl, rfl, show N = _ by simp, rfl, Below.refl _ _, World.ownsRow_nil w _ _ _⟩
  case round =>
    obtain ⟨k, Z, A, c, hk, rfl, rfl, HZ, rfl, hb, how⟩ := hrel
    by_cases hlt : k < s
    · have hq0 : (0 : Int) ≤ (Z : Int) := by omega
      go_wp2_with (at_builtin; refine wpList_app _ rfl (.tmp 21) (.tmp 22) _ rfl bytesElt (base := w.heap.size) (v := .slice (some ⟨wr.heap.size, 0, none⟩) 1 1) rfl (World.ownsRow_lit _ _ 1 hb.size (by unfold maxLen; omega) rfl) rfl ((Rd.own how).below ((Below.refl _ _).alloc (Nat.le_refl _) _)) (own_len how) (bv_one _) ?_ ?_ ?_; omega; (simp; have := hb.size; omega); intro A1 c1 w1 hown1 hg1 _)
      go_roundw
      case rel =>
        refine ⟨k + 1, Z / 256, A1, c1, by omega, by go_num, ?_, put_quo HZ.out, slice_eq (by omega), app_below (hb.alloc hb.size _) (World.ownsRow_lit _ _ 1 hb.size (by unfold maxLen; omega) rfl) hg1 (Nat.le_refl _) (by simp; have := hb.size; omega), ?_⟩
        · exact int_eq (put_wrap HZ.out HN)
        · exact own_eq hown1 (by omega) (by show [Value.int .u8 ((Z : Int) % 256)] ++ _ = _; rw [put_head HZ.out]; exact putL_step N k)
      case measure => simp [intOf]; omega
    · obtain rfl : k = s := by omega
      go_wp2
      go_ret
      exact RetRow.mk rfl how hb

set_option maxRecDepth 100000 in
set_option maxHeartbeats 400000 in
theorem rput_out (n size : Int) (w : World) (hs : size < 1 ∨ 8 < size) :
    Calls Try.prog 100 #[.int .u64 n, .int .i64 size] w fun e w' => e = .returned (.slice none 0 0) ∧ w = w' := by
  rcases hs with hs | hs
  · go_enter Try.func100, Try.ntmps100
    go_wp2
    go_ret
    exact ⟨rfl, rfl⟩
  · have hs' : ¬ size < 1 := by omega
    go_enter Try.func100, Try.ntmps100
    go_wp2
    go_ret
    exact ⟨rfl, rfl⟩

theorem rput_any (n size : Int) (w : World) (h0 : 0 ≤ n) (h1 : n < 18446744073709551616) :
    Calls Try.prog 100 #[.int .u64 n, .int .i64 size] w (RetRow 5 (bv (putI n size)) w) := by
  by_cases h : 1 ≤ size ∧ size ≤ 8
  · rw [putI, if_pos h]
    exact rput_in n size w h0 h1 h.1 h.2
  · rw [putI, if_neg h]
    refine (rput_out n size w (by omega)).mono ?_
    rintro e w' ⟨rfl, rfl⟩
    exact RetRow.mk rfl (World.ownsRow_nil _ _ _ _) (Below.refl _ _)

theorem putI_nat (N K : Nat) (h1 : 1 ≤ K) (h8 : K ≤ 8) : putI (N : Int) (K : Int) = putL N K := by
  rw [putI, if_pos (by omega)]; rfl
theorem wput_as {n size : Int} {N K : Nat} (w : World) (hn : n = (N : Int)) (hs : size = (K : Int)) (HN : U64 N) (h1 : 1 ≤ K) (h8 : K ≤ 8) :
    Calls Try.prog 99 #[.int .u64 n, .int .i64 size] w (RetRow 5 (bv (putL N K)) w) := by
  rw [hn, hs, ← putI_nat N K h1 h8]
  exact wput_any _ _ w (by omega) HN.int

end Go.Proofs.Ytnplhagfmfggcaa
/-
  The contracts of the two Get: the number that stands in 1 to 8 bytes.
-/
namespace Go.Proofs.Ytnplhagfmfggcaa
open Go.RowKit

/-- The number that stands in l. -/
def getL (l : List UInt8) : Nat := l.foldl (fun n c => n * 256 + c.toNat) 0

theorem getL_nil : getL [] = 0 := rfl
theorem getL_snoc (l : List UInt8) (c : UInt8) : getL (l ++ [c]) = getL l * 256 + c.toNat := by simp [getL, List.foldl_append]
theorem getL_step {l : List UInt8} {k : Nat} (h : k < l.length) : getL (l.take (k + 1)) = getL (l.take k) * 256 + l[k].toNat := by
  rw [List.take_succ_eq_append_getElem h, getL_snoc]
theorem getL_take {l : List UInt8} : ∀ k, k ≤ l.length → getL (l.take k) < 256 ^ k
  | 0, _ => by simp [getL]
  | k + 1, h => by
    have h1 := getL_take k (Nat.le_of_succ_le h)
    have hb : l[k].toNat < 256 := UInt8.toNat_lt _
    rw [getL_step h, Nat.pow_succ]
    omega
theorem getL_lt (l : List UInt8) : getL l < 256 ^ l.length := by
  have h := getL_take l.length (Nat.le_refl _)
  rwa [List.take_of_length_le (Nat.le_refl _)] at h
theorem getL_small {l : List UInt8} {k : Nat} (h : k < l.length) (h8 : l.length ≤ 8) : getL (l.take k) * 256 + 255 < 18446744073709551616 := by
  have h1 := getL_take k (Nat.le_of_lt h)
  have h2 : 256 ^ k ≤ 256 ^ 7 := Nat.pow_le_pow_right (by omega) (by omega)
  have h3 : 256 ^ 7 = 72057594037927936 := by decide
  omega
theorem or_byte (Z b : Nat) (hb : b < 256) : Z * 256 ||| b = Z * 256 + b := by
  have e : Z * 256 = Z <<< 8 := by rw [Nat.shiftLeft_eq]
  rw [e, ← Nat.shiftLeft_add_eq_or_of_lt hb]
theorem get_or {l : List UInt8} {k Z : Nat} (hZ : Z = getL (l.take k)) (h : k < l.length) (h8 : l.length ≤ 8) :
    bits BinOp.or IntKind.u64 (IntKind.u64.wrap ((Z : Int) * 256)) (IntKind.u64.wrap (l[k].toNat : Int)) = ((Z * 256 + l[k].toNat : Nat) : Int) := by
  have hs := getL_small h h8
  have hb : l[k].toNat < 256 := UInt8.toNat_lt _
  rw [← hZ] at hs
  have e1 : IntKind.u64.wrap ((Z : Int) * 256) = ((Z * 256 : Nat) : Int) := (IntWalk.u64_in ((Z : Int) * 256) (by omega)).trans (Int.natCast_mul Z 256).symm
  have e2 : IntKind.u64.wrap (l[k].toNat : Int) = (l[k].toNat : Int) := IntWalk.u64_in (l[k].toNat : Int) (by clear e1; omega)
  rw [e1, e2]
  clear e1 e2
  have g1 : Z * 256 < 18446744073709551616 := Nat.lt_of_le_of_lt (Nat.le_add_right _ _) hs
  have g2 : l[k].toNat < 18446744073709551616 := Nat.lt_trans hb (by decide)
  have e3 := u64_or_nat (Z * 256) l[k].toNat g1 g2
  clear g1 g2
  rw [e3, or_byte Z _ hb]
theorem get_add {l : List UInt8} {k Z : Nat} (hZ : Z = getL (l.take k)) (h : k < l.length) (h8 : l.length ≤ 8) :
    IntKind.u64.wrap (IntKind.u64.wrap ((Z : Int) * 256) + IntKind.u64.wrap (l[k].toNat : Int)) = ((Z * 256 + l[k].toNat : Nat) : Int) := by
  have hs := getL_small h h8
  have hb : l[k].toNat < 256 := UInt8.toNat_lt _
  rw [← hZ] at hs
  rw [IntWalk.u64_in ((Z : Int) * 256) (by omega), IntWalk.u64_in (l[k].toNat : Int) (by omega), IntWalk.u64_in _ (by omega)]
  omega
theorem get_all (l : List UInt8) : getL (l.take l.length) = getL l := by rw [List.take_of_length_le (Nat.le_refl _)]
theorem ret_get {z z' : Int} {b : Bool} (h : z = z') : Ending.returned (.tuple #[.int .u64 z, .bool b]) = .returned (.tuple #[.int .u64 z', .bool b]) := by rw [h]

set_option maxRecDepth 100000 in
set_option maxHeartbeats 400000 in
theorem wget_in {B : Nat} (A : Option Addr) (n c : Nat) (l : List UInt8) (w : World) (hn : l.length = n) (ha : Rd B w A (bv l)) (h1 : 1 ≤ n) (h8 : n ≤ 8) :
    Calls Try.prog 101 #[.slice A n c] w fun e w' => e = .returned (.tuple #[.int .u64 (getL l : Int), .bool true]) ∧ w = w' := by
  subst hn
  go_enter Try.func101, Try.ntmps101
  go_wp2
  go_loop [4, 6, 17] (fun m u i => ∃ k Z : Nat, k ≤ l.length ∧ i = .int .i64 k ∧ m = .int .u64 (Z : Int) ∧ Hid (Z = getL (l.take k))) (fun _ _ i => l.length - (intOf i).toNat)
  case atStart => exact ⟨0, 0, Nat.zero_le _, rfl, rfl, rfl⟩
  case round =>
    obtain ⟨k, Z, hk, rfl, rfl, HZ⟩ := hrel
    by_cases hlt : k < l.length
    · obtain ⟨ad, rfl, _, hc⟩ := ha.at_ hlt
      go_wp2
      go_round
      case rel => exact ⟨k + 1, Z * 256 + l[k].toNat, by omega, by go_num, int_eq (get_or HZ.out hlt h8), by show _ = _; rw [getL_step hlt, HZ.out]⟩
      case measure => simp [intOf]; omega
    · obtain rfl : k = l.length := by omega
      go_wp2
      go_ret2
      exact ⟨ret_get (by rw [HZ.out, get_all]), rfl⟩

set_option maxRecDepth 100000 in
set_option maxHeartbeats 400000 in
theorem wget_out (A : Option Addr) (n c : Nat) (w : World) (h : n < 1 ∨ 8 < n) (hm : n ≤ maxLen) :
    Calls Try.prog 101 #[.slice A n c] w fun e w' => e = .returned (.tuple #[.int .u64 0, .bool false]) ∧ w = w' := by
  unfold maxLen at hm
  rcases h with h | h
  · go_enter Try.func101, Try.ntmps101
    go_wp2
    go_ret2
    exact ⟨rfl, rfl⟩
  · have h' : ¬ n < 1 := by omega
    go_enter Try.func101, Try.ntmps101
    go_wp2
    go_ret2
    exact ⟨rfl, rfl⟩

set_option maxRecDepth 100000 in
set_option maxHeartbeats 400000 in
theorem rget_in {B : Nat} (A : Option Addr) (n c : Nat) (l : List UInt8) (w : World) (hn : l.length = n) (ha : Rd B w A (bv l)) (h1 : 1 ≤ n) (h8 : n ≤ 8) :
    Calls Try.prog 102 #[.slice A n c] w fun e w' => e = .returned (.tuple #[.int .u64 (getL l : Int), .bool true]) ∧ w = w' := by
  subst hn
  go_enter Try.func102, Try.ntmps102
  go_wp2
  go_loop [4, 5] (fun m i => ∃ k Z : Nat, k ≤ l.length ∧ i = .int .i64 k ∧ m = .int .u64 (Z : Int) ∧ Hid (Z = getL (l.take k))) (fun _ i => l.length - (intOf i).toNat)
  case atStart => exact ⟨0, 0, Nat.zero_le _, rfl, rfl, rfl⟩
  case round =>
    obtain ⟨k, Z, hk, rfl, rfl, HZ⟩ := hrel
    by_cases hlt : k < l.length
    · obtain ⟨ad, rfl, _, hc⟩ := ha.at_ hlt
      go_wp2
      go_round
      case rel => exact ⟨k + 1, Z * 256 + l[k].toNat, by omega, by go_num, int_eq (get_add HZ.out hlt h8), by show _ = _; rw [getL_step hlt, HZ.out]⟩
      case measure => simp [intOf]; omega
    · obtain rfl : k = l.length := by omega
      go_wp2
      go_ret2
      exact ⟨ret_get (by rw [HZ.out, get_all]), rfl⟩

set_option maxRecDepth 100000 in
set_option maxHeartbeats 400000 in
theorem rget_out (A : Option Addr) (n c : Nat) (w : World) (h : n < 1 ∨ 8 < n) (hm : n ≤ maxLen) :
    Calls Try.prog 102 #[.slice A n c] w fun e w' => e = .returned (.tuple #[.int .u64 0, .bool false]) ∧ w = w' := by
  unfold maxLen at hm
  rcases h with h | h
  · go_enter Try.func102, Try.ntmps102
    go_wp2
    go_ret2
    exact ⟨rfl, rfl⟩
  · have h' : ¬ n < 1 := by omega
    go_enter Try.func102, Try.ntmps102
    go_wp2
    go_ret2
    exact ⟨rfl, rfl⟩

/-- What Get tells of l: a number and whether there is one. -/
def getN (l : List UInt8) : Nat := if 1 ≤ l.length ∧ l.length ≤ 8 then getL l else 0
def getOk (l : List UInt8) : Bool := decide (1 ≤ l.length ∧ l.length ≤ 8)

theorem wget_any {B : Nat} (A : Option Addr) (n c : Nat) (l : List UInt8) (w : World) (hn : l.length = n) (ha : Rd B w A (bv l)) (hm : n ≤ maxLen) :
    Calls Try.prog 101 #[.slice A n c] w fun e w' => e = .returned (.tuple #[.int .u64 (getN l : Int), .bool (getOk l)]) ∧ w = w' := by
  by_cases h : 1 ≤ l.length ∧ l.length ≤ 8
  · rw [getN, if_pos h, show getOk l = true from decide_eq_true h]
    exact wget_in A n c l w hn ha (by omega) (by omega)
  · rw [getN, if_neg h, show getOk l = false from decide_eq_false h]
    exact wget_out A n c w (by omega) hm
theorem rget_any {B : Nat} (A : Option Addr) (n c : Nat) (l : List UInt8) (w : World) (hn : l.length = n) (ha : Rd B w A (bv l)) (hm : n ≤ maxLen) :
    Calls Try.prog 102 #[.slice A n c] w fun e w' => e = .returned (.tuple #[.int .u64 (getN l : Int), .bool (getOk l)]) ∧ w = w' := by
  by_cases h : 1 ≤ l.length ∧ l.length ≤ 8
  · rw [getN, if_pos h, show getOk l = true from decide_eq_true h]
    exact rget_in A n c l w hn ha (by omega) (by omega)
  · rw [getN, if_neg h, show getOk l = false from decide_eq_false h]
    exact rget_out A n c w (by omega) hm
end Go.Proofs.Ytnplhagfmfggcaa
/-
  The document's answer for supers: what it tells.
-/
namespace Go.Proofs.Ytnplhagfmfggcaa.Su
open Go.RowKit Kd
attribute [local go_sem ↓] Go.wp_at_zero Go.wp_at_succ
theorem results_tmp4U {fn : Func} {t u v x : Tmp} (h : fn.results = #[.tmp t, .tmp u, .tmp v, .tmp x]) (tmps : Array Value) (P : Program) (w : World) :
    (results fn tmps).run P w = .ok (.tuple #[tmps.getD t undef, tmps.getD u undef, tmps.getD v undef, tmps.getD x undef]) w := by
  simp [results, h]
theorem putL_wi (n s : Nat) : putL n s = Wi.putL n s := rfl
theorem getL_wi (l : List UInt8) : getL l = Wi.getL l := rfl
set_option maxRecDepth 100000 in
theorem may_any (s : Sp) (w : World) : Calls Try.prog 46 #[.int .u64 (s.v : Int), .int .i64 s.n, .int .u64 (s.t : Int)] w (RetB (.bool (okP s)) w) := by
  obtain ⟨b, hb⟩ : ∃ b, b = okP s := ⟨_, rfl⟩
  rw [← hb]
  go_enter Try.func46, Try.ntmps46
  go_wp2_with fail
  all_goals
    go_ret
    refine ⟨congrArg (fun x => Ending.returned (.bool x)) ?_, Below.refl _ _⟩
  · rw [hb, okP]
    refine decide_eq_decide.2 ?_
    omega
  · rw [okP, decide_eq_false (by omega)]
  · rw [okP, decide_eq_false (by omega)]
set_option maxRecDepth 100000 in
set_option maxHeartbeats 1600000 in
theorem vdec_any {B : Nat} (A : Option Addr) (n c : Nat) (l : List UInt8) (w : World) (hl : l.length = n) (hB : B ≤ w.heap.size) (hr : Rd B w A (bv l)) (hc : n ≤ c) :
    Calls Try.prog 49 #[.slice A n c] w (fun e w' => e = .returned (.tuple #[.int .u64 ((decP l).v : Int), .int .i64 (decP l).n, .int .u64 ((decP l).t : Int), .bool (isP l)]) ∧ w = w') := by
  have HR := Lib.hid (hr.more hB)
  have HL := Lib.hid hl
  by_cases h14 : n = 14
  · subst h14
    go_enter Try.func49, Try.ntmps49
    go_wp2_with fail
    have r0 := HR.out.take 8
    obtain ⟨a, rfl, _⟩ := HR.out.at_ (k := 0) (by omega)
    have e8 : a.add 8 = ⟨a.block, a.off + 8, none⟩ := by simp [Addr.add]
    have e12 : a.add 12 = ⟨a.block, a.off + 12, none⟩ := by simp [Addr.add]
    have R0 := Lib.hid r0
    have R8 := Lib.hid (show Rd w.heap.size _ (some ⟨a.block, a.off + 8, none⟩) (bv ((l.drop 8).take 4)) from e8 ▸ ((HR.out.drop 8).take 4))
    have R12 := Lib.hid (show Rd w.heap.size _ (some ⟨a.block, a.off + 12, none⟩) (bv (l.drop 12)) from e12 ▸ (HR.out.drop 12))
    clear r0 e8 e12
    refine (rget_in (B := w.heap.size) _ 8 c _ _ (by rw [List.length_take, HL.out]; rfl) R0.out (by omega) (by omega)).mono ?_
    rintro e w2 ⟨rfl, rfl⟩
    go_wp2_with fail
    refine (rget_in (B := w.heap.size) _ 4 _ _ _ (by rw [List.length_take, List.length_drop, HL.out]; rfl) R8.out (by omega) (by omega)).mono ?_
    rintro e w2 ⟨rfl, rfl⟩
    go_wp2_with fail
    refine (rget_in (B := w.heap.size) _ 2 _ _ _ (by rw [List.length_drop, HL.out]) R12.out (by omega) (by omega)).mono ?_
    rintro e w2 ⟨rfl, rfl⟩
    have hn := rdP_n l
    have ht := rdP_t HL.out
    have wn : IntKind.i64.wrap (getL ((l.drop 8).take 4) : Int) = (getL ((l.drop 8).take 4) : Int) := IntWalk.i64_in _ (by have := hn.2; have e : (rdP l).n = (getL ((l.drop 8).take 4) : Int) := rfl; omega)
    obtain ⟨V, hV⟩ : ∃ V, V = getL (l.take 8) := ⟨_, rfl⟩
    obtain ⟨M, hM⟩ : ∃ M, M = getL ((l.drop 8).take 4) := ⟨_, rfl⟩
    obtain ⟨T, hT⟩ : ∃ T, T = getL (l.drop 12) := ⟨_, rfl⟩
    rw [← hV, ← hM, ← hT]
    rw [← hM] at wn
    have HRD := Lib.hid (show rdP l = ⟨V, (M : Int), T⟩ by rw [rdP, hV, hM, hT, getL_wi, getL_wi, getL_wi])
    rw [HRD.out] at ht
    have HIS := Lib.hid (show isP l = okP ⟨V, (M : Int), T⟩ by rw [isP, HL.out, HRD.out]; rfl)
    have HTT := Lib.hid (show T < 65536 from ht)
    clear hV hM hT R0 R8 R12 hn ht
    by_cases hgt : (1073741824 : Int) < (M : Int)
    · have hi : isP l = false := by rw [HIS.out, okP, decide_eq_false]; rintro ⟨_, h2, _⟩; exact absurd h2 (by show ¬ (M : Int) ≤ _; omega)
      have HI := Lib.hid (And.intro hi (dec_not hi))
      clear hi
      go_wp2_with fail
      rw [HI.out.1, HI.out.2]
      exact bodyPost_ret (results_tmp4U Try.results49 _ _ _) rfl ⟨rfl, rfl⟩
    · have hi : isP l = true := by rw [HIS.out, okP]; exact decide_eq_true ⟨Int.natCast_nonneg _, by show (M : Int) ≤ _; omega, by have := HTT.out; show T ≤ _; omega⟩
      have hd : decP l = ⟨V, (M : Int), T⟩ := by rw [decP, hi, if_pos rfl, HRD.out]
      have HI := Lib.hid (And.intro hi hd)
      clear hi hd
      go_wp2_with fail
      rw [HI.out.1, HI.out.2]
      exact bodyPost_ret (results_tmp4U Try.results49 _ _ _) rfl ⟨rfl, rfl⟩
  · have hd : ¬ (n : Int) = 14 := by omega
    go_enter Try.func49, Try.ntmps49
    go_wp2_with fail
    have hi : isP l = false := is_len (by rw [HL.out]; exact h14)
    rw [hi, dec_not hi]
    exact bodyPost_ret (results_tmp4U Try.results49 _ _ _) rfl ⟨rfl, rfl⟩
end Go.Proofs.Ytnplhagfmfggcaa.Su
/-
  A walk through a mirror, as it lies; the contract of a report's count; New, Report.
-/
namespace Go.Proofs.Ytnplhagfmfggcaa.Sc
open Go.RowKit Kd Mi
attribute [local go_sem ↓] Go.wp_at_zero Go.wp_at_succ
/-- A walk: its next place, and what the ones behind it counted as. -/
structure Wk where
  n : Nat
  r : Nat
  h : Nat
  l : Nat
def Wk.cells (x : Wk) (P : Option Addr) : Array Value := #[.pointer P, .int .i64 x.n, .int .i64 x.r, .int .i64 x.h, .int .i64 x.l]
def Wk.rep (x : Wk) : Array Value := #[.int .i64 x.r, .int .i64 x.h, .int .i64 x.l]
def Wk.add (x : Wk) (k : Int) : Wk := if k = 0 then { x with r := x.r + 1 } else if k = 1 then { x with h := x.h + 1 } else { x with l := x.l + 1 }
def Wk.zero : Wk := ⟨0, 0, 0, 0⟩
theorem but_cell {w : World} {q o : Nat} (v : Value) : But (fun y => y = q) w (w.setCell ⟨q, o, none⟩ v) := but_one v
theorem walk_set {w : World} {q : Nat} {cs cs' : Array Value} {t : TypeId} (h : Blk w q cs t) (j : Nat) (v : Value) (e : cs.setIfInBounds j v = cs') : Blk (w.setCell ⟨q, j, none⟩ v) q cs' t := by
  rw [← e]; exact heap_setCell_same _ _ _ _ _ _ h
theorem wk_info : (Try.prog.info? 57).map (·.size) = some 3 := by kernel_rfl
theorem pthree_info : (Try.prog.info? 218).map (·.size) = some 3 := by kernel_rfl
set_option maxRecDepth 100000 in
set_option maxHeartbeats 3200000 in
theorem scount_any {w : World} {q : Nat} {P : Option Addr} {x : Wk} (hb : Blk w q (x.cells P) 197) (hx : x.r < 1000000 ∧ x.h < 1000000 ∧ x.l < 1000000) (k : Int) (hk : k = 0 ∨ k = 1 ∨ k = 2) :
    Calls Try.prog 117 #[.pointer (some ⟨q, 2, none⟩), .int .i64 k] w (fun e w' => e = .returned (.tuple #[]) ∧ Blk w' q ((x.add k).cells P) 197 ∧ But (fun y => y = q) w w') := by
  obtain ⟨h1, h2, h3⟩ := hx
  have w1 : IntKind.i64.wrap ((x.r : Int) + 1) = ((x.r + 1 : Nat) : Int) := IntWalk.i64_in _ (by omega)
  have w2 : IntKind.i64.wrap ((x.h : Int) + 1) = ((x.h + 1 : Nat) : Int) := IntWalk.i64_in _ (by omega)
  have w3 : IntKind.i64.wrap ((x.l : Int) + 1) = ((x.l + 1 : Nat) : Int) := IntWalk.i64_in _ (by omega)
  go_enter Try.func117, Try.ntmps117
  go_upto_region 0 with fail
  refine wp_region_held_drew (S := fun _ => True) (by kernel_rfl) trivial (fun hh => ?_)
  have HH := Lib.hid hh
  clear hh
  refine wpAnyH_take (i := 0) (v := ?vA0) rfl (by kernel_rfl) (by kernel_rfl) (by kernel_rfl) (fun _ _ _ h => h) (Or.inl ⟨by rfl, fun w' _ => ?yA0⟩) HH.out ?_
  case yA0 => (go_simp; try with_reducible rfl)
  refine wpAnyH_take (i := 1) (v := ?vA1) rfl (by kernel_rfl) (by kernel_rfl) (by kernel_rfl) (fun _ _ _ h => h) (Or.inl ⟨by rfl, fun w' _ => ?yA1⟩) HH.out ?_
  case yA1 => (go_simp; try with_reducible rfl)
  try simp only [List.getElem_toArray, List.getElem_cons_succ, List.getElem_cons_zero, Act.put, List.setIfInBounds_toArray, List.set_cons_zero, List.set_cons_succ]
  refine wpAnyH_take (i := 2) (v := ?vA2) rfl (by kernel_rfl) (by kernel_rfl) (by kernel_rfl) (fun _ _ _ h => h) (Or.inl ⟨by rfl, fun w' _ => ?yA2⟩) HH.out ?_
  case yA2 => (go_simp; try with_reducible rfl)
  refine wpAnyH_take (i := 3) (v := ?vA3) rfl (by kernel_rfl) (by kernel_rfl) (by kernel_rfl) (fun _ _ _ h => h) (Or.inl ⟨by rfl, fun w' _ => ?yA3⟩) HH.out ?_
  case yA3 => (go_simp; try with_reducible rfl)
  refine wpAnyH_take (i := 4) (v := ?vA4) rfl (by kernel_rfl) (by kernel_rfl) (by kernel_rfl) (fun _ _ _ h => h) (Or.inl ⟨by rfl, fun w' _ => ?yA4⟩) HH.out ?_
  case yA4 => (go_simp; try with_reducible rfl)
  try simp only [List.getElem_toArray, List.getElem_cons_succ, List.getElem_cons_zero, Act.put, List.setIfInBounds_toArray, List.set_cons_zero, List.set_cons_succ]
  refine wpAnyH_take (i := 5) (v := ?vA5) rfl (by kernel_rfl) (by kernel_rfl) (by kernel_rfl) (fun _ _ _ h => h) (Or.inl ⟨by rfl, fun w' _ => ?yA5⟩) HH.out ?_
  case yA5 => (go_simp; try with_reducible rfl)
  refine wpAnyH_take (i := 6) (v := ?vA6) rfl (by kernel_rfl) (by kernel_rfl) (by kernel_rfl) (fun _ _ _ h => h) (Or.inl ⟨by rfl, fun w' _ => ?yA6⟩) HH.out ?_
  case yA6 => (go_simp; try with_reducible rfl)
  refine wpAnyH_take (i := 7) (v := ?vA7) rfl (by kernel_rfl) (by kernel_rfl) (by kernel_rfl) (fun _ _ _ h => h) (Or.inl ⟨by rfl, fun w' _ => ?yA7⟩) HH.out ?_
  case yA7 => (go_simp; try with_reducible rfl)
  try simp only [List.getElem_toArray, List.getElem_cons_succ, List.getElem_cons_zero, Act.put, List.setIfInBounds_toArray, List.set_cons_zero, List.set_cons_succ]
  refine wpAnyH_take (i := 8) (v := ?vA8) rfl (by kernel_rfl) (by kernel_rfl) (by kernel_rfl) (fun _ _ _ h => h) (Or.inl ⟨by rfl, fun w' _ => ?yA8⟩) HH.out ?_
  case yA8 => (go_simp; try with_reducible rfl)
  refine wpAnyH_take (i := 9) (v := .agg #[.pointer (some ⟨q, 2, none⟩), .pointer (some ⟨q, 3, none⟩), .pointer (some ⟨q, 4, none⟩)]) rfl (by kernel_rfl) (by kernel_rfl) (by kernel_rfl) (fun _ _ _ h => h) (Or.inl ⟨by rfl, fun w' hw' => ?yA9⟩) HH.out ?_
  case yA9 => (go_simp; try with_reducible rfl)
  try simp only [List.getElem_toArray, List.getElem_cons_succ, List.getElem_cons_zero, Act.put, List.setIfInBounds_toArray, List.set_cons_zero, List.set_cons_succ]
  refine wpAnyH_ready (rs := [10]) (by kernel_rfl) (by simp) (AllReadyH.cons rfl (fun K hK => ?_) AllReadyH.nil)
  go_simp
  refine hK.out _ _ trivial (fun hh => ?_)
  have HH' := Lib.hid hh
  clear hh hK K HH
  have HH := Lib.hid HH'.out
  clear HH'
  try simp only [List.getElem_toArray, List.getElem_cons_succ, List.getElem_cons_zero, Act.put, List.setIfInBounds_toArray, List.set_cons_zero, List.set_cons_succ]
  refine wpAnyH_ready (rs := [11]) (by kernel_rfl) (by simp) (AllReadyH.cons rfl (fun K hK => ?_) AllReadyH.nil)
  rw [if_pos (by rfl)]
  refine wp_store_row 218 (.tmp 4) (.tmp 14) rfl w.heap.size #[.pointer (some ⟨q, 2, none⟩), .pointer (some ⟨q, 3, none⟩), .pointer (some ⟨q, 4, none⟩)] rfl rfl 218 #[.pointer none, .pointer none, .pointer none] (heap_alloc_new _ _) pthree_info rfl (by simp [Value.oneCell']) ?_
  refine hK.out _ _ trivial (fun hh => ?_)
  have HH' := Lib.hid hh
  clear hh hK K HH
  have HH := Lib.hid HH'.out
  clear HH'
  refine wpAnyH_done (by kernel_rfl) ?_ _
  obtain ⟨wb, hwb⟩ : ∃ wb, wb = ((w.alloc (.cells #[.pointer none, .pointer none, .pointer none] 218)).drew).setRow w.heap.size #[.pointer (some ⟨q, 2, none⟩), .pointer (some ⟨q, 3, none⟩), .pointer (some ⟨q, 4, none⟩)] := ⟨_, rfl⟩
  have BB := Lib.hid (show Below w.heap.size w wb by rw [hwb]; exact below_setRow (((Below.refl _ w).alloc (Nat.le_refl _) _).drew) (Nat.le_refl _) _)
  have hbx : Blk wb w.heap.size #[.pointer (some ⟨q, 2, none⟩), .pointer (some ⟨q, 3, none⟩), .pointer (some ⟨q, 4, none⟩)] 218 := by rw [hwb]; exact setRow_heap _ _ _ _ _ _ (heap_alloc_new _ _)
  have hbw := hb.below BB.out
  have hq : w.heap.size ≠ q := by have := hb.lt; omega
  have d0 : wb.cell? ⟨w.heap.size, 0, none⟩ = some (.pointer (some ⟨q, 2, none⟩)) := hbx.cell 0
  have d1 : wb.cell? ⟨w.heap.size, 1, none⟩ = some (.pointer (some ⟨q, 3, none⟩)) := hbx.cell 1
  have d2 : wb.cell? ⟨w.heap.size, 2, none⟩ = some (.pointer (some ⟨q, 4, none⟩)) := hbx.cell 2
  have c2 : wb.cell? ⟨q, 2, none⟩ = some (.int .i64 x.r) := hbw.cell 2
  have c3 : wb.cell? ⟨q, 3, none⟩ = some (.int .i64 x.h) := hbw.cell 3
  have c4 : wb.cell? ⟨q, 4, none⟩ = some (.int .i64 x.l) := hbw.cell 4
  have f2 := hbw.free 2
  have f3 := hbw.free 3
  have f4 := hbw.free 4
  have HBW := Lib.hid hbw
  rw [← hwb]
  obtain ⟨bx, hbq⟩ : ∃ bx, bx = w.heap.size := ⟨_, rfl⟩
  try rw [← hbq] at d0 d1 d2 hbx hq
  rw [← hbq]
  clear hwb hbx hbw hb hbq
  rcases hk with rfl | rfl | rfl
  · go_wp2_with fail
    exact bodyPost_end (results_none Try.results117 _ _ _) rfl ⟨rfl, walk_set HBW.out 2 _ (by simp [Wk.cells, Wk.add]), (but_below BB.out).trans (but_one _)⟩
  · go_wp2_with fail
    exact bodyPost_end (results_none Try.results117 _ _ _) rfl ⟨rfl, walk_set HBW.out 3 _ (by simp [Wk.cells, Wk.add]), (but_below BB.out).trans (but_one _)⟩
  · go_wp2_with fail
    exact bodyPost_end (results_none Try.results117 _ _ _) rfl ⟨rfl, walk_set HBW.out 4 _ (by simp [Wk.cells, Wk.add]), (but_below BB.out).trans (but_one _)⟩
end Go.Proofs.Ytnplhagfmfggcaa.Sc
/-
  The contracts of a walk's New, Report, Step.
-/
namespace Go.Proofs.Ytnplhagfmfggcaa.Sc
open Go.RowKit Kd Mi
attribute [local go_sem ↓] Go.wp_at_zero Go.wp_at_succ
/-- A walk beside what it goes through. -/
def WL (L : Laid) (P : Option Addr) (q : Nat) : Laid where
  St := L.St × Wk
  At w s F := ∃ F1, L.At w s.1 F1 ∧ Blk w q (s.2.cells P) 197 ∧ ¬ F1 q ∧ (∀ y, F1 y → F y) ∧ F q ∧ ∀ y, F y → y < w.heap.size
  but := fun ⟨F1, h1, h2, h3, h4, h5, h6⟩ hb hd => ⟨F1, L.but h1 hb (fun y hy => hd y (h4 y hy)), h2.but hb (hd q h5), h3, h4, h5, fun y hy => Nat.lt_of_lt_of_le (h6 y hy) hb.size⟩
  lt := fun ⟨_, _, _, _, _, _, h6⟩ => h6
section
variable {L : Laid} {P : Option Addr} {q : Nat} {w w' : World} {s : L.St × Wk} {F : Nat → Prop}
theorem wl_in (h : (WL L P q).At w s F) : ∃ F1, L.At w s.1 F1 ∧ Blk w q (s.2.cells P) 197 ∧ ∀ {s2 : L.St} {w' F2}, Mv L w F1 w' s2 F2 → Mv (WL L P q) w F w' (s2, s.2) (fun y => F y ∨ F2 y) := by
  obtain ⟨F1, h1, h2, h3, h4, h5, h6⟩ := h
  refine ⟨F1, h1, h2, fun {s2 w' F2} hm => ⟨⟨F2, hm.at_, h2.but hm.but h3, fun hq => ?_, fun y hy => .inr hy, .inl h5, ?_⟩, ?_, hm.but.mono h4⟩⟩
  · rcases hm.new q hq with h7 | h7
    · exact h3 h7
    · have := h2.lt; omega
  · rintro y (hy | hy)
    · exact Nat.lt_of_lt_of_le (h6 y hy) hm.but.size
    · exact hm.lt y hy
  · rintro y (hy | hy)
    · exact .inl hy
    · exact (hm.new y hy).imp (h4 y) id
theorem wl_blk (h : (WL L P q).At w s F) : Blk w q (s.2.cells P) 197 := by obtain ⟨_, _, h2, _⟩ := h; exact h2
theorem wl_own (h : (WL L P q).At w s F) (hb : But (fun y => y = q) w w') {x : Wk} (hx : Blk w' q (x.cells P) 197) : Mv (WL L P q) w F w' (s.1, x) F := by
  obtain ⟨F1, h1, h2, h3, h4, h5, h6⟩ := h
  exact ⟨⟨F1, L.but h1 hb (fun y hy e => h3 (e ▸ hy)), hx, h3, h4, h5, fun y hy => Nat.lt_of_lt_of_le (h6 y hy) hb.size⟩, fun _ hy => .inl hy, hb.mono (fun y hy => hy ▸ h5)⟩
theorem wl_start (h : L.At w s.1 F) (hb : Below w.heap.size w w') (hx : Blk w' q (s.2.cells P) 197) (hq : w.heap.size ≤ q) : (WL L P q).At w' s (fun y => F y ∨ y = q) :=
  ⟨F, L.below h hb, hx, fun hf => (by have := L.lt h q hf; omega), fun y hy => .inl hy, .inr rfl, fun y hy => by
    rcases hy with hy | rfl
    · exact Nat.lt_of_lt_of_le (L.lt h y hy) hb.size
    · exact hx.lt⟩
end
/-! ### New -/
set_option maxRecDepth 100000 in
set_option maxHeartbeats 3200000 in
theorem snew_any (w : World) (P : Option Addr) : Calls Try.prog 76 #[.pointer P] w (fun e w' => ∃ q, e = .returned (.pointer (some ⟨q, 0, none⟩)) ∧ w.heap.size ≤ q ∧ Blk w' q (Wk.zero.cells P) 197 ∧ Below w.heap.size w w') := by
  go_enter Try.func76, Try.ntmps76
  go_wp2_with (first
    | (refine wpList_build rfl 197 #[(0, .tmp 3)] rfl (v := .agg (Wk.zero.cells P)) ?hbld ?_; case hbld => kernel_rfl))
  go_ret
  exact ⟨_, rfl, Nat.le_refl _, heap_alloc_new _ _, (Below.refl _ _).alloc (Nat.le_refl _) _⟩
/-! ### Report -/
set_option maxRecDepth 100000 in
set_option maxHeartbeats 3200000 in
theorem sreport_nil (w : World) : Calls Try.prog 79 #[.pointer none] w (RetB (.agg (Wk.zero.rep)) w) := by
  go_enter Try.func79, Try.ntmps79
  go_wp2_with (first
    | (refine wpList_build rfl 57 #[] rfl (v := .agg (Wk.zero.rep)) ?hbld ?_; case hbld => kernel_rfl)
    | (refine wpList_store_row rfl 57 (.tmp 2) (.tmp 5) rfl w.heap.size Wk.zero.rep rfl rfl 57 #[.int .i64 0, .int .i64 0, .int .i64 0] (heap_alloc_new _ _) wk_info rfl (by simp [Wk.rep, Value.oneCell']) ?_))
  exact bodyPost_ret (v := .agg Wk.zero.rep) (results_cell_row Try.results79 _ _ w.heap.size 57 Wk.zero.rep (0, 0) _ rfl (setRow_heap _ _ _ _ _ _ (heap_alloc_new _ _)) Try.underlying57 rfl wk_info) rfl ⟨rfl, below_setRow ((Below.refl _ _).alloc (Nat.le_refl _) _) (Nat.le_refl _) _⟩
set_option maxRecDepth 100000 in
set_option maxHeartbeats 3200000 in
theorem sreport_any {w : World} {q : Nat} {P : Option Addr} {x : Wk} (hb : Blk w q (x.cells P) 197) : Calls Try.prog 79 #[.pointer (some ⟨q, 0, none⟩)] w (RetB (.agg x.rep) w) := by
  obtain ⟨w1, hw1⟩ : ∃ w1, w1 = w.alloc (.cells #[.int .i64 0, .int .i64 0, .int .i64 0] 57) := ⟨_, rfl⟩
  have B1 := Lib.hid (show Below w.heap.size w w1 by rw [hw1]; exact (Below.refl _ _).alloc (Nat.le_refl _) _)
  have R1 := Lib.hid (show Blk w1 w.heap.size #[.int .i64 0, .int .i64 0, .int .i64 0] 57 by rw [hw1]; exact heap_alloc_new _ _)
  have X1 := Lib.hid (hb.below B1.out)
  have hld : ∀ j v, x.rep.toList[j]? = some v → w1.cell? ((⟨q, 2, none⟩ : Addr).add j) = some v := fun j v hv => by
    have h0 : w1.cell? ⟨q, 2 + j, none⟩ = (x.cells P)[2 + j]? := X1.out.cell (2 + j)
    rw [show ((⟨q, 2, none⟩ : Addr).add j) = ⟨q, 2 + j, none⟩ by unfold Addr.add; split <;> simp_all, h0]
    rcases j with _ | _ | _ | j
    · exact hv
    · exact hv
    · exact hv
    · simp [Wk.rep] at hv
  have HLD := Lib.hid hld
  clear hld hb
  go_enter Try.func79, Try.ntmps79
  go_upto_region 1 with fail
  rw [← hw1]
  clear hw1
  go_wp2_with (first
    | (refine wpList_load_at rfl 57 (.tmp 8) rfl ⟨q, 2, none⟩ (cs := x.rep.toList) rfl HLD.out Try.underlying57 rfl wk_info ?_)
    | (refine wpList_store_row rfl 57 (.tmp 2) (.tmp 9) rfl w.heap.size x.rep rfl rfl 57 #[.int .i64 0, .int .i64 0, .int .i64 0] R1.out wk_info rfl (by simp [Wk.rep, Value.oneCell']) ?_))
  exact bodyPost_ret (v := .agg x.rep) (results_cell_row Try.results79 _ _ w.heap.size 57 x.rep (0, 0) _ rfl (setRow_heap _ _ _ _ _ _ R1.out) Try.underlying57 rfl wk_info) rfl ⟨rfl, below_setRow B1.out (Nat.le_refl _) _⟩
/-! ### Step -/
set_option maxRecDepth 100000 in
set_option maxHeartbeats 3200000 in
theorem sstep_nil (w : World) : Calls Try.prog 78 #[.pointer none] w (RetB (.tuple #[.int .i64 0, .bool false]) w) := by
  go_enter Try.func78, Try.ntmps78
  go_upto_region 1 with fail
  refine wp_region_held_drew (S := fun _ => True) (by kernel_rfl) trivial (fun hh => ?_)
  have HH := Lib.hid hh
  clear hh
  refine wpAnyH_take (i := 0) (v := ?vN0) rfl (by kernel_rfl) (by kernel_rfl) (by kernel_rfl) (fun _ _ _ h => h) (Or.inl ⟨by rfl, fun w' _ => ?yN0⟩) HH.out ?_
  case yN0 => (go_simp; try with_reducible rfl)
  refine wpAnyH_take (i := 1) (v := ?vN1) rfl (by kernel_rfl) (by kernel_rfl) (by kernel_rfl) (fun _ _ _ h => h) (Or.inl ⟨by rfl, fun w' _ => ?yN1⟩) HH.out ?_
  case yN1 => (go_simp; try with_reducible rfl)
  try simp only [List.getElem_toArray, List.getElem_cons_succ, List.getElem_cons_zero, Act.put, List.setIfInBounds_toArray, List.set_cons_zero, List.set_cons_succ]
  refine wpAnyH_take (i := 2) (v := ?vN2) rfl (by kernel_rfl) (by kernel_rfl) (by kernel_rfl) (fun _ _ _ h => h) (Or.inl ⟨by rfl, fun w' _ => ?yN2⟩) HH.out ?_
  case yN2 => (go_simp; try with_reducible rfl)
  refine wpAnyH_take (i := 3) (v := undef) rfl (by kernel_rfl) (by kernel_rfl) (by kernel_rfl) (fun _ _ _ h => h) (Or.inr ⟨by rfl, rfl⟩) HH.out ?_
  refine wpAnyH_take (i := 4) (v := undef) rfl (by kernel_rfl) (by kernel_rfl) (by kernel_rfl) (fun _ _ _ h => h) (Or.inr ⟨by rfl, rfl⟩) HH.out ?_
  try simp only [List.getElem_toArray, List.getElem_cons_succ, List.getElem_cons_zero, Act.put, List.setIfInBounds_toArray, List.set_cons_zero, List.set_cons_succ]
  refine wpAnyH_take (i := 5) (v := undef) rfl (by kernel_rfl) (by kernel_rfl) (by kernel_rfl) (fun _ _ _ h => h) (Or.inr ⟨by rfl, rfl⟩) HH.out ?_
  refine wpAnyH_take (i := 6) (v := undef) rfl (by kernel_rfl) (by kernel_rfl) (by kernel_rfl) (fun _ _ _ h => h) (Or.inr ⟨by rfl, rfl⟩) HH.out ?_
  refine wpAnyH_take (i := 7) (v := undef) rfl (by kernel_rfl) (by kernel_rfl) (by kernel_rfl) (fun _ _ _ h => h) (Or.inr ⟨by rfl, rfl⟩) HH.out ?_
  try simp only [List.getElem_toArray, List.getElem_cons_succ, List.getElem_cons_zero, Act.put, List.setIfInBounds_toArray, List.set_cons_zero, List.set_cons_succ]
  refine wpAnyH_take (i := 8) (v := undef) rfl (by kernel_rfl) (by kernel_rfl) (by kernel_rfl) (fun _ _ _ h => h) (Or.inr ⟨by rfl, rfl⟩) HH.out ?_
  refine wpAnyH_take (i := 9) (v := undef) rfl (by kernel_rfl) (by kernel_rfl) (by kernel_rfl) (fun _ _ _ h => h) (Or.inr ⟨by rfl, rfl⟩) HH.out ?_
  refine wpAnyH_take (i := 10) (v := undef) rfl (by kernel_rfl) (by kernel_rfl) (by kernel_rfl) (fun _ _ _ h => h) (Or.inr ⟨by rfl, rfl⟩) HH.out ?_
  try simp only [List.getElem_toArray, List.getElem_cons_succ, List.getElem_cons_zero, Act.put, List.setIfInBounds_toArray, List.set_cons_zero, List.set_cons_succ]
  refine wpAnyH_take (i := 11) (v := undef) rfl (by kernel_rfl) (by kernel_rfl) (by kernel_rfl) (fun _ _ _ h => h) (Or.inr ⟨by rfl, rfl⟩) HH.out ?_
  refine wpAnyH_take (i := 12) (v := undef) rfl (by kernel_rfl) (by kernel_rfl) (by kernel_rfl) (fun _ _ _ h => h) (Or.inr ⟨by rfl, rfl⟩) HH.out ?_
  refine wpAnyH_take (i := 13) (v := ?vN13) rfl (by kernel_rfl) (by kernel_rfl) (by kernel_rfl) (fun _ _ _ h => h) (Or.inl ⟨by rfl, fun w' _ => ?yN13⟩) HH.out ?_
  case yN13 => (go_simp; try with_reducible rfl)
  try simp only [List.getElem_toArray, List.getElem_cons_succ, List.getElem_cons_zero, Act.put, List.setIfInBounds_toArray, List.set_cons_zero, List.set_cons_succ]
  refine wpAnyH_done (by kernel_rfl) ?_ _
  go_wp2_with fail
  exact bodyPost_ret (results_tmp2 Try.results78 _ _ _) rfl ⟨rfl, (Below.refl _ _).drew⟩
/-- All places were scrubbed. -/
theorem wk_cell0 {w : World} {q : Nat} {P : Option Addr} {x : Wk} (h : Blk w q (x.cells P) 197) : w.cell? ⟨q, 0, none⟩ = some (.pointer P) := h.cell 0
theorem wk_cell1 {w : World} {q : Nat} {P : Option Addr} {x : Wk} (h : Blk w q (x.cells P) 197) : w.cell? ⟨q, 1, none⟩ = some (.int .i64 x.n) := h.cell 1
set_option maxRecDepth 100000 in
set_option maxHeartbeats 3200000 in
theorem sstep_end {w : World} {q n : Nat} {P : Option Addr} {x : Wk} (hb : Blk w q (x.cells P) 197) (hl : ∀ w', Below w.heap.size w w' → Calls Try.prog 77 #[.pointer P] w' (RetB (.int .i64 n) w')) (hn : n ≤ x.n) : Calls Try.prog 78 #[.pointer (some ⟨q, 0, none⟩)] w (RetB (.tuple #[.int .i64 0, .bool false]) w) := by
  have HL := Lib.hid hl
  have n1 : ((x.n : Int) ≥ (n : Int)) := by omega
  have HB := Lib.hid hb
  clear hl hn hb
  go_enter Try.func78, Try.ntmps78
  go_upto_region 1 with fail
  refine wp_region_held_drew (S := fun w' => Blk w' q (x.cells P) 197) (by kernel_rfl) (HB.out.drewN 1) (fun hh => ?_)
  have HH := Lib.hid hh
  clear hh
  refine wpAnyH_take (i := 0) (v := ?vE0) rfl (by kernel_rfl) (by kernel_rfl) (by kernel_rfl) (fun _ _ _ h => h) (Or.inl ⟨by rfl, fun w' _ => ?yE0⟩) HH.out ?_
  case yE0 => (go_simp; try with_reducible rfl)
  refine wpAnyH_take (i := 1) (v := ?vE1) rfl (by kernel_rfl) (by kernel_rfl) (by kernel_rfl) (fun _ _ _ h => h) (Or.inl ⟨by rfl, fun w' _ => ?yE1⟩) HH.out ?_
  case yE1 => (go_simp; try with_reducible rfl)
  try simp only [List.getElem_toArray, List.getElem_cons_succ, List.getElem_cons_zero, Act.put, List.setIfInBounds_toArray, List.set_cons_zero, List.set_cons_succ]
  refine wpAnyH_take (i := 2) (v := ?vE2) rfl (by kernel_rfl) (by kernel_rfl) (by kernel_rfl) (fun _ _ _ h => h) (Or.inl ⟨by rfl, fun w' _ => ?yE2⟩) HH.out ?_
  case yE2 => (go_simp; try with_reducible rfl)
  try simp only [List.getElem_toArray, List.getElem_cons_succ, List.getElem_cons_zero, Act.put, List.setIfInBounds_toArray, List.set_cons_zero, List.set_cons_succ]
  refine wpAnyH_take (i := 3) (v := ?vE3) rfl (by kernel_rfl) (by kernel_rfl) (by kernel_rfl) (fun _ _ _ h => h) (Or.inl ⟨by rfl, fun w' _ => ?yE3⟩) HH.out ?_
  case yE3 => (go_simp; try with_reducible rfl)
  try simp only [List.getElem_toArray, List.getElem_cons_succ, List.getElem_cons_zero, Act.put, List.setIfInBounds_toArray, List.set_cons_zero, List.set_cons_succ]
  refine wpAnyH_take (i := 4) (v := ?vE4) rfl (by kernel_rfl) (by kernel_rfl) (by kernel_rfl) (fun _ _ _ h => h) (Or.inl ⟨by rfl, fun w' _ => ?yE4⟩) HH.out ?_
  case yE4 => (go_simp; try with_reducible rfl)
  try simp only [List.getElem_toArray, List.getElem_cons_succ, List.getElem_cons_zero, Act.put, List.setIfInBounds_toArray, List.set_cons_zero, List.set_cons_succ]
  refine wpAnyH_take (i := 5) (v := ?vE5) rfl (by kernel_rfl) (by kernel_rfl) (by kernel_rfl) (fun _ _ _ h => h) (Or.inl ⟨by rfl, fun w' _ => ?yE5⟩) HH.out ?_
  case yE5 => (go_simp; try with_reducible rfl)
  refine wpAnyH_take (i := 6) (v := .int .i64 x.n) rfl (by kernel_rfl) (by kernel_rfl) (by kernel_rfl) (fun _ _ _ h => h) (Or.inl ⟨by rfl, fun w' hw' => ?yE6⟩) HH.out ?_
  case yE6 => (have hc := wk_cell1 hw'; go_simp; try with_reducible rfl)
  try simp only [List.getElem_toArray, List.getElem_cons_succ, List.getElem_cons_zero, Act.put, List.setIfInBounds_toArray, List.set_cons_zero, List.set_cons_succ]
  refine wpAnyH_take (i := 7) (v := ?vE7) rfl (by kernel_rfl) (by kernel_rfl) (by kernel_rfl) (fun _ _ _ h => h) (Or.inl ⟨by rfl, fun w' _ => ?yE7⟩) HH.out ?_
  case yE7 => (go_simp; try with_reducible rfl)
  try simp only [List.getElem_toArray, List.getElem_cons_succ, List.getElem_cons_zero, Act.put, List.setIfInBounds_toArray, List.set_cons_zero, List.set_cons_succ]
  refine wpAnyH_take (i := 8) (v := ?vE8) rfl (by kernel_rfl) (by kernel_rfl) (by kernel_rfl) (fun _ _ _ h => h) (Or.inl ⟨by rfl, fun w' _ => ?yE8⟩) HH.out ?_
  case yE8 => (go_simp; try with_reducible rfl)
  try simp only [List.getElem_toArray, List.getElem_cons_succ, List.getElem_cons_zero, Act.put, List.setIfInBounds_toArray, List.set_cons_zero, List.set_cons_succ]
  refine wpAnyH_take (i := 9) (v := ?vE9) rfl (by kernel_rfl) (by kernel_rfl) (by kernel_rfl) (fun _ _ _ h => h) (Or.inl ⟨by rfl, fun w' _ => ?yE9⟩) HH.out ?_
  case yE9 => (go_simp; try with_reducible rfl)
  refine wpAnyH_take (i := 10) (v := .pointer P) rfl (by kernel_rfl) (by kernel_rfl) (by kernel_rfl) (fun _ _ _ h => h) (Or.inl ⟨by rfl, fun w' hw' => ?yE10⟩) HH.out ?_
  case yE10 => (have hc := wk_cell0 hw'; go_simp; try with_reducible rfl)
  try simp only [List.getElem_toArray, List.getElem_cons_succ, List.getElem_cons_zero, Act.put, List.setIfInBounds_toArray, List.set_cons_zero, List.set_cons_succ]
  refine wpAnyH_ready (rs := [11]) (by kernel_rfl) (by simp) (AllReadyH.cons rfl (fun K hK => ?_) AllReadyH.nil)
  go_simp
  refine (HL.out _ (Below.refl _ _).drew).mono ?_
  rintro e w2 ⟨rfl, bw⟩
  have B2 := Lib.hid (show Below w.heap.size w w2 from (Below.refl w.heap.size w).drew.trans bw)
  go_simp
  refine hK.out _ _ (HB.out.below B2.out) (fun hh => ?_)
  have HH' := Lib.hid hh
  clear hh hK K HH bw
  have HH := Lib.hid HH'.out
  clear HH'
  refine wpAnyH_take (i := 12) (v := .bool true) rfl (by kernel_rfl) (by kernel_rfl) (by kernel_rfl) (fun _ _ _ h => h) (Or.inl ⟨by rfl, fun w' hw' => ?yE12⟩) HH.out ?_
  case yE12 => (go_simp; try rfl)
  refine wpAnyH_take (i := 13) (v := ?vE13) rfl (by kernel_rfl) (by kernel_rfl) (by kernel_rfl) (fun _ _ _ h => h) (Or.inl ⟨by rfl, fun w' _ => ?yE13⟩) HH.out ?_
  case yE13 => (go_simp; try with_reducible rfl)
  try simp only [List.getElem_toArray, List.getElem_cons_succ, List.getElem_cons_zero, Act.put, List.setIfInBounds_toArray, List.set_cons_zero, List.set_cons_succ]
  refine wpAnyH_done (by kernel_rfl) ?_ _
  go_wp2_with fail
  exact bodyPost_ret (results_tmp2 Try.results78 _ _ _) rfl ⟨rfl, B2.out⟩
section
variable {C : Duo} {G : Gd} {g q : Nat} {w : World} {F : Nat → Prop}
theorem heal_kind (s : Mr C) (n : Int) : (s.heal G n).1.2 = 0 → (s.heal G n).1.1 = 0 ∨ (s.heal G n).1.1 = 1 ∨ (s.heal G n).1.1 = 2 := by
  have ht : ∀ i k x, (s.healTo i k x).1.2 = 0 → (s.healTo i k x).1.1 = 0 ∨ (s.healTo i k x).1.1 = 1 ∨ (s.healTo i k x).1.1 = 2 := fun i k x => by
    unfold Mr.healTo; dsimp only; split
    · exact fun _ => .inr (.inl rfl)
    · exact fun _ => .inl rfl
  unfold Mr.heal
  split
  · split
    · split
      · split
        · split
          · exact fun _ => .inl rfl
          · exact ht _ _ _
        · exact ht _ _ _
      · split
        · exact ht _ _ _
        · exact fun _ => .inr (.inr rfl)
    · exact fun h => by cases h
  · exact fun h => by cases h
theorem heal_okk {s : Mr C} {k : Nat} (h : s.ok k) (n : Int) : (s.heal G n).2.ok k := by
  unfold Mr.heal
  (repeat' split) <;> first | exact h | exact mend_ok h
theorem heal_most (s : Mr C) (n : Int) : C.most (s.heal G n).2.d ≤ C.most s.d + 1 := by
  unfold Mr.heal
  (repeat' split) <;> first | exact Nat.le_succ _ | exact mend_most (by omega)
/-- A step of a walk: what it counts. -/
def Wk.step (x : Wk) (r : Int × Int) : Wk := if r.2 = 0 then ({ x with n := x.n + 1 } : Wk).add r.1 else { x with n := x.n + 1 }
/-- What Step tells, and makes of both. -/
def stepN (G : Gd) (s : Mr C × Wk) : (Int × Bool) × (Mr C × Wk) :=
  if s.1.a.length ≤ s.2.n then ((0, false), s) else ((s.2.n, true), ((s.1.heal G s.2.n).2, s.2.step (s.1.heal G s.2.n).1))
def Wk.small (x : Wk) : Prop := x.n < 100000 ∧ x.r < 100000 ∧ x.h < 100000 ∧ x.l < 100000
def tupS (x : Int × Bool) : Value := .tuple #[.int .i64 x.1, .bool x.2]
set_option maxRecDepth 100000 in
set_option maxHeartbeats 6400000 in
theorem sstep_any {s : Mr C × Wk} (h : (WL (ML C G g) (some ⟨g, 0, none⟩) q).At w s F) {k : Nat} (hk : s.1.ok k) (hm : C.most s.1.d < 900000) (hx : s.2.small) :
    Calls Try.prog 78 #[.pointer (some ⟨q, 0, none⟩)] w (RetA (WL (ML C G g) (some ⟨g, 0, none⟩) q) (tupS (stepN G s).1) (stepN G s).2 F w) := by
  by_cases hn : s.1.a.length ≤ s.2.n
  · rw [stepN, if_pos hn]
    obtain ⟨F1, h1, h2, _⟩ := wl_in h
    exact (sstep_end h2 (fun w' hb => mlen_any ((ML C G g).below h1 hb)) hn).mono fun _ _ hr => RetB.reta h hr
  · obtain ⟨s, x⟩ := s
    obtain ⟨n, hnn⟩ : ∃ n, n = s.a.length := ⟨_, rfl⟩
    have n1 : ¬ ((x.n : Int) ≥ (n : Int)) := by have : ¬ s.a.length ≤ x.n := hn; omega
    have HL := Lib.hid (show ∀ w F, (WL (ML C G g) (some ⟨g, 0, none⟩) q).At w (s, x) F → Calls Try.prog 77 #[.pointer (some ⟨g, 0, none⟩)] w (RetB (.int .i64 n) w) from fun w F h => by
      obtain ⟨F1, h1, _⟩ := wl_in h
      rw [hnn]; exact mlen_any h1)
    obtain ⟨r, hr⟩ : ∃ r, r = (s.heal G x.n).1 := ⟨_, rfl⟩
    obtain ⟨s2, hs2⟩ : ∃ s2, s2 = (s.heal G x.n).2 := ⟨_, rfl⟩
    have HHE := Lib.hid (show ∀ w F y, (WL (ML C G g) (some ⟨g, 0, none⟩) q).At w (s, y) F → Calls Try.prog 116 #[.pointer (some ⟨g, 0, none⟩), .int .i64 x.n] w (RetA (WL (ML C G g) (some ⟨g, 0, none⟩) q) (tup2 r) (s2, y) F w) from fun w F y h => by
      obtain ⟨F1, h1, _, hl⟩ := wl_in h
      rw [hr, hs2]
      refine (heal_any h1 hk (x.n : Int) (Nat.lt_trans hm (by omega))).mono ?_
      rintro e w' ⟨rfl, F2, h3⟩
      exact ⟨rfl, _, hl h3⟩)
    have HK := Lib.hid (show r.2 = 0 → r.1 = 0 ∨ r.1 = 1 ∨ r.1 = 2 by rw [hr]; exact heal_kind s x.n)
    have HV := Lib.hid (show stepN G (s, x) = (((x.n : Int), true), (s2, x.step r)) by rw [stepN, if_neg hn, hr, hs2])
    rw [HV.out]
    suffices key : ∀ sv : (WL (ML C G g) (some ⟨g, 0, none⟩) q).St, sv = (s2, x.step r) → Calls Try.prog 78 #[.pointer (some ⟨q, 0, none⟩)] w (RetA (WL (ML C G g) (some ⟨g, 0, none⟩) q) (tupS ((x.n : Int), true)) sv F w) from key _ rfl
    intro sv hsv
    have HSV := Lib.hid hsv
    clear hsv
    have HX := Lib.hid hx
    have M0 := Lib.hid (Mv.start h)
    have w1 : IntKind.i64.wrap ((x.n : Int) + 1) = (x.n : Int) + 1 := IntWalk.i64_in _ (by have : x.n < 100000 := hx.1; omega)
    obtain ⟨ra, re⟩ := r
    have HHE := Lib.hid (show ∀ w F y, (WL (ML C G g) (some ⟨g, 0, none⟩) q).At w (s, y) F → Calls Try.prog 116 #[.pointer (some ⟨g, 0, none⟩), .int .i64 x.n] w (RetA (WL (ML C G g) (some ⟨g, 0, none⟩) q) (.tuple #[.int .i64 ra, .int .i64 re]) (s2, y) F w) from HHE.out)
    clear hr hs2 hnn hn h hx hk hm HV
    go_enter Try.func78, Try.ntmps78
    go_upto_region 1 with fail
    refine wp_region_held_drew (S := fun w' => Blk w' q (x.cells (some ⟨g, 0, none⟩)) 197) (by kernel_rfl) ((wl_blk M0.out.at_).drewN 1) (fun hh => ?_)
    have HH := Lib.hid hh
    clear hh
    refine wpAnyH_take (i := 0) (v := ?vF0) rfl (by kernel_rfl) (by kernel_rfl) (by kernel_rfl) (fun _ _ _ h => h) (Or.inl ⟨by rfl, fun w' _ => ?yF0⟩) HH.out ?_
    case yF0 => (go_simp; try with_reducible rfl)
    refine wpAnyH_take (i := 1) (v := ?vF1) rfl (by kernel_rfl) (by kernel_rfl) (by kernel_rfl) (fun _ _ _ h => h) (Or.inl ⟨by rfl, fun w' _ => ?yF1⟩) HH.out ?_
    case yF1 => (go_simp; try with_reducible rfl)
    try simp only [List.getElem_toArray, List.getElem_cons_succ, List.getElem_cons_zero, Act.put, List.setIfInBounds_toArray, List.set_cons_zero, List.set_cons_succ]
    refine wpAnyH_take (i := 2) (v := ?vF2) rfl (by kernel_rfl) (by kernel_rfl) (by kernel_rfl) (fun _ _ _ h => h) (Or.inl ⟨by rfl, fun w' _ => ?yF2⟩) HH.out ?_
    case yF2 => (go_simp; try with_reducible rfl)
    try simp only [List.getElem_toArray, List.getElem_cons_succ, List.getElem_cons_zero, Act.put, List.setIfInBounds_toArray, List.set_cons_zero, List.set_cons_succ]
    refine wpAnyH_take (i := 3) (v := ?vF3) rfl (by kernel_rfl) (by kernel_rfl) (by kernel_rfl) (fun _ _ _ h => h) (Or.inl ⟨by rfl, fun w' _ => ?yF3⟩) HH.out ?_
    case yF3 => (go_simp; try with_reducible rfl)
    try simp only [List.getElem_toArray, List.getElem_cons_succ, List.getElem_cons_zero, Act.put, List.setIfInBounds_toArray, List.set_cons_zero, List.set_cons_succ]
    refine wpAnyH_take (i := 4) (v := ?vF4) rfl (by kernel_rfl) (by kernel_rfl) (by kernel_rfl) (fun _ _ _ h => h) (Or.inl ⟨by rfl, fun w' _ => ?yF4⟩) HH.out ?_
    case yF4 => (go_simp; try with_reducible rfl)
    try simp only [List.getElem_toArray, List.getElem_cons_succ, List.getElem_cons_zero, Act.put, List.setIfInBounds_toArray, List.set_cons_zero, List.set_cons_succ]
    refine wpAnyH_take (i := 5) (v := ?vF5) rfl (by kernel_rfl) (by kernel_rfl) (by kernel_rfl) (fun _ _ _ h => h) (Or.inl ⟨by rfl, fun w' _ => ?yF5⟩) HH.out ?_
    case yF5 => (go_simp; try with_reducible rfl)
    refine wpAnyH_take (i := 6) (v := .int .i64 x.n) rfl (by kernel_rfl) (by kernel_rfl) (by kernel_rfl) (fun _ _ _ h => h) (Or.inl ⟨by rfl, fun w' hw' => ?yF6⟩) HH.out ?_
    case yF6 => (have hc := wk_cell1 hw'; go_simp; try with_reducible rfl)
    try simp only [List.getElem_toArray, List.getElem_cons_succ, List.getElem_cons_zero, Act.put, List.setIfInBounds_toArray, List.set_cons_zero, List.set_cons_succ]
    refine wpAnyH_take (i := 7) (v := ?vF7) rfl (by kernel_rfl) (by kernel_rfl) (by kernel_rfl) (fun _ _ _ h => h) (Or.inl ⟨by rfl, fun w' _ => ?yF7⟩) HH.out ?_
    case yF7 => (go_simp; try with_reducible rfl)
    try simp only [List.getElem_toArray, List.getElem_cons_succ, List.getElem_cons_zero, Act.put, List.setIfInBounds_toArray, List.set_cons_zero, List.set_cons_succ]
    refine wpAnyH_take (i := 8) (v := ?vF8) rfl (by kernel_rfl) (by kernel_rfl) (by kernel_rfl) (fun _ _ _ h => h) (Or.inl ⟨by rfl, fun w' _ => ?yF8⟩) HH.out ?_
    case yF8 => (go_simp; try with_reducible rfl)
    try simp only [List.getElem_toArray, List.getElem_cons_succ, List.getElem_cons_zero, Act.put, List.setIfInBounds_toArray, List.set_cons_zero, List.set_cons_succ]
    refine wpAnyH_take (i := 9) (v := ?vF9) rfl (by kernel_rfl) (by kernel_rfl) (by kernel_rfl) (fun _ _ _ h => h) (Or.inl ⟨by rfl, fun w' _ => ?yF9⟩) HH.out ?_
    case yF9 => (go_simp; try with_reducible rfl)
    refine wpAnyH_take (i := 10) (v := .pointer (some ⟨g, 0, none⟩)) rfl (by kernel_rfl) (by kernel_rfl) (by kernel_rfl) (fun _ _ _ h => h) (Or.inl ⟨by rfl, fun w' hw' => ?yF10⟩) HH.out ?_
    case yF10 => (have hc := wk_cell0 hw'; go_simp; try with_reducible rfl)
    try simp only [List.getElem_toArray, List.getElem_cons_succ, List.getElem_cons_zero, Act.put, List.setIfInBounds_toArray, List.set_cons_zero, List.set_cons_succ]
    refine wpAnyH_ready (rs := [11]) (by kernel_rfl) (by simp) (AllReadyH.cons rfl (fun K hK => ?_) AllReadyH.nil)
    go_simp
    refine (HL.out _ _ (M0.out.below (Below.refl _ _).drew).at_).mono ?_
    rintro e w2 ⟨rfl, bw⟩
    have M2 := Lib.hid ((M0.out.below (Below.refl w.heap.size w).drew).below bw)
    go_simp
    refine hK.out _ _ (wl_blk M2.out.at_) (fun hh => ?_)
    have HH' := Lib.hid hh
    clear hh hK K HH bw M0
    have HH := Lib.hid HH'.out
    clear HH'
    refine wpAnyH_take (i := 12) (v := .bool false) rfl (by kernel_rfl) (by kernel_rfl) (by kernel_rfl) (fun _ _ _ h => h) (Or.inl ⟨by rfl, fun w' hw' => ?yF12⟩) HH.out ?_
    case yF12 => (go_simp; try rfl)
    refine wpAnyH_take (i := 13) (v := ?vF13) rfl (by kernel_rfl) (by kernel_rfl) (by kernel_rfl) (fun _ _ _ h => h) (Or.inl ⟨by rfl, fun w' _ => ?yF13⟩) HH.out ?_
    case yF13 => (go_simp; try with_reducible rfl)
    try simp only [List.getElem_toArray, List.getElem_cons_succ, List.getElem_cons_zero, Act.put, List.setIfInBounds_toArray, List.set_cons_zero, List.set_cons_succ]
    refine wpAnyH_done (by kernel_rfl) ?_ _
    have hc0 := wk_cell0 (wl_blk M2.out.at_)
    have hc1 := wk_cell1 (wl_blk M2.out.at_)
    have hf1 := (wl_blk M2.out.at_).free 1
    go_upto_region 5 with fail
    obtain ⟨wn, hwn⟩ : ∃ wn, wn = w2.setCell ⟨q, 1, none⟩ (.int .i64 ((x.n : Int) + 1)) := ⟨_, rfl⟩
    have hbn : Blk wn q (({ x with n := x.n + 1 } : Wk).cells (some ⟨g, 0, none⟩)) 197 := by rw [hwn]; exact walk_set (wl_blk M2.out.at_) 1 _ (by simp [Wk.cells])
    have M3 := Lib.hid (M2.out.trans (wl_own M2.out.at_ (by rw [hwn]; exact but_one _) hbn))
    rw [← hwn]
    have hc0 := wk_cell0 hbn
    clear hwn hbn hc1 hf1 M2
    go_wp2_with fail
    refine (HHE.out _ _ _ M3.out.at_).mono ?_
    rintro e w5 ⟨rfl, F5, h5⟩
    have M5 := Lib.hid (M3.out.trans h5)
    clear h5 M3 hc0
    by_cases hre : re = 0
    · subst hre
      have HKK := HK.out rfl
      have HS := Lib.hid (show x.step (ra, 0) = ({ x with n := x.n + 1 } : Wk).add ra by rw [Wk.step, if_pos rfl])
      go_wp2_with fail
      refine (scount_any (wl_blk M5.out.at_) ⟨by have : x.r < 100000 := HX.out.2.1; show x.r < 1000000; omega, by have : x.h < 100000 := HX.out.2.2.1; show x.h < 1000000; omega, by have : x.l < 100000 := HX.out.2.2.2; show x.l < 1000000; omega⟩ ra HKK).mono ?_
      rintro e w6 ⟨rfl, hb6, ht6⟩
      have M6 := Lib.hid (M5.out.trans (wl_own M5.out.at_ ht6 hb6))
      clear hb6 ht6 M5
      go_wp2_with fail
      exact bodyPost_ret (results_tmp2 Try.results78 _ _ _) rfl ⟨rfl, _, by rw [HSV.out, HS.out]; exact M6.out⟩
    · have HS := Lib.hid (show x.step (ra, re) = ({ x with n := x.n + 1 } : Wk) by rw [Wk.step, if_neg hre])
      go_wp2_with fail
      exact bodyPost_ret (results_tmp2 Try.results78 _ _ _) rfl ⟨rfl, _, by rw [HSV.out, HS.out]; exact M5.out⟩
end
end Go.Proofs.Ytnplhagfmfggcaa.Sc
/-
  The contract of All.
-/
namespace Go.Proofs.Ytnplhagfmfggcaa.Sc
open Go.RowKit Kd Mi
attribute [local go_sem ↓] Go.wp_at_zero Go.wp_at_succ
section
variable {C : Duo} {G : Gd} {g q : Nat} {w : World} {F : Nat → Prop}
/-- k steps. -/
def runN (G : Gd) (s : Mr C × Wk) : Nat → Mr C × Wk
  | 0 => s
  | k + 1 => (stepN G (runN G s k)).2
theorem step_okk {s : Mr C × Wk} {n : Nat} (h : s.1.ok n) : (stepN G s).2.1.ok n := by
  unfold stepN; split
  · exact h
  · exact heal_okk h _
theorem run_okk {s : Mr C × Wk} {n : Nat} (h : s.1.ok n) : ∀ k, (runN G s k).1.ok n
  | 0 => h
  | k + 1 => step_okk (run_okk h k)
theorem step_most (s : Mr C × Wk) : C.most (stepN G s).2.1.d ≤ C.most s.1.d + 1 := by
  unfold stepN; split
  · exact Nat.le_succ _
  · exact heal_most _ _
theorem run_most (s : Mr C × Wk) : ∀ k, C.most (runN G s k).1.d ≤ C.most s.1.d + k
  | 0 => Nat.le_refl _
  | k + 1 => by have h1 := run_most s k; have h2 := step_most (G := G) (runN G s k); show C.most (stepN G (runN G s k)).2.1.d ≤ _; omega
theorem add_few (x : Wk) (r : Int) {k : Nat} (h : x.n ≤ k + 1 ∧ x.r ≤ k ∧ x.h ≤ k ∧ x.l ≤ k) : (x.add r).n ≤ k + 1 ∧ (x.add r).r ≤ k + 1 ∧ (x.add r).h ≤ k + 1 ∧ (x.add r).l ≤ k + 1 := by
  unfold Wk.add; split
  · exact ⟨h.1, by show x.r + 1 ≤ _; omega, by show x.h ≤ _; omega, by show x.l ≤ _; omega⟩
  · split
    · exact ⟨h.1, by show x.r ≤ _; omega, by show x.h + 1 ≤ _; omega, by show x.l ≤ _; omega⟩
    · exact ⟨h.1, by show x.r ≤ _; omega, by show x.h ≤ _; omega, by show x.l + 1 ≤ _; omega⟩
theorem step_few (s : Mr C × Wk) {k : Nat} (h : s.2.n ≤ k ∧ s.2.r ≤ k ∧ s.2.h ≤ k ∧ s.2.l ≤ k) : (stepN G s).2.2.n ≤ k + 1 ∧ (stepN G s).2.2.r ≤ k + 1 ∧ (stepN G s).2.2.h ≤ k + 1 ∧ (stepN G s).2.2.l ≤ k + 1 := by
  unfold stepN; split
  · exact ⟨by show s.2.n ≤ _; omega, by show s.2.r ≤ _; omega, by show s.2.h ≤ _; omega, by show s.2.l ≤ _; omega⟩
  · show (s.2.step _).n ≤ _ ∧ (s.2.step _).r ≤ _ ∧ (s.2.step _).h ≤ _ ∧ (s.2.step _).l ≤ _
    unfold Wk.step; split
    · exact add_few _ _ ⟨by show s.2.n + 1 ≤ _; omega, h.2⟩
    · exact ⟨by show s.2.n + 1 ≤ _; omega, by show s.2.r ≤ _; omega, by show s.2.h ≤ _; omega, by show s.2.l ≤ _; omega⟩
theorem run_few (s : Mr C) : ∀ k, (runN G (s, Wk.zero) k).2.n ≤ k ∧ (runN G (s, Wk.zero) k).2.r ≤ k ∧ (runN G (s, Wk.zero) k).2.h ≤ k ∧ (runN G (s, Wk.zero) k).2.l ≤ k
  | 0 => ⟨Nat.le_refl _, Nat.le_refl _, Nat.le_refl _, Nat.le_refl _⟩
  | k + 1 => step_few _ (run_few s k)
/-- What All makes of a mirror, and tells. -/
def allN (G : Gd) (s : Mr C) (n : Nat) : Mr C × Wk := runN G (s, Wk.zero) n
set_option maxRecDepth 100000 in
set_option maxHeartbeats 6400000 in
theorem sall_nil (w : World) : Calls Try.prog 27 #[.pointer none] w (RetB (.agg Wk.zero.rep) w) := by
  obtain ⟨w1, hw1⟩ : ∃ w1, w1 = w.alloc (.cells #[.int .i64 0, .int .i64 0, .int .i64 0] 57) := ⟨_, rfl⟩
  have B1 := Lib.hid (show Below w.heap.size w w1 by rw [hw1]; exact (Below.refl _ _).alloc (Nat.le_refl _) _)
  have R1 := Lib.hid (show Blk w1 w.heap.size #[.int .i64 0, .int .i64 0, .int .i64 0] 57 by rw [hw1]; exact heap_alloc_new _ _)
  go_enter Try.func27, Try.ntmps27
  go_upto_region 1 with fail
  rw [← hw1]
  clear hw1
  go_wp2_with fail
  refine (snew_any w1 none).mono ?_
  rintro e w2 ⟨q, rfl, hq, hx, bw⟩
  have B2 := Lib.hid (B1.out.trans (bw.mono B1.out.size))
  have R2 := Lib.hid (R1.out.below bw)
  have X2 := Lib.hid hx
  clear hq hx bw B1 R1
  go_wp2_with fail
  refine (mlen_nil w2).mono ?_
  rintro e w3 ⟨rfl, bw⟩
  have B3 := Lib.hid (B2.out.trans (bw.mono B2.out.size))
  have R3 := Lib.hid (R2.out.below bw)
  have X3 := Lib.hid (X2.out.below bw)
  clear bw B2 R2 X2
  go_wp2_with fail
  go_loopw [8] (fun i wr => i = .int .i64 0 ∧ wr = w3) (fun _ _ => 0)
  case atStart => exact ⟨rfl, rfl⟩
  case round =>
    obtain ⟨rfl, rfl⟩ := hrel
    go_wp2_with fail
    refine (sreport_any X3.out).mono ?_
    rintro e w4 ⟨rfl, bw⟩
    have B4 := Lib.hid (B3.out.trans (bw.mono B3.out.size))
    have R4 := Lib.hid (R3.out.below bw)
    clear bw B3 R3 X3
    go_wp2_with (first
      | (refine wpList_store_row rfl 57 (.tmp 2) (.tmp 14) rfl w.heap.size Wk.zero.rep rfl rfl 57 #[.int .i64 0, .int .i64 0, .int .i64 0] R4.out wk_info rfl (by simp [Wk.rep, Value.oneCell']) ?_))
    exact bodyPost_ret (v := .agg Wk.zero.rep) (results_cell_row Try.results27 _ _ w.heap.size 57 Wk.zero.rep (0, 0) _ rfl (setRow_heap _ _ _ _ _ _ R4.out) Try.underlying57 rfl wk_info) rfl ⟨rfl, below_setRow B4.out (Nat.le_refl _) _⟩
set_option maxRecDepth 100000 in
set_option maxHeartbeats 6400000 in
theorem sall_any {s : Mr C} (h : (ML C G g).At w s F) {n : Nat} (hk : s.ok n) (hn : n ≤ 5000) (hm : C.most s.d < 800000) :
    Calls Try.prog 27 #[.pointer (some ⟨g, 0, none⟩)] w (RetA (ML C G g) (.agg (allN G s n).2.rep) (allN G s n).1 F w) := by
  obtain ⟨w1, hw1⟩ : ∃ w1, w1 = w.alloc (.cells #[.int .i64 0, .int .i64 0, .int .i64 0] 57) := ⟨_, rfl⟩
  have M1 := Lib.hid (show Mv (ML C G g) w F w1 s F from (Mv.start h).below (by rw [hw1]; exact (Below.refl _ _).alloc (Nat.le_refl _) _))
  have R1 := Lib.hid (show Blk w1 w.heap.size #[.int .i64 0, .int .i64 0, .int .i64 0] 57 by rw [hw1]; exact heap_alloc_new _ _)
  have HN := Lib.hid hn
  have HM := Lib.hid hm
  have HLN := Lib.hid (show s.a.length = n from hk.1)
  have HOK := Lib.hid hk
  have HF := Lib.hid ((ML C G g).lt h)
  clear hn hm hk h
  go_enter Try.func27, Try.ntmps27
  go_upto_region 1 with fail
  rw [← hw1]
  clear hw1
  obtain ⟨b, hb⟩ : ∃ b, b = w.heap.size := ⟨_, rfl⟩
  have BX1 := Lib.hid (show Bx w w1 F b #[.int .i64 0, .int .i64 0, .int .i64 0] 57 from ⟨by rw [hb]; exact R1.out, by rw [hb]; exact Nat.le_refl _, fun hf => by have := HF.out b hf; omega⟩)
  rw [← hb]
  clear hb R1 HF
  go_wp2_with fail
  refine (snew_any w1 (some ⟨g, 0, none⟩)).mono ?_
  rintro e w2 ⟨q, rfl, hq, hx, bw⟩
  have HQ := Lib.hid (show w.heap.size ≤ q from Nat.le_trans M1.out.size hq)
  have HQB := Lib.hid (show b ≠ q by have := BX1.out.1.lt; omega)
  have X2 := Lib.hid hx
  have M2 := Lib.hid (M1.out.below bw)
  have BX2 := Lib.hid (BX1.out.below bw)
  have HQF := Lib.hid (show ¬ F q from fun hf => by have := M1.out.lt q hf; omega)
  clear hq hx bw M1 BX1
  go_wp2_with fail
  refine (mlen_any M2.out.at_).mono ?_
  rintro e w3 ⟨rfl, bw⟩
  rw [HLN.out]
  have X3 := Lib.hid (X2.out.below bw)
  have M3 := Lib.hid (M2.out.below bw)
  have BX3 := Lib.hid (BX2.out.below bw)
  clear bw X2 M2 BX2
  have W3 := Lib.hid (show (WL (ML C G g) (some ⟨g, 0, none⟩) q).At w3 (s, Wk.zero) (fun y => F y ∨ y = q) from ⟨F, M3.out.at_, X3.out, HQF.out, fun y hy => .inl hy, .inr rfl, fun y hy => by
    rcases hy with hy | rfl
    · exact M3.out.lt y hy
    · exact X3.out.lt⟩)
  go_wp2_with fail
  go_loopw [8] (fun i wr => ∃ (j : Nat) (F' : Nat → Prop), j ≤ n ∧ i = .int .i64 j ∧ Mv (WL (ML C G g) (some ⟨g, 0, none⟩) q) w3 (fun y => F y ∨ y = q) wr (runN G (s, Wk.zero) j) F' ∧ Bx w wr F' b #[.int .i64 0, .int .i64 0, .int .i64 0] 57) (fun i _ => n - (intOf i).toNat)
  case atStart => exact ⟨0, _, Nat.zero_le _, rfl, Mv.start W3.out, BX3.out.1, BX3.out.2.1, fun hf => hf.elim BX3.out.2.2 HQB.out⟩
  case round =>
    obtain ⟨j, F', hj, rfl, hmv, hbx⟩ := hrel
    have MJ := Lib.hid hmv
    have BJ := Lib.hid hbx
    have HJ := Lib.hid hj
    clear hmv hbx hj
    by_cases hlt : j < n
    · have HLT := Lib.hid hlt
      have j1 : (j : Int) < (n : Int) := by omega
      have wj : IntKind.i64.wrap ((j : Int) + 1) = ((j + 1 : Nat) : Int) := IntWalk.i64_in _ (by have := HN.out; omega)
      clear hlt
      go_wp2_with fail
      refine (sstep_any MJ.out.at_ (run_okk HOK.out j) (by have h1 := run_most (G := G) (s, Wk.zero) j; have h2 : C.most (s, Wk.zero).1.d < 800000 := HM.out; have := HN.out; have := HLT.out; omega) (by obtain ⟨h1, h2, h3, h4⟩ := run_few (G := G) s j; have := HN.out; have := HLT.out; exact ⟨by omega, by omega, by omega, by omega⟩)).mono ?_
      rintro e w5 ⟨rfl, F5, h5⟩
      have M5 := Lib.hid (MJ.out.trans h5)
      have B5 := Lib.hid (BJ.out.step h5)
      clear h5 MJ BJ
      go_wp2_with fail
      go_roundw
      case rel => exact ⟨j + 1, F5, HLT.out, by go_num, M5.out, B5.out⟩
      case measure => (have := HLT.out; simp [intOf]; omega)
    · obtain rfl : j = n := by have := HJ.out; omega
      have j1 : ¬ (j : Int) < (j : Int) := by omega
      clear hlt
      go_wp2_with fail
      have hbk := wl_blk MJ.out.at_
      refine (sreport_any hbk).mono ?_
      rintro e w5 ⟨rfl, bw⟩
      have M5 := Lib.hid (MJ.out.below bw)
      have B5 := Lib.hid (BJ.out.below bw)
      clear bw MJ BJ hbk
      obtain ⟨F1, h1, h4⟩ : ∃ F1, (ML C G g).At w5 (allN G s j).1 F1 ∧ ∀ y, F1 y → F' y := by obtain ⟨F1, h1, _, _, h4, _⟩ := M5.out.at_; exact ⟨F1, h1, h4⟩
      have H1 := Lib.hid h1
      have H4 := Lib.hid h4
      clear h1 h4
      obtain ⟨y, hy⟩ : ∃ y, y = (allN G s j).2 := ⟨_, rfl⟩
      rw [show (runN G (s, Wk.zero) j).2 = y from hy.symm]
      have HY := Lib.hid hy
      clear hy
      go_wp2_with (first
        | (refine wpList_store_row rfl 57 (.tmp 2) (.tmp 14) rfl b y.rep rfl rfl 57 #[.int .i64 0, .int .i64 0, .int .i64 0] B5.out.1 wk_info rfl (by simp [Wk.rep, Value.oneCell']) ?_))
      have hb : But (fun y => y = b) w5 (w5.setRow b y.rep) := (But.refl _).setRow (S := fun y => y = b) (.inl rfl) _
      refine bodyPost_ret (v := .agg y.rep) (results_cell_row Try.results27 _ _ b 57 y.rep (0, 0) _ rfl (setRow_heap _ _ _ _ _ _ B5.out.1) Try.underlying57 rfl wk_info) rfl ⟨by rw [HY.out], F1, (ML C G g).but H1.out hb (fun y hy e => B5.out.2.2 (e ▸ H4.out y hy)), fun y hy => ?_, ?_⟩
      · rcases M5.out.new y (H4.out y hy) with (h | h) | h
        · exact .inl h
        · exact .inr (by rw [h]; exact HQ.out)
        · exact .inr (Nat.le_trans M3.out.size h)
      · exact Mi.but_step (Mi.but_step M3.out.but M5.out.but (fun y hy => hy.imp id (fun h => by rw [h]; exact HQ.out))) hb (fun y hy => .inr (by rw [hy]; exact B5.out.2.1))
end
end Go.Proofs.Ytnplhagfmfggcaa.Sc
/-
  Scrubbing, of a mirror as the document tells of it: what each place counts as, what both devices have then. No program.
-/
namespace Go.Proofs.Ytnplhagfmfggcaa.Sc
open Kd Mi
def mdStep (f : Int → List UInt8 → Bool) (s : Md × Wk) : (Int × Bool) × (Md × Wk) :=
  if s.1.a.length ≤ s.2.n then ((0, false), s) else (((s.2.n : Int), true), ((s.1.heal f s.2.n).2, s.2.step (s.1.heal f s.2.n).1))
def mdRun (f : Int → List UInt8 → Bool) (s : Md × Wk) : Nat → Md × Wk
  | 0 => s
  | k + 1 => (mdStep f (mdRun f s k)).2
section
variable {pw g1 g2 : Nat} {s : Mr (Mu.one pw g1 g2)} {x : Md} {y : Wk} {m : Nat} {G : Gd}
theorem sees_step (h : Mu.Sees s x m) (hd : Mu.Dry s x) (y : Wk) : (stepN G (s, y)).1 = (mdStep G.f (x, y)).1 ∧ (stepN G (s, y)).2.2 = (mdStep G.f (x, y)).2.2 ∧ Mu.Sees (stepN G (s, y)).2.1 (mdStep G.f (x, y)).2.1 (m + 1) ∧ Mu.Dry (stepN G (s, y)).2.1 (mdStep G.f (x, y)).2.1 := by
  unfold stepN mdStep
  rw [show s.a = x.a from h.a]
  split
  · exact ⟨rfl, rfl, h.more (Nat.le_succ _), hd⟩
  · obtain ⟨h1, h2⟩ := h.heal (G := G) (y.n : Int)
    exact ⟨rfl, by show y.step _ = y.step _; rw [h1], h2, hd.heal h _⟩
theorem sees_run (h : Mu.Sees s x m) (hd : Mu.Dry s x) (y : Wk) : ∀ k, (runN G (s, y) k).2 = (mdRun G.f (x, y) k).2 ∧ Mu.Sees (runN G (s, y) k).1 (mdRun G.f (x, y) k).1 (m + k) ∧ Mu.Dry (runN G (s, y) k).1 (mdRun G.f (x, y) k).1
  | 0 => ⟨rfl, h, hd⟩
  | k + 1 => by
    obtain ⟨h1, h2, h3⟩ := sees_run h hd y k
    obtain ⟨h4, h5, h6, h7⟩ := sees_step (G := G) h2 h3 (runN G (s, y) k).2
    refine ⟨?_, ?_, ?_⟩
    · show (stepN G (runN G (s, y) k)).2.2 = (mdStep G.f (mdRun G.f (x, y) k)).2.2
      rw [show mdRun G.f (x, y) k = ((mdRun G.f (x, y) k).1, (runN G (s, y) k).2) by rw [h1]]
      exact h5
    · show Mu.Sees (stepN G (runN G (s, y) k)).2.1 (mdStep G.f (mdRun G.f (x, y) k)).2.1 _
      rw [show mdRun G.f (x, y) k = ((mdRun G.f (x, y) k).1, (runN G (s, y) k).2) by rw [h1]]
      exact h6
    · show Mu.Dry (stepN G (runN G (s, y) k)).2.1 (mdStep G.f (mdRun G.f (x, y) k)).2.1
      rw [show mdRun G.f (x, y) k = ((mdRun G.f (x, y) k).1, (runN G (s, y) k).2) by rw [h1]]
      exact h7
end
/-! ### Two devices that are there, nothing of which is stale -/
structure Fresh (x : Md) (n : Nat) : Prop where
  o0 : x.o0 = false
  o1 : x.o1 = false
  n0 : x.l0.length = n
  n1 : x.l1.length = n
  a : x.a = List.replicate n false
  b : x.b = List.replicate n false
variable {f : Int → List UInt8 → Bool} {x : Md} {n k : Nat}
/-- What a place counts as. -/
def ck (f : Int → List UInt8 → Bool) (k : Nat) (u v : List UInt8) : Int := if !(f k u) && !(f k v) then 2 else if f k u && (f k v && decide (u = v)) then 0 else 1
/-- What both have then. -/
def hl0 (f : Int → List UInt8 → Bool) (k : Nat) (u v : List UInt8) : List UInt8 := if f k u then u else if f k v then v else u
def hl1 (f : Int → List UInt8 → Bool) (k : Nat) (u v : List UInt8) : List UInt8 := if f k u then u else v
theorem rep_getD {n k : Nat} : (List.replicate n false).getD k false = false := by
  rw [List.getD_eq_getElem?_getD, List.getElem?_replicate]; split <;> rfl
theorem rep_set {n k : Nat} : (List.replicate n false).set k false = List.replicate n false := by simp
theorem Fresh.right (h : Fresh x n) (i : Nat) (k : Nat) : x.right f i k = f k ((x.l i).getD k zeroS) := by
  have h1 : (x.st i).getD k false = false := by
    unfold Md.st; split
    · rw [h.a]; exact rep_getD
    · rw [h.b]; exact rep_getD
  have h2 : x.o i = false := by unfold Md.o; split; exact h.o0; exact h.o1
  rw [Md.right, h1, h2]; rfl
theorem Fresh.mend (h : Fresh x n) (i k : Nat) (y : List UInt8) : Fresh (x.mend i k y) n ∧ x.mend i k y = x.setL i k y := by
  unfold Md.mend Md.put Md.setL
  split
  · rename_i hi
    subst hi
    refine ⟨⟨h.o0, h.o1, by simpa using h.n0, h.n1, by show x.a.set k false = _; rw [h.a, rep_set], h.b⟩, ?_⟩
    show ({ l0 := x.l0.set k y, l1 := x.l1, o0 := x.o0, o1 := x.o1, a := x.a.set k false, b := x.b } : Md) = _
    rw [h.a, rep_set]
  · rename_i hi
    refine ⟨⟨h.o0, h.o1, h.n0, by simpa using h.n1, h.a, by show x.b.set k false = _; rw [h.b, rep_set]⟩, ?_⟩
    show ({ l0 := x.l0, l1 := x.l1.set k y, o0 := x.o0, o1 := x.o1, a := x.a, b := x.b.set k false } : Md) = _
    rw [h.b, rep_set]
theorem Fresh.len (h : Fresh x n) : x.a.length = n := by rw [h.a, List.length_replicate]
theorem Fresh.has (h : Fresh x n) (hk : k < n) : x.has (k : Int) = true := by rw [Md.has, h.len]; simp; omega
theorem Fresh.heal (h : Fresh x n) (hk : k < n) : (x.heal f k).1 = (ck f k (x.l0.getD k zeroS) (x.l1.getD k zeroS), 0) ∧ Fresh (x.heal f k).2 n ∧
    (x.heal f k).2.l0 = x.l0.set k (hl0 f k (x.l0.getD k zeroS) (x.l1.getD k zeroS)) ∧ (x.heal f k).2.l1 = x.l1.set k (hl1 f k (x.l0.getD k zeroS) (x.l1.getD k zeroS)) := by
  have r0 : x.right f 0 k = f k (x.l0.getD k zeroS) := h.right 0 k
  have r1 : x.right f 1 k = f k (x.l1.getD k zeroS) := h.right 1 k
  rw [Md.heal, h.has hk, if_pos rfl, if_neg (by rw [h.o0, h.o1]; simp), Int.toNat_natCast, r0, r1]
  unfold ck hl0 hl1
  have e0 : x.l0.set k (x.l0.getD k zeroS) = x.l0 := list_set_self _ _ _
  have e1 : x.l1.set k (x.l1.getD k zeroS) = x.l1 := list_set_self _ _ _
  cases f0 : f k (x.l0.getD k zeroS) with
  | true =>
    simp only [if_true, Bool.not_true, Bool.false_and, Bool.false_eq_true, if_false, Bool.true_and]
    cases f1 : f k (x.l1.getD k zeroS) with
    | true =>
      simp only [Bool.true_and, decide_eq_true_eq]
      by_cases he : x.l0.getD k zeroS = x.l1.getD k zeroS
      · rw [if_pos he, if_pos he]
        exact ⟨rfl, h, e0.symm, by rw [he]; exact e1.symm⟩
      · rw [if_neg he, if_neg he]
        obtain ⟨h1, h2⟩ := h.mend 1 k (x.l0.getD k zeroS)
        exact ⟨rfl, h1, by rw [h2]; exact e0.symm, by rw [h2]; rfl⟩
    | false =>
      simp only [Bool.false_and, Bool.false_eq_true, if_false]
      obtain ⟨h1, h2⟩ := h.mend 1 k (x.l0.getD k zeroS)
      exact ⟨trivial, h1, by rw [h2]; exact e0.symm, by rw [h2]; rfl⟩
  | false =>
    simp only [Bool.false_eq_true, if_false, Bool.not_false, Bool.true_and, Bool.false_and]
    cases f1 : f k (x.l1.getD k zeroS) with
    | true =>
      simp only [if_true, Bool.not_true, Bool.false_eq_true, if_false]
      obtain ⟨h1, h2⟩ := h.mend 0 k (x.l1.getD k zeroS)
      exact ⟨trivial, h1, by rw [h2]; rfl, by rw [h2]; exact e1.symm⟩
    | false =>
      simp only [Bool.false_eq_true, if_false, Bool.not_false, if_true]
      exact ⟨trivial, h, e0.symm, e1.symm⟩
/-- What the first k places count as. -/
def cntK (f : Int → List UInt8 → Bool) (l0 l1 : List (List UInt8)) : Nat → Wk
  | 0 => Wk.zero
  | k + 1 => (cntK f l0 l1 k).step (ck f k (l0.getD k zeroS) (l1.getD k zeroS), 0)
theorem cntK_n (f : Int → List UInt8 → Bool) (l0 l1 : List (List UInt8)) : ∀ k, (cntK f l0 l1 k).n = k
  | 0 => rfl
  | k + 1 => by
    rw [cntK, Wk.step, if_pos rfl, Wk.add]
    have h := cntK_n f l0 l1 k
    split
    · show (cntK f l0 l1 k).n + 1 = _; rw [h]
    · split
      · show (cntK f l0 l1 k).n + 1 = _; rw [h]
      · show (cntK f l0 l1 k).n + 1 = _; rw [h]
/-- What k steps make of it. -/
theorem Fresh.run (h : Fresh x n) : ∀ k, k ≤ n → Fresh (mdRun f (x, Wk.zero) k).1 n ∧ (mdRun f (x, Wk.zero) k).2 = cntK f x.l0 x.l1 k ∧
    (∀ j, j < n → (mdRun f (x, Wk.zero) k).1.l0.getD j zeroS = if j < k then hl0 f j (x.l0.getD j zeroS) (x.l1.getD j zeroS) else x.l0.getD j zeroS) ∧
    (∀ j, j < n → (mdRun f (x, Wk.zero) k).1.l1.getD j zeroS = if j < k then hl1 f j (x.l0.getD j zeroS) (x.l1.getD j zeroS) else x.l1.getD j zeroS)
  | 0, _ => ⟨h, rfl, fun j _ => by rw [if_neg (by omega)]; rfl, fun j _ => by rw [if_neg (by omega)]; rfl⟩
  | k + 1, hk => by
    obtain ⟨h1, h2, h3, h4⟩ := h.run k (by omega)
    have hn : (mdRun f (x, Wk.zero) k).2.n = k := by rw [h2, cntK_n]
    have hs : mdRun f (x, Wk.zero) (k + 1) = (((mdRun f (x, Wk.zero) k).1.heal f k).2, (cntK f x.l0 x.l1 k).step ((mdRun f (x, Wk.zero) k).1.heal f k).1) := by
      show (mdStep f (mdRun f (x, Wk.zero) k)).2 = _
      unfold mdStep
      rw [if_neg (by rw [h1.len, hn]; omega), hn, h2]
    obtain ⟨h5, h6, h7, h8⟩ := h1.heal (f := f) (k := k) (by omega)
    have q0 := h3 k (by omega)
    have q1 := h4 k (by omega)
    rw [if_neg (by omega)] at q0 q1
    rw [q0, q1] at h5 h7 h8
    rw [hs]
    refine ⟨h6, by show (cntK f x.l0 x.l1 k).step _ = _; rw [h5]; rfl, fun j hj => ?_, fun j hj => ?_⟩
    · show ((mdRun f (x, Wk.zero) k).1.heal f k).2.l0.getD j zeroS = _
      rw [h7, set_getD _ _ _ _ (by rw [h1.n0]; exact hj)]
      by_cases e : k = j
      · subst e; rw [if_pos rfl, if_pos (by omega)]
      · rw [if_neg e, h3 j hj]
        by_cases hjk : j < k
        · rw [if_pos hjk, if_pos (by omega)]
        · rw [if_neg hjk, if_neg (by omega)]
    · show ((mdRun f (x, Wk.zero) k).1.heal f k).2.l1.getD j zeroS = _
      rw [h8, set_getD _ _ _ _ (by rw [h1.n1]; exact hj)]
      by_cases e : k = j
      · subst e; rw [if_pos rfl, if_pos (by omega)]
      · rw [if_neg e, h4 j hj]
        by_cases hjk : j < k
        · rw [if_pos hjk, if_pos (by omega)]
        · rw [if_neg hjk, if_neg (by omega)]
end Go.Proofs.Ytnplhagfmfggcaa.Sc
/-
  The mirror that pair makes, as the document tells of it; with a device that is out nothing counts. No program.
-/
namespace Go.Proofs.Ytnplhagfmfggcaa.Sc
open Kd Mi
def startM (L0 L1 : List (List UInt8)) (k : Nat) : Md := ⟨L0, L1, false, false, List.replicate k false, List.replicate k false⟩
theorem start_fresh {L0 L1 : List (List UInt8)} {k : Nat} (h0 : L0.length = k) (h1 : L1.length = k) : Fresh (startM L0 L1 k) k := ⟨rfl, rfl, h0, h1, rfl, rfl⟩
theorem start_len {L0 L1 : List (List UInt8)} {k : Nat} : (startM L0 L1 k).a.length = k := List.length_replicate
variable {f : Int → List UInt8 → Bool} {x : Md}
theorem down_heal (hd : (x.o0 || x.o1) = true) {n : Nat} (hn : n < x.a.length) : x.heal f n = ((0, 13), x) := by
  rw [Md.heal, show x.has (n : Int) = true by rw [Md.has]; simp; omega, if_pos rfl, if_pos hd]
theorem down_step (hd : (x.o0 || x.o1) = true) {n : Nat} (hn : n < x.a.length) : mdStep f (x, ⟨n, 0, 0, 0⟩) = (((n : Int), true), (x, ⟨n + 1, 0, 0, 0⟩)) := by
  rw [mdStep, if_neg (by show ¬ x.a.length ≤ n; omega)]
  show (((n : Int), true), ((x.heal f n).2, Wk.step ⟨n, 0, 0, 0⟩ (x.heal f n).1)) = _
  rw [down_heal hd hn, Wk.step, if_neg (show ¬ ((13 : Int) = 0) by decide)]
theorem down_run (hd : (x.o0 || x.o1) = true) : ∀ k, k ≤ x.a.length → mdRun f (x, Wk.zero) k = (x, ⟨k, 0, 0, 0⟩)
  | 0, _ => rfl
  | k + 1, hk => by rw [mdRun, down_run hd k (by omega), down_step hd (by omega)]
end Go.Proofs.Ytnplhagfmfggcaa.Sc
/-
  The laws' pair: two devices of one power, new, and their mirror.
-/
namespace Go.Proofs.Ytnplhagfmfggcaa.Su
open Go.RowKit Kd Mi Sx
attribute [local go_sem ↓] Go.wp_at_zero Go.wp_at_succ
def zeros4 : List (List UInt8) := List.replicate 4 zeroS
/-- What pair makes. -/
def RetPair (w : World) (e : Ending) (w' : World) : Prop :=
  ∃ p g1 g2 bx g s F, e = .returned (.tuple #[.pointer (some ⟨p, 0, none⟩), .pointer (some ⟨g1, 0, none⟩), .pointer (some ⟨g2, 0, none⟩), .pointer (some ⟨g, 0, none⟩)]) ∧
    Mu.LM p g1 g2 (gdS litS bx) g w w' s F (Sc.startM zeros4 zeros4 4) 0
set_option maxRecDepth 100000 in
set_option maxHeartbeats 3200000 in
theorem pair_any (w : World) : Calls Try.prog 50 #[] w (RetPair w) := by
  have hzl : ∀ W, (zeroValue 117).run Try.prog W = .ok (.agg zeroLit) W := fun _ => by kernel_rfl
  go_enter Try.func50, Try.ntmps50
  go_wp2_with fail
  refine live_power.mono ?_
  rintro e w2 ⟨pw, rfl, F2, h⟩
  have H2 := Lib.hid h
  clear h
  go_wp2_with fail
  refine (live_new H2.out (by decide) (4 : Int)).mono ?_
  rintro e w3 ⟨g1, rfl, F3, h, hf, hb⟩
  have H3 := Lib.hid h
  clear h hf hb H2
  go_wp2_with fail
  refine (live_new H3.out (by show 1 < 1000; omega) (4 : Int)).mono ?_
  rintro e w4 ⟨g2, rfl, F4, h, hf, hb⟩
  have H4 := Lib.hid h
  clear h hf hb H3
  go_wp2_with fail
  refine (good_iface 117 (.agg zeroLit) _).mono ?_
  rintro e w7 ⟨rfl, hw7⟩
  obtain ⟨bG, hbG⟩ : ∃ v, v = w4.heap.size := ⟨_, rfl⟩
  rw [← hbG]
  have bw : Below w4.heap.size w4 w7 := by rw [hw7]; exact (Below.refl _ _).alloc (Nat.le_refl _) _
  have HBG := Lib.hid (show Blk w7 bG #[litS.v] 164 by rw [hw7, hbG]; exact heap_alloc_new _ _)
  have NG := Lib.hid (show ¬F4 bG ∧ w.heap.size ≤ bG from ⟨fun hf => by have := H4.out.sys.lt bG hf; omega, by rw [hbG]; exact H4.out.bel.size⟩)
  have H7 := Lib.hid (show Live w w7 _ _ _ _ from ⟨H4.out.sys.but (but_below (T := fun _ => False) bw) (fun _ _ h => h), H4.out.new, H4.out.bel.trans (bw.mono H4.out.bel.size)⟩)
  clear bw hw7 hbG H4
  go_wp2_with fail
  have hsee := Mu.see_new 4 (by omega)
  refine (Lo.lm_newB (G := gdS litS bG) (fun _ _ _ _ _ _ => trivial) (Mu.ld_new (g1 := g1) (g2 := g2) H7.out hsee.1 hsee.2) (fun y hy => by rw [show (gdS litS bG).l = [(bG, #[litS.v], 164)] from rfl, List.mem_singleton] at hy; subst hy; exact ⟨HBG.out, NG.out.1, NG.out.2⟩) (n := 4) List.length_replicate List.length_replicate).mono ?_
  rintro e w8 ⟨g, s8, F8, rfl, h, hf, hb⟩
  have H8 := Lib.hid h
  clear h hf hb hsee H7 HBG NG
  go_wp2_with fail
  exact bodyPost_ret (results_tmp4U Try.results50 _ _ _) rfl ⟨pw, g1, g2, bG, g, s8, F8, rfl, H8.out⟩
end Go.Proofs.Ytnplhagfmfggcaa.Su
/-
  How the document's answer lays a sector, byte by byte. No program but for wire's.
-/
namespace Go.Proofs.Ytnplhagfmfggcaa.Sx
open Go.RowKit Kd
theorem set_at {α : Type} (A C : List α) (x y : α) {k : Nat} (h : A.length = k) : (A ++ (x :: C)).set k y = A ++ (y :: C) := by
  rw [List.set_append_right _ _ (by omega), h, Nat.sub_self, List.set_cons_zero]
/-- .. as the document's answer lays it: the number from behind, the body and the sum byte by byte. -/
def ly1 (gen j : Nat) : List UInt8 := List.replicate (24 - j) 0 ++ ((Wi.putL gen 8).drop (8 - j) ++ List.replicate 104 0)
theorem ly1_zero (gen : Nat) : ly1 gen 0 = zeroS := by
  rw [ly1, List.drop_of_length_le (by rw [Wi.putL_length]; omega), List.nil_append, zeroS, List.replicate_append_replicate]
theorem ly1_all (gen : Nat) : ly1 gen 8 = lay1 gen := by rw [ly1, lay1_eq]; rfl
theorem ly1_length {gen j : Nat} (h : j ≤ 8) : (ly1 gen j).length = 128 := by simp [ly1, Wi.putL_length]; omega
theorem ly1_step {gen j : Nat} (h : j < 8) : (ly1 gen j).set (23 - j) (UInt8.ofNat (gen / 256 ^ j % 256)) = ly1 gen (j + 1) := by
  have e : List.replicate (24 - j) (0 : UInt8) = List.replicate (23 - j) 0 ++ [0] := by
    rw [show 24 - j = (23 - j) + 1 by omega, List.replicate_succ']
  have hb : 8 - (j + 1) < (Wi.putL gen 8).length := by rw [Wi.putL_length]; omega
  have hd : (Wi.putL gen 8).drop (8 - (j + 1)) = UInt8.ofNat (gen / 256 ^ j % 256) :: (Wi.putL gen 8).drop (8 - j) := by
    rw [List.drop_eq_getElem_cons hb, show 8 - (j + 1) + 1 = 8 - j by omega]
    congr 1
    simp only [Wi.putL, List.getElem_map, List.getElem_range]
    rw [show 8 - 1 - (8 - (j + 1)) = j by omega, show (256 : Nat) = 2 ^ 8 from rfl, ← Nat.pow_mul]
  rw [ly1, ly1, e, List.append_assoc, show ([0] ++ ((Wi.putL gen 8).drop (8 - j) ++ List.replicate 104 (0 : UInt8))) = 0 :: ((Wi.putL gen 8).drop (8 - j) ++ List.replicate 104 0) from rfl, set_at _ _ _ _ (by rw [List.length_replicate]), hd, show 24 - (j + 1) = 23 - j by omega]
  rfl
def ly2 (gen : Nat) (b : List UInt8) (k : Nat) : List UInt8 := (List.replicate 16 0 ++ Wi.putL gen 8 ++ [UInt8.ofNat b.length]) ++ (b.take k ++ List.replicate (103 - k) 0)
theorem ly2_zero (gen : Nat) (b : List UInt8) : ly2 gen b 0 = lay2 gen b := by rw [ly2, lay2_eq]; rfl
theorem ly2_all (gen : Nat) (b : List UInt8) : ly2 gen b b.length = List.replicate 16 0 ++ restL gen b := by
  rw [ly2, List.take_length, restL]; simp
theorem ly2_length {gen : Nat} {b : List UInt8} {k : Nat} (h : k ≤ b.length) (hb : b.length ≤ 103) : (ly2 gen b k).length = 128 := by simp [ly2, Wi.putL_length]; omega
theorem ly2_step {gen : Nat} {b : List UInt8} {k : Nat} (h : k < b.length) (hb : b.length ≤ 103) : (ly2 gen b k).set (25 + k) (b.getD k 0) = ly2 gen b (k + 1) := by
  have e : List.replicate (103 - k) (0 : UInt8) = 0 :: List.replicate (103 - (k + 1)) 0 := by
    rw [show 103 - k = (103 - (k + 1)) + 1 by omega, List.replicate_succ]
  have hl : ((List.replicate 16 (0 : UInt8) ++ Wi.putL gen 8 ++ [UInt8.ofNat b.length]) ++ b.take k).length = 25 + k := by
    simp [Wi.putL_length]; omega
  rw [ly2, ly2, e, ← List.append_assoc, set_at _ _ _ _ hl, List.take_succ_eq_append_getElem h, List.getD_eq_getElem?_getD, List.getElem?_eq_getElem h]
  simp only [Option.getD_some, List.append_assoc, List.cons_append, List.nil_append]
def ly3 (O r : List UInt8) (i : Nat) : List UInt8 := O.take i ++ (List.replicate (16 - i) 0 ++ r)
theorem ly3_zero (O r : List UInt8) : ly3 O r 0 = List.replicate 16 0 ++ r := rfl
theorem ly3_all {O r : List UInt8} (h : O.length = 16) : ly3 O r 16 = O ++ r := by
  rw [ly3, List.take_of_length_le (by omega)]; rfl
theorem ly3_length {O r : List UInt8} {i : Nat} (h : O.length = 16) (hr : r.length = 112) (hi : i ≤ 16) : (ly3 O r i).length = 128 := by simp [ly3, h, hr]; omega
theorem ly3_step {O r : List UInt8} {i : Nat} (h : O.length = 16) (hi : i < 16) : (ly3 O r i).set i (O.getD i 0) = ly3 O r (i + 1) := by
  have e : List.replicate (16 - i) (0 : UInt8) = 0 :: List.replicate (16 - (i + 1)) 0 := by
    rw [show 16 - i = (16 - (i + 1)) + 1 by omega, List.replicate_succ]
  rw [ly3, ly3, e, List.cons_append, set_at _ _ _ _ (by rw [List.length_take]; omega), List.take_succ_eq_append_getElem (by omega), List.getD_eq_getElem?_getD, List.getElem?_eq_getElem (by omega)]
  simp only [Option.getD_some, List.append_assoc, List.cons_append, List.nil_append]
/-- The place in four bytes. -/
theorem put4 {k : Nat} (h : k < 4096) : Wi.putL k 4 = [0, 0, UInt8.ofNat (k / 256), UInt8.ofNat (k % 256)] := by
  have e : List.range 4 = [0, 1, 2, 3] := by decide
  rw [Wi.putL, e]
  simp only [List.map_cons, List.map_nil]
  rw [show k / 2 ^ (8 * (4 - 1 - 0)) = 0 from Nat.div_eq_of_lt (by omega), show k / 2 ^ (8 * (4 - 1 - 1)) = 0 from Nat.div_eq_of_lt (by omega), show 2 ^ (8 * (4 - 1 - 2)) = 256 from rfl, show 2 ^ (8 * (4 - 1 - 3)) = 1 from rfl, Nat.div_one, Nat.mod_eq_of_lt (show k / 256 < 256 by omega)]
  rfl
end Go.Proofs.Ytnplhagfmfggcaa.Sx
/-
  The contract of the reference's Pack.
-/
namespace Go.Proofs.Ytnplhagfmfggcaa.Sx
open Go.RowKit Kd
attribute [local go_sem ↓] Go.wp_at_zero Go.wp_at_succ
theorem rbyte (x : Nat) : ((UInt8.ofNat (x % 256)).toNat : Int) = ((x % 256 : Nat) : Int) := by simp
theorem eq_byte {k : IntKind} {a b : Int} (h : a = b) : Value.int k a = .int k b := by rw [h]
set_option maxRecDepth 100000 in
set_option maxHeartbeats 1600000 in
theorem rpack_no0 (a : Int) (gen : Int) (A : Option Addr) (n c : Nat) (w : World) (h : a < 0) :
    Calls Try.prog 104 #[.int .i64 a, .int .u64 gen, .slice A n c] w (RetB (.tuple #[.agg (bva zeroS), .bool false]) w) := by
  obtain ⟨z, hz0⟩ : ∃ z : List UInt8, z = zeroS := ⟨_, rfl⟩
  have hz : ∀ W, (zeroValue 38).run Try.prog W = .ok (.agg (bva z)) W := fun _ => by rw [hz0]; kernel_rfl
  have HBZ := Lib.hid (show ∀ W, (Instr.build 38 #[]).run Try.prog W = .ok (.agg (bva z)) W from fun _ => by rw [hz0]; kernel_rfl)
  have HZ3 := Lib.hid (show z.length = 128 by rw [hz0]; exact zeroS_length)
  have HIZ : Hid ((Try.prog.info? 38).map (·.size) = some (bva z).size) := by rw [bva_size, HZ3.out]; exact info_sec
  obtain ⟨w2, hw2⟩ : ∃ w2, w2 = ((w.alloc (.cells (bva z) 38)).alloc (.cells (bva z) 38)).setRow (w.heap.size + 1) (bva z) := ⟨_, rfl⟩
  have B1 := Lib.hid (show Blk w2 w.heap.size (bva z) 38 from by rw [hw2]; unfold Blk; rw [setRow_other _ _ _ _ (by omega)]; exact heap_alloc2_old _ _ _)
  have B2 := Lib.hid (show Blk w2 (w.heap.size + 1) (bva z) 38 from by rw [hw2]; exact setRow_heap _ _ _ _ _ _ (heap_alloc2_new _ _ _))
  have BB := Lib.hid (show Below w.heap.size w w2 from by rw [hw2]; exact below_setRow (((Below.refl _ _).alloc (Nat.le_refl _) _).alloc (by simp) _) (by omega) _)
  rw [← hz0]
  clear hz0
  go_enter Try.func104, Try.ntmps104
  go_wp2_with (first
    | (refine wpList_build rfl 38 #[] rfl (v := .agg (bva z)) ?hbld ?_; case hbld => exact HBZ.out _)
    | (refine wpList_store_row rfl 38 (.tmp 8) (.tmp 14) rfl (w.heap.size + 1) (bva z) rfl rfl 38 (bva z) (heap_alloc2_new _ _ _) HIZ.out (by rfl) (bva_one _) ?_
       rw [← hw2]
       clear hw2)
    | (refine wpList_load_row rfl 38 (.tmp 8) rfl (w.heap.size + 1) rfl 38 (bva z) (0, 0) _ B2.out Try.underlying38 rfl HIZ.out ?_)
    | (refine wpList_store_row rfl 38 (.tmp 6) (.tmp 26) rfl w.heap.size (bva z) rfl rfl 38 (bva z) B1.out HIZ.out (by rfl) (bva_one _) ?_))
  exact bodyPost_ret (v := .tuple #[.agg (bva z), .bool false]) (results_ct8 Try.results104 _ _ w.heap.size 38 (bva z) _ rfl (setRow_heap _ _ _ _ _ _ B1.out) Try.underlying38 rfl HIZ.out) rfl ⟨rfl, below_setRow BB.out (Nat.le_refl _) _⟩
set_option maxRecDepth 100000 in
set_option maxHeartbeats 1600000 in
theorem rpack_no1 (a : Int) (gen : Int) (A : Option Addr) (n c : Nat) (w : World) (h0 : 0 ≤ a) (h : 4095 < a) :
    Calls Try.prog 104 #[.int .i64 a, .int .u64 gen, .slice A n c] w (RetB (.tuple #[.agg (bva zeroS), .bool false]) w) := by
  obtain ⟨z, hz0⟩ : ∃ z : List UInt8, z = zeroS := ⟨_, rfl⟩
  have hz : ∀ W, (zeroValue 38).run Try.prog W = .ok (.agg (bva z)) W := fun _ => by rw [hz0]; kernel_rfl
  have HBZ := Lib.hid (show ∀ W, (Instr.build 38 #[]).run Try.prog W = .ok (.agg (bva z)) W from fun _ => by rw [hz0]; kernel_rfl)
  have HZ3 := Lib.hid (show z.length = 128 by rw [hz0]; exact zeroS_length)
  have HIZ : Hid ((Try.prog.info? 38).map (·.size) = some (bva z).size) := by rw [bva_size, HZ3.out]; exact info_sec
  obtain ⟨w2, hw2⟩ : ∃ w2, w2 = ((w.alloc (.cells (bva z) 38)).alloc (.cells (bva z) 38)).setRow (w.heap.size + 1) (bva z) := ⟨_, rfl⟩
  have B1 := Lib.hid (show Blk w2 w.heap.size (bva z) 38 from by rw [hw2]; unfold Blk; rw [setRow_other _ _ _ _ (by omega)]; exact heap_alloc2_old _ _ _)
  have B2 := Lib.hid (show Blk w2 (w.heap.size + 1) (bva z) 38 from by rw [hw2]; exact setRow_heap _ _ _ _ _ _ (heap_alloc2_new _ _ _))
  have BB := Lib.hid (show Below w.heap.size w w2 from by rw [hw2]; exact below_setRow (((Below.refl _ _).alloc (Nat.le_refl _) _).alloc (by simp) _) (by omega) _)
  rw [← hz0]
  clear hz0
  go_enter Try.func104, Try.ntmps104
  go_wp2_with (first
    | (refine wpList_build rfl 38 #[] rfl (v := .agg (bva z)) ?hbld ?_; case hbld => exact HBZ.out _)
    | (refine wpList_store_row rfl 38 (.tmp 8) (.tmp 14) rfl (w.heap.size + 1) (bva z) rfl rfl 38 (bva z) (heap_alloc2_new _ _ _) HIZ.out (by rfl) (bva_one _) ?_
       rw [← hw2]
       clear hw2)
    | (refine wpList_load_row rfl 38 (.tmp 8) rfl (w.heap.size + 1) rfl 38 (bva z) (0, 0) _ B2.out Try.underlying38 rfl HIZ.out ?_)
    | (refine wpList_store_row rfl 38 (.tmp 6) (.tmp 26) rfl w.heap.size (bva z) rfl rfl 38 (bva z) B1.out HIZ.out (by rfl) (bva_one _) ?_))
  exact bodyPost_ret (v := .tuple #[.agg (bva z), .bool false]) (results_ct8 Try.results104 _ _ w.heap.size 38 (bva z) _ rfl (setRow_heap _ _ _ _ _ _ B1.out) Try.underlying38 rfl HIZ.out) rfl ⟨rfl, below_setRow BB.out (Nat.le_refl _) _⟩
set_option maxRecDepth 100000 in
set_option maxHeartbeats 1600000 in
theorem rpack_no2 (a : Int) (gen : Int) (A : Option Addr) (n c : Nat) (w : World) (h0 : 0 ≤ a) (h1 : a ≤ 4095) (h : 103 < n) :
    Calls Try.prog 104 #[.int .i64 a, .int .u64 gen, .slice A n c] w (RetB (.tuple #[.agg (bva zeroS), .bool false]) w) := by
  obtain ⟨z, hz0⟩ : ∃ z : List UInt8, z = zeroS := ⟨_, rfl⟩
  have hz : ∀ W, (zeroValue 38).run Try.prog W = .ok (.agg (bva z)) W := fun _ => by rw [hz0]; kernel_rfl
  have HBZ := Lib.hid (show ∀ W, (Instr.build 38 #[]).run Try.prog W = .ok (.agg (bva z)) W from fun _ => by rw [hz0]; kernel_rfl)
  have HZ3 := Lib.hid (show z.length = 128 by rw [hz0]; exact zeroS_length)
  have HIZ : Hid ((Try.prog.info? 38).map (·.size) = some (bva z).size) := by rw [bva_size, HZ3.out]; exact info_sec
  obtain ⟨w2, hw2⟩ : ∃ w2, w2 = ((w.alloc (.cells (bva z) 38)).alloc (.cells (bva z) 38)).setRow (w.heap.size + 1) (bva z) := ⟨_, rfl⟩
  have B1 := Lib.hid (show Blk w2 w.heap.size (bva z) 38 from by rw [hw2]; unfold Blk; rw [setRow_other _ _ _ _ (by omega)]; exact heap_alloc2_old _ _ _)
  have B2 := Lib.hid (show Blk w2 (w.heap.size + 1) (bva z) 38 from by rw [hw2]; exact setRow_heap _ _ _ _ _ _ (heap_alloc2_new _ _ _))
  have BB := Lib.hid (show Below w.heap.size w w2 from by rw [hw2]; exact below_setRow (((Below.refl _ _).alloc (Nat.le_refl _) _).alloc (by simp) _) (by omega) _)
  rw [← hz0]
  clear hz0
  have hd : decide ((103 : Int) < (n : Int)) = true := by simp; omega
  go_enter Try.func104, Try.ntmps104
  go_wp2_with (first
    | (refine wpList_build rfl 38 #[] rfl (v := .agg (bva z)) ?hbld ?_; case hbld => exact HBZ.out _)
    | (refine wpList_store_row rfl 38 (.tmp 8) (.tmp 14) rfl (w.heap.size + 1) (bva z) rfl rfl 38 (bva z) (heap_alloc2_new _ _ _) HIZ.out (by rfl) (bva_one _) ?_
       rw [← hw2]
       clear hw2)
    | (refine wpList_load_row rfl 38 (.tmp 8) rfl (w.heap.size + 1) rfl 38 (bva z) (0, 0) _ B2.out Try.underlying38 rfl HIZ.out ?_)
    | (refine wpList_store_row rfl 38 (.tmp 6) (.tmp 26) rfl w.heap.size (bva z) rfl rfl 38 (bva z) B1.out HIZ.out (by rfl) (bva_one _) ?_))
  exact bodyPost_ret (v := .tuple #[.agg (bva z), .bool false]) (results_ct8 Try.results104 _ _ w.heap.size 38 (bva z) _ rfl (setRow_heap _ _ _ _ _ _ B1.out) Try.underlying38 rfl HIZ.out) rfl ⟨rfl, below_setRow BB.out (Nat.le_refl _) _⟩
set_option maxRecDepth 100000 in
set_option maxHeartbeats 6400000 in
theorem rpack_yes (k : Nat) (hk : k < 4096) (gen : Nat) (hg : gen < 18446744073709551616) (A : Option Addr) (n c : Nat) (l : List UInt8) (w : World) (hl : l.length = n) (hn : n ≤ 103) (hr : Rd w.heap.size w A (bv l)) :
    Calls Try.prog 104 #[.int .i64 k, .int .u64 gen, .slice A n c] w (RetB (.tuple #[.agg (bva (sealedS litSumL k gen l)), .bool true]) w) := by
  obtain ⟨z, hz0⟩ : ∃ z : List UInt8, z = zeroS := ⟨_, rfl⟩
  have hz : ∀ W, (zeroValue 38).run Try.prog W = .ok (.agg (bva z)) W := fun _ => by rw [hz0]; kernel_rfl
  have HBZ := Lib.hid (show ∀ W, (Instr.build 38 #[]).run Try.prog W = .ok (.agg (bva z)) W from fun _ => by rw [hz0]; kernel_rfl)
  have HZ3 := Lib.hid (show z.length = 128 by rw [hz0]; exact zeroS_length)
  have HIZ : Hid ((Try.prog.info? 38).map (·.size) = some (bva z).size) := by rw [bva_size, HZ3.out]; exact info_sec
  obtain ⟨w2, hw2⟩ : ∃ w2, w2 = ((w.alloc (.cells (bva z) 38)).alloc (.cells (bva z) 38)).setRow (w.heap.size + 1) (bva z) := ⟨_, rfl⟩
  have B1 := Lib.hid (show Blk w2 w.heap.size (bva z) 38 from by rw [hw2]; unfold Blk; rw [setRow_other _ _ _ _ (by omega)]; exact heap_alloc2_old _ _ _)
  have B2 := Lib.hid (show Blk w2 (w.heap.size + 1) (bva z) 38 from by rw [hw2]; exact setRow_heap _ _ _ _ _ _ (heap_alloc2_new _ _ _))
  have BB := Lib.hid (show Below w.heap.size w w2 from by rw [hw2]; exact below_setRow (((Below.refl _ _).alloc (Nat.le_refl _) _).alloc (by simp) _) (by omega) _)
  obtain ⟨y, hy0⟩ : ∃ y : List UInt8, y = List.replicate 16 0 := ⟨_, rfl⟩
  have hy : ∀ W, (zeroValue 200).run Try.prog W = .ok (.agg (bva y)) W := fun _ => by rw [hy0]; kernel_rfl
  have HY3 := Lib.hid (show y.length = 16 by rw [hy0]; rfl)
  have HBK := Lib.hid (show ∀ W, (Instr.build 114 #[]).run Try.prog W = .ok (.agg (bva key0)) W from fun _ => by kernel_rfl)
  obtain ⟨r, hr0⟩ : ∃ r, r = restL gen l := ⟨_, rfl⟩
  have HR3 := Lib.hid (show r.length = 112 by rw [hr0]; exact restL_length (by omega))
  obtain ⟨O, hO⟩ : ∃ O, O = sumS litSumL k r := ⟨_, rfl⟩
  have HO3 := Lib.hid (show O.length = 16 by rw [hO]; exact litSumL_length _ _)
  have HIO : Hid ((Try.prog.info? 200).map (·.size) = some (bva O).size) := by rw [bva_size, HO3.out]; exact info_sum
  have HO := Lib.hid (show O = litSumL key0 (Wi.putL k 4 ++ r) from hO)
  obtain ⟨R, hR⟩ : ∃ R, R = sealedS litSumL k gen l := ⟨_, rfl⟩
  have HRR := Lib.hid (show R = O ++ r by rw [hR, sealedS, hO, hr0]; rfl)
  have HR4 := Lib.hid (show R.length = 128 by rw [HRR.out, List.length_append, HO3.out, HR3.out])
  have HIR : Hid ((Try.prog.info? 38).map (·.size) = some (bva R).size) := by rw [bva_size, HR4.out]; exact info_sec
  have HZL := Lib.hid (show z = ly1 gen 0 by rw [hz0, ly1_zero])
  have HLA := Lib.hid (show ly2 gen l l.length = List.replicate 16 0 ++ r by rw [hr0]; exact ly2_all gen l)
  have HL := Lib.hid hl
  have HK := Lib.hid hk
  have HR0 := Lib.hid hr
  have HN := Lib.hid hn
  have HG := Lib.hid (show U64 gen from hg)
  rw [← hR]
  have k0 : (0 : Int) ≤ (k : Int) := by omega
  have k1 : ¬ (4095 : Int) < (k : Int) := by omega
  have hd : decide ((103 : Int) < (n : Int)) = false := by simp; omega
  obtain ⟨m, hm⟩ : ∃ m, m = k := ⟨_, rfl⟩
  clear hz0 hy0 hO hR hr0 hl hk hr hn hg hm m
  go_enter Try.func104, Try.ntmps104
  go_wp2_with (first
    | (refine wpList_build rfl 38 #[] rfl (v := .agg (bva z)) ?hbld ?_; case hbld => exact HBZ.out _)
    | (refine wpList_store_row rfl 38 (.tmp 8) (.tmp 14) rfl (w.heap.size + 1) (bva z) rfl rfl 38 (bva z) (heap_alloc2_new _ _ _) HIZ.out (by rfl) (bva_one _) ?_
       rw [← hw2]
       clear hw2)
    | fail)
  go_loopw [9, 10] (fun d i wr => ∃ j : Nat, j ≤ 8 ∧ i = .int .i64 (7 - (j : Int)) ∧ d = .int .u64 ((gen / 256 ^ j : Nat) : Int) ∧ Blk wr w.heap.size (bva z) 38 ∧ Blk wr (w.heap.size + 1) (bva (ly1 gen j)) 38 ∧ Below w.heap.size w wr) (fun _ i _ => (intOf i + 1).toNat)
  case atStart => exact ⟨0, by omega, rfl, by simp, B1.out, by rw [← HZL.out]; exact B2.out, BB.out⟩
  case round =>
    clear B1 B2 BB
    obtain ⟨j, hj, rfl, rfl, B1, B2, BB⟩ := hrel
    by_cases hlt : j < 8
    · obtain ⟨i, hi⟩ : ∃ i : Nat, i = 7 - j := ⟨_, rfl⟩
      rw [show (7 - (j : Int)) = (i : Int) by omega]
      have i0 : (0 : Int) ≤ (i : Int) := by omega
      obtain ⟨p, hp⟩ : ∃ p : Nat, p = 16 + i := ⟨_, rfl⟩
      have wi : IntKind.i64.wrap (16 + (i : Int)) = (p : Int) := by rw [show (16 + (i : Int)) = (p : Int) by omega]; exact IntWalk.i64_in _ (by omega)
      have wi2 : IntKind.i64.wrap ((i : Int) - 1) = 7 - ((j + 1 : Nat) : Int) := by rw [show ((i : Int) - 1) = 7 - ((j + 1 : Nat) : Int) by omega]; exact IntWalk.i64_in _ (by omega)
      have p0 : (0 : Int) ≤ (p : Int) := by omega
      have p1 : (p : Int) < 128 := by omega
      obtain ⟨D, hD⟩ : ∃ D : Nat, D = gen / 256 ^ j := ⟨_, rfl⟩
      have hDb : D < 18446744073709551616 := by rw [hD]; exact Nat.lt_of_le_of_lt (Nat.div_le_self _ _) HG.out
      have HDB := Lib.hid (show U64 D from hDb)
      rw [← hD]
      obtain ⟨x, hx⟩ : ∃ x, x = (ly1 gen j).getD p 0 := ⟨_, rfl⟩
      have c0 := B2.cellb (k := p) (by rw [ly1_length (by omega)]; omega)
      rw [← hx] at c0
      have f0 := B2.free p
      have HI := Lib.hid hi
      have HP := Lib.hid hp
      have HD := Lib.hid hD
      have HJ := Lib.hid hlt
      have E1 := Lib.hid B1
      have E2 := Lib.hid B2
      have EB := Lib.hid BB
      clear hi hp hD hx hlt B1 B2 BB hj hDb
      go_wp2_with fail
      go_roundw
      case rel =>
        have hj := HJ.out
        have hii := HI.out
        have hpp := HP.out
        exact ⟨j + 1, by omega, int_eq (by omega), int_eq (by rw [IntWalk.u64_in _ (by have := HDB.out.int; omega), Nat.pow_succ, ← Nat.div_div_eq_div_mul, ← HD.out]; rfl), E1.out.other (by omega) _ _, (by rw [← ly1_step hj, show 23 - j = p by omega, ← HD.out]; exact E2.out.setb p _ (int_eq (by rw [rbyte]; rfl))), EB.out.setCell (by simp) _⟩
      case measure => (have := HI.out; have := HJ.out; simp [intOf]; omega)
    · obtain rfl : j = 8 := by omega
      rw [show (7 - ((8 : Nat) : Int)) = -1 by omega]
      rw [ly1_all] at B2
      have c24 := B2.cellb (k := 24) (by rw [lay1_length]; omega)
      have f24 := B2.free 24
      have wn : IntKind.u8.wrap (n : Int) = (n : Int) := IntWalk.u8_in _ (by have := HN.out; omega)
      have E1 := Lib.hid B1
      have E2 := Lib.hid B2
      have EB := Lib.hid BB
      obtain ⟨D, hD⟩ : ∃ D : Int, D = ((gen / 256 ^ 8 : Nat) : Int) := ⟨_, rfl⟩
      rw [← hD]
      clear B1 B2 BB hj hlt hD
      go_wp2_with fail
      obtain ⟨w5, hw5⟩ : ∃ w5, w5 = World.setCell wr ⟨w.heap.size + 1, 24, none⟩ (.int .u8 (n : Int)) := ⟨_, rfl⟩
      rw [← hw5]
      have Z1 := Lib.hid (show Blk w5 w.heap.size (bva z) 38 from by rw [hw5]; exact E1.out.other (by omega) _ _)
      have Z2 := Lib.hid (show Blk w5 (w.heap.size + 1) (bva (ly2 gen l 0)) 38 from by rw [hw5, ly2_zero, lay2]; exact E2.out.setb 24 _ (int_eq (by rw [UInt8.toNat_ofNat', HL.out]; have := HN.out; omega)))
      have ZB := Lib.hid (show Below w.heap.size w w5 from by rw [hw5]; exact EB.out.setCell (by simp) _)
      clear hw5 c24 f24 E1 E2 EB
      go_loopw [11] (fun i wr => ∃ q : Nat, q ≤ n ∧ i = .int .i64 q ∧ Blk wr w.heap.size (bva z) 38 ∧ Blk wr (w.heap.size + 1) (bva (ly2 gen l q)) 38 ∧ Below w.heap.size w wr) (fun i _ => n - (intOf i).toNat)
      case atStart => exact ⟨0, Nat.zero_le _, rfl, Z1.out, Z2.out, ZB.out⟩
      case round =>
        clear Z1 Z2 ZB
        obtain ⟨q, hq, rfl, B1, B2, BB⟩ := hrel
        have HQ := Lib.hid hq
        by_cases hlt : q < n
        · have k0 : (0 : Int) ≤ (q : Int) := by omega
          have k1 : (q : Int) < (n : Int) := by omega
          obtain ⟨p, hp⟩ : ∃ p : Nat, p = 25 + q := ⟨_, rfl⟩
          have wi : IntKind.i64.wrap (25 + (q : Int)) = (p : Int) := by rw [show (25 + (q : Int)) = (p : Int) by omega]; exact IntWalk.i64_in _ (by have := HN.out; omega)
          have wq : IntKind.i64.wrap ((q : Int) + 1) = ((q + 1 : Nat) : Int) := IntWalk.i64_in _ (by have := HN.out; omega)
          have p0 : (0 : Int) ≤ (p : Int) := by omega
          have p1 : (p : Int) < 128 := by have := HN.out; omega
          obtain ⟨ad, rfl, _, hc⟩ := (HR0.out.below BB).at_ (k := q) (by rw [HL.out]; exact hlt)
          obtain ⟨x, hx⟩ : ∃ x, x = l.getD q 0 := ⟨_, rfl⟩
          have hx' : l[q]'(by rw [HL.out]; exact hlt) = x := by rw [hx, List.getD_eq_getElem?_getD, List.getElem?_eq_getElem (by rw [HL.out]; exact hlt)]; rfl
          rw [hx'] at hc
          have HX := Lib.hid hx
          obtain ⟨x0, hx0⟩ : ∃ x0, x0 = (ly2 gen l q).getD p 0 := ⟨_, rfl⟩
          have c0 := B2.cellb (k := p) (by rw [ly2_length (by rw [HL.out]; omega) (by rw [HL.out]; exact HN.out)]; have := HN.out; omega)
          rw [← hx0] at c0
          have f0 := B2.free p
          have HP := Lib.hid hp
          have HJ := Lib.hid hlt
          have E1 := Lib.hid B1
          have E2 := Lib.hid B2
          have EB := Lib.hid BB
          clear hp hx hx' hx0 hlt B1 B2 BB hq
          go_wp2_with fail
          go_roundw
          case rel => exact ⟨q + 1, HJ.out, by go_num, E1.out.other (by omega) _ _, (by rw [← ly2_step (by rw [HL.out]; exact HJ.out) (by rw [HL.out]; exact HN.out), ← HP.out, ← HX.out]; exact E2.out.setb p _ rfl), EB.out.setCell (by simp) _⟩
          case measure => (have := HJ.out; simp [intOf]; omega)
        · obtain rfl : q = n := by omega
          have E1 := Lib.hid B1
          have E2 := Lib.hid (show Blk wr (w.heap.size + 1) (bva (ly3 O r 0)) 38 from by rw [ly3_zero, ← HLA.out, HL.out]; exact B2)
          have EB := Lib.hid BB
          have EL := Lib.hid (show w.heap.size + 1 < wr.heap.size from B2.lt)
          clear B1 B2 BB hq hlt
          go_wp2_with (first
            | (refine wpList_build rfl 114 #[] rfl (v := .agg (bva key0)) ?hbld ?_; case hbld => exact HBK.out _)
            | (at_builtin; apply Classical.byContradiction; intro hneg))
          refine hneg ?_
          clear hneg
          obtain ⟨w6, hw6⟩ : ∃ w6, w6 = wr.alloc (.cells #[.int .u8 0, .int .u8 0, .int .u8 ((k : Int) / 256), .int .u8 ((k : Int) % 256)] 5) := ⟨_, rfl⟩
          rw [← hw6]
          have hb6 : Below wr.heap.size wr w6 := by rw [hw6]; exact (Below.refl _ _).alloc (Nat.le_refl _) _
          have hbv : bv (Wi.putL k 4) = [.int .u8 0, .int .u8 0, .int .u8 ((k : Int) / 256), .int .u8 ((k : Int) % 256)] := by
            rw [put4 HK.out]
            show [Value.int .u8 0, .int .u8 0, .int .u8 ((UInt8.ofNat (k / 256)).toNat : Int), .int .u8 ((UInt8.ofNat (k % 256)).toNat : Int)] = _
            rw [rbyte, UInt8.toNat_ofNat', Nat.mod_eq_of_lt (show k / 256 < 2 ^ 8 by have := HK.out; omega)]
            rfl
          have ho6 : w6.ownsRow wr.heap.size 5 1 (.slice (some ⟨wr.heap.size, 0, none⟩) 4 4) 4 (bv (Wi.putL k 4)) := by
            rw [hbv, hw6]; exact World.ownsRow_lit wr _ 4 (Nat.le_refl _) (by unfold maxLen; omega) rfl
          have O6 := Lib.hid ho6
          have F1 := Lib.hid (E1.out.below hb6)
          have F2 := Lib.hid (E2.out.below hb6)
          have FB := Lib.hid (EB.out.trans (hb6.mono EB.out.size))
          have HS6 := Lib.hid (show wr.heap.size ≤ w6.heap.size from hb6.size)
          clear hw6 hb6 hbv ho6 E1 E2 EB
          refine wpList_app _ rfl (.tmp 64) (.tmp 65) _ rfl Wi.bytesElt (base := wr.heap.size) (v := .slice (some ⟨wr.heap.size, 0, none⟩) 4 4) rfl O6.out (m := 112) rfl (rd_part F2.out 16) (by rw [bv_length, List.length_drop, ly3_length HO3.out HR3.out (by omega)]) (bv_one _) (by omega) HS6.out ?_
          intro A7 c7 w7 ho7 hg7 _
          rw [← bv_append, show (ly3 O r 0).drop 16 = r from by rw [ly3_zero, List.drop_append, List.drop_eq_nil_of_le (by simp)]; simp] at ho7
          have hb7 : Below wr.heap.size w6 w7 := app_below (Below.refl _ _) O6.out hg7 (Nat.le_refl _) HS6.out
          have hl1 : w.heap.size + 1 < wr.heap.size := by have := EL.out; omega
          have G1 := Lib.hid (blk_lt F1.out hb7 (by omega))
          have G2 := Lib.hid (blk_lt F2.out hb7 (by omega))
          have GB := Lib.hid (FB.out.trans (hb7.mono (by omega)))
          have O7 := Lib.hid ho7
          clear ho7 hg7 hb7 hl1 F1 F2 FB O6
          go_wp2_with fail
          refine (litsum_any key0 key0_length A7 (4 + 112) c7 _ w7 (by have := own_blen O7.out; exact this) (by unfold maxLen; omega) (Rd.own O7.out)).mono ?_
          rintro e w8 ⟨rfl, bw⟩
          rw [← HO.out]
          have H1 := Lib.hid (G1.out.below bw)
          have H2 := Lib.hid (G2.out.below bw)
          have HB := Lib.hid (GB.out.trans (bw.mono GB.out.size))
          have hl8 : w.heap.size + 1 < w8.heap.size := H2.out.lt
          clear bw G1 G2 GB O7
          go_wp2_with (show wpList _ _ _ ({ dst := none, op := .store 200 (.tmp 12) (.tmp 67), type := _, pos := _, after := _, guard := _ } :: _) _ _; apply Classical.byContradiction; intro hneg)
          refine hneg ?_
          clear hneg
          refine wpList_store_row rfl 200 (.tmp 12) (.tmp 67) rfl w8.heap.size (bva O) rfl rfl 200 (bva y) (heap_alloc_new _ _) HIO.out (by rw [bva_size, bva_size, HO3.out, HY3.out]) (bva_one _) ?_
          obtain ⟨w9, hw9⟩ : ∃ w9, w9 = (w8.alloc (.cells (bva y) 200)).setRow w8.heap.size (bva O) := ⟨_, rfl⟩
          rw [← hw9]
          obtain ⟨g9, hg9⟩ : ∃ g9, g9 = w8.heap.size := ⟨_, rfl⟩
          have I1 := Lib.hid (show Blk w9 w.heap.size (bva z) 38 from by rw [hw9]; exact blk_past H1.out)
          have I2 := Lib.hid (show Blk w9 (w.heap.size + 1) (bva (ly3 O r 0)) 38 from by rw [hw9]; exact blk_past H2.out)
          have I3 := Lib.hid (show Blk w9 g9 (bva O) 200 from by rw [hw9, hg9]; exact blk_new _)
          have IB := Lib.hid (show Below w.heap.size w w9 from by rw [hw9]; exact below_new HB.out HB.out.size)
          rw [← hg9]
          rw [← hg9] at hl8
          have HL8 := Lib.hid hl8
          clear hw9 hg9 H1 H2 HB hl8
          go_wp2_with fail
          go_loopw [13] (fun i wr => ∃ q : Nat, q ≤ 16 ∧ i = .int .i64 q ∧ Blk wr w.heap.size (bva z) 38 ∧ Blk wr (w.heap.size + 1) (bva (ly3 O r q)) 38 ∧ Blk wr g9 (bva O) 200 ∧ Below w.heap.size w wr) (fun i _ => 16 - (intOf i).toNat)
          case atStart => exact ⟨0, Nat.zero_le _, rfl, I1.out, I2.out, I3.out, IB.out⟩
          case round =>
            clear I1 I2 I3 IB
            obtain ⟨q, hq, rfl, B1, B2, B3, BB⟩ := hrel
            by_cases hlt : q < 16
            · have k0 : (0 : Int) ≤ (q : Int) := by omega
              have k1 : (q : Int) < 128 := by omega
              have k2 : (q : Int) < 16 := by omega
              obtain ⟨x, hx⟩ : ∃ x, x = O.getD q 0 := ⟨_, rfl⟩
              have c1 := B3.cellb (k := q) (by rw [HO3.out]; omega)
              rw [← hx] at c1
              obtain ⟨x0, hx0⟩ : ∃ x0, x0 = (ly3 O r q).getD q 0 := ⟨_, rfl⟩
              have c0 := B2.cellb (k := q) (by rw [ly3_length HO3.out HR3.out (by omega)]; omega)
              rw [← hx0] at c0
              have f0 := B2.free q
              have HX := Lib.hid hx
              have E1 := Lib.hid B1
              have E2 := Lib.hid B2
              have E3 := Lib.hid B3
              have EB := Lib.hid BB
              clear hx hx0 B1 B2 B3 BB
              go_wp2_with fail
              go_roundw
              case rel => exact ⟨q + 1, by omega, by go_num, E1.out.other (by omega) _ _, (by rw [← ly3_step HO3.out (by omega), ← HX.out]; exact E2.out.setb q _ rfl), E3.out.other (by have := HL8.out; omega) _ _, EB.out.setCell (by simp) _⟩
              case measure => (simp [intOf]; omega)
            · obtain rfl : q = 16 := by omega
              rw [ly3_all HO3.out, ← HRR.out] at B2
              have E1 := Lib.hid B1
              have E2 := Lib.hid B2
              have EB := Lib.hid BB
              clear B1 B2 B3 BB
              go_wp2_with (first
                | (refine wpList_load_row rfl 38 (.tmp 8) rfl (w.heap.size + 1) rfl 38 (bva R) (0, 0) _ E2.out Try.underlying38 rfl HIR.out ?_)
                | (refine wpList_store_row rfl 38 (.tmp 6) (.tmp 77) rfl w.heap.size (bva R) rfl rfl 38 (bva z) E1.out HIR.out (by rw [bva_size, bva_size, HR4.out, HZ3.out]) (bva_one _) ?_))
              exact bodyPost_ret (v := .tuple #[.agg (bva R), .bool true]) (results_ct8 Try.results104 _ _ w.heap.size 38 (bva R) _ rfl (setRow_heap _ _ _ _ _ _ E1.out) Try.underlying38 rfl HIR.out) rfl ⟨rfl, below_setRow EB.out (Nat.le_refl _) _⟩
theorem rpack_any (a : Int) (gen : Nat) (hg : gen < 18446744073709551616) (A : Option Addr) (n c : Nat) (l : List UInt8) (w : World) (hl : l.length = n) (hr : Rd w.heap.size w A (bv l)) :
    Calls Try.prog 104 #[.int .i64 a, .int .u64 gen, .slice A n c] w (RetB (.tuple #[.agg (bva (packS litSumL a gen l)), .bool (mayS a l)]) w) := by
  by_cases h : 0 ≤ a ∧ a < 4096 ∧ l.length ≤ 103
  · obtain ⟨k, rfl⟩ := Int.eq_ofNat_of_zero_le h.1
    have hm : mayS (k : Int) l = true := decide_eq_true h
    rw [packS, hm, if_pos rfl]
    exact rpack_yes k (by omega) gen hg A n c l w hl (by omega) hr
  · have hm : mayS a l = false := decide_eq_false h
    rw [packS, hm, if_neg (by simp)]
    by_cases h0 : 0 ≤ a
    · by_cases h1 : a < 4096
      · exact rpack_no2 a gen A n c w h0 (by omega) (by omega)
      · exact rpack_no1 a gen A n c w h0 (by omega)
    · exact rpack_no0 a gen A n c w (by omega)
end Go.Proofs.Ytnplhagfmfggcaa.Sx
/-
  string(b) of a row of bytes, nil let in.
-/
namespace Go.Proofs.Ytnplhagfmfggcaa
open Go.RowKit
theorem conv_rd {P : Program} {w : World} {src dst e : TypeId} {B n c : Nat} {A : Option Addr} {l : List UInt8} (hs : P.underlying src = some (.slice e)) (he : P.underlying e = some (.int .u8)) (hd : P.underlying dst = some .string)
    (h : Rd B w A (bv l)) (hn : l.length = n) : (convert src dst (.slice A n c)).run P w = .ok (.string ⟨l.toArray⟩) w := by
  subst hn
  cases A with
  | some ad => exact run_convert_bytes_back w src dst e ad c l hs he hd (fun j hj => by
      obtain ⟨ad', e', _, hc⟩ := h.at_ hj
      injection e' with e'
      subst e'
      exact hc)
  | none =>
    have hl : l = [] := by
      cases l with
      | nil => rfl
      | cons b t => obtain ⟨_, h', _⟩ := h 0 _ rfl; cases h'
    subst hl
    show (convert src dst (.slice none 0 c)).run P w = _
    rw [run_convert_bytes_string w src dst e none 0 c hs he hd]
    trace_state
    rfl
end Go.Proofs.Ytnplhagfmfggcaa
/-
  The document's answer for supers: the bytes, the sector. The document's example.
-/
namespace Go.Proofs.Ytnplhagfmfggcaa.Su
open Go.RowKit Kd Sx
attribute [local go_sem ↓] Go.wp_at_zero Go.wp_at_succ
set_option maxRecDepth 100000 in
set_option maxHeartbeats 1600000 in
theorem venc_any (s : Sp) (hs : s.ok) (hok : okP s = true) (w : World) : Calls Try.prog 47 #[.int .u64 (s.v : Int), .int .i64 s.n, .int .u64 (s.t : Int)] w (RetRow 5 (bv (encP s)) w) := by
  have h := of_decide_eq_true hok
  have n0 : 0 ≤ s.n := h.1
  have n1 : s.n < 18446744073709551616 := by omega
  have v1 : s.v < 18446744073709551616 := hs.1
  have t1 : s.t < 18446744073709551616 := hs.2.2
  have wn : IntKind.u64.wrap s.n = s.n := IntWalk.u64_in _ (by omega)
  have p1 := Lib.hid (fun W => rput_in (s.v : Int) 8 W (by omega) (by omega) (by omega) (by omega))
  have p2 := Lib.hid (fun W => rput_in s.n 4 W (by omega) (by omega) (by omega) (by omega))
  have p3 := Lib.hid (fun W => rput_in (s.t : Int) 2 W (by omega) (by omega) (by omega) (by omega))
  clear h hs n1 v1 t1
  go_enter Try.func47, Try.ntmps47
  go_wp2_with fail
  refine (p1.out w).mono ?_
  rintro e w1 ⟨A1, m1, c1, rfl, o1, b1⟩
  have O1 := Lib.hid o1
  have B1 := Lib.hid b1
  have l1 := own_blen o1
  rw [putL_length] at l1
  have L1 := Lib.hid l1
  clear o1 b1 l1
  go_wp2_with fail
  refine (p2.out w1).mono ?_
  rintro e w2 ⟨A2, m2, c2, rfl, o2, b2⟩
  have l2 := own_blen o2
  rw [putL_length] at l2
  have O2 := Lib.hid (own_more o2 B1.out.size)
  have P1 := Lib.hid (own_below O1.out b2)
  have B2 := Lib.hid (B1.out.trans (b2.mono B1.out.size))
  have L2 := Lib.hid l2
  clear o2 b2 l2 O1 B1
  go_wp2_with (refine wpList_app _ rfl (.tmp 8) (.tmp 11) 81 rfl bytesElt (base := w.heap.size) (v := .slice A1 m1 c1) (n := m1) rfl P1.out (m := m2) rfl (Rd.own O2.out) (own_len O2.out) (bv_one _) (by have h1 := L1.out; have h2 := L2.out; simp at h1 h2; omega) B2.out.size ?_)
  intro A3 c3 w3 ho hg _
  have OA := Lib.hid ho
  have B3 := Lib.hid (app_below B2.out P1.out hg (Nat.le_refl _) B2.out.size)
  clear ho hg P1 O2 B2
  have L3 := Lib.hid (show m1 + m2 = 12 by have h1 := L1.out; have h2 := L2.out; simp at h1 h2; omega)
  go_wp2_with fail
  refine (p3.out w3).mono ?_
  rintro e w4 ⟨A4, m4, c4, rfl, o4, b4⟩
  have l4 := own_blen o4
  rw [putL_length] at l4
  have O4 := Lib.hid (own_more o4 B3.out.size)
  have P4 := Lib.hid (own_below OA.out b4)
  have B4 := Lib.hid (B3.out.trans (b4.mono B3.out.size))
  have L4 := Lib.hid l4
  clear o4 b4 l4 OA B3
  go_wp2_with (refine wpList_app _ rfl (.tmp 12) (.tmp 14) 81 rfl bytesElt (base := w.heap.size) (v := .slice A3 (m1 + m2) c3) (n := m1 + m2) rfl P4.out (m := m4) rfl (Rd.own O4.out) (own_len O4.out) (bv_one _) (by have h1 := L3.out; have h2 := L4.out; simp at h2; omega) B4.out.size ?_)
  intro A5 c5 w5 ho hg _
  have OA := Lib.hid ho
  have B5 := Lib.hid (app_below B4.out P4.out hg (Nat.le_refl _) B4.out.size)
  have HE := Lib.hid (show bv (putL (s.v : Int).toNat (8 : Int).toNat) ++ bv (putL s.n.toNat (4 : Int).toNat) ++ bv (putL (s.t : Int).toNat (2 : Int).toNat) = bv (encP s) by
    rw [encP]; simp [bv, putL_wi])
  clear ho hg P4 O4 B4
  go_wp2_with fail
  go_ret
  exact RetRow.mk rfl (HE.out ▸ OA.out) B5.out
set_option maxRecDepth 100000 in
set_option maxHeartbeats 1600000 in
theorem vsec_any (s : Sp) (hs : s.ok) (hok : okP s = true) (w : World) : Calls Try.prog 52 #[.int .u64 (s.v : Int), .int .i64 s.n, .int .u64 (s.t : Int)] w (RetB (.agg (bva (secP litSumL s))) w) := by
  have HEN := Lib.hid (fun W => venc_any s hs hok W)
  have hv : s.v < 18446744073709551616 := hs.1
  have HPK := Lib.hid (fun W A n c (hR : Rd W.heap.size W A (bv (encP s))) (hl : (encP s).length = n) => show Calls Try.prog 104 #[.int .i64 (placeP s : Int), .int .u64 (s.v : Int), .slice A n c] W (RetB (.tuple #[.agg (bva (secP litSumL s)), .bool true]) W) by
    have hc := rpack_any (placeP s : Int) s.v hv A n c (encP s) W hl hR
    rw [packS, may_enc, if_pos rfl] at hc
    exact hc)
  obtain ⟨y, hy⟩ : ∃ y, y = secP litSumL s := ⟨_, rfl⟩
  have HY3 := Lib.hid (show y.length = 128 by rw [hy]; exact secP_length litSumL_length s)
  rw [← hy] at HPK
  rw [← hy]
  obtain ⟨z, hz0⟩ : ∃ z : List UInt8, z = zeroS := ⟨_, rfl⟩
  have hz : ∀ W, (zeroValue 38).run Try.prog W = .ok (.agg (bva z)) W := fun _ => by rw [hz0]; kernel_rfl
  have HZ3 := Lib.hid (show z.length = 128 by rw [hz0]; exact zeroS_length)
  have HIY := Lib.hid (show (Try.prog.info? 38).map (·.size) = some (bva y).size by rw [bva_size, HY3.out]; exact info_sec)
  have e1 : IntKind.i64.wrap ((s.v : Int) % 2) = (placeP s : Int) := by rw [show (s.v : Int) % 2 = (placeP s : Int) from rfl]; exact IntWalk.i64_in _ (by unfold placeP; omega)
  have e2 : (s.v : Int) % 2 = (placeP s : Int) := rfl
  clear hz0 hy hv hs hok
  go_enter Try.func52, Try.ntmps52
  go_wp2_with fail
  obtain ⟨w1, hw1⟩ : ∃ W, W = w.alloc (.cells (bva z) 38) := ⟨_, rfl⟩
  have X1 := Lib.hid (show Blk w1 w.heap.size (bva z) 38 by rw [hw1]; exact heap_alloc_new _ _)
  have B1 := Lib.hid (show Below w.heap.size w w1 by rw [hw1]; exact (Below.refl _ _).alloc (Nat.le_refl _) _)
  rw [← hw1]
  clear hw1
  refine (HEN.out w1).mono ?_
  rintro e w2 ⟨A, n, c, rfl, ho, bw⟩
  have X2 := Lib.hid (X1.out.below bw)
  have B2 := Lib.hid (B1.out.trans (bw.mono B1.out.size))
  have OE := Lib.hid ho
  clear ho bw X1 B1 HEN
  go_wp2_with fail
  refine (HPK.out w2 A n c (Rd.own OE.out) (own_blen OE.out)).mono ?_
  rintro e w3 ⟨rfl, bw⟩
  have X3 := Lib.hid (X2.out.below bw)
  have B3 := Lib.hid (B2.out.trans (bw.mono B2.out.size))
  clear bw X2 B2 OE HPK
  go_wp2_with (show wpList _ _ _ ({ dst := none, op := .store 38 (.tmp 7) (.tmp 19), type := _, pos := _, after := _, guard := _ } :: _) _ _; apply Classical.byContradiction; intro hneg)
  refine hneg ?_
  clear hneg
  refine wpList_store_row rfl 38 (.tmp 7) (.tmp 19) rfl w3.heap.size (bva y) rfl rfl 38 (bva z) (heap_alloc_new _ _) HIY.out (by rw [bva_size, bva_size, HY3.out, HZ3.out]) (bva_one _) ?_
  obtain ⟨w5, hw5⟩ : ∃ W, W = (w3.alloc (.cells (bva z) 38)).setRow w3.heap.size (bva y) := ⟨_, rfl⟩
  have bw : Below w3.heap.size w3 w5 := by rw [hw5]; exact below_setRow ((Below.refl _ _).alloc (Nat.le_refl _) _) (Nat.le_refl _) _
  have Y5 := Lib.hid (show Blk w5 w3.heap.size (bva y) 38 by rw [hw5]; exact setRow_heap _ _ _ _ _ _ (heap_alloc_new _ _))
  have X5 := Lib.hid (X3.out.below bw)
  have B5 := Lib.hid (B3.out.trans (bw.mono B3.out.size))
  rw [← hw5]
  obtain ⟨b7, hb7⟩ : ∃ b, b = w3.heap.size := ⟨_, rfl⟩
  rw [← hb7] at Y5
  rw [← hb7]
  clear hw5 bw X3 B3 hb7
  go_wp2_with first | (refine wpList_load_row rfl 38 (.tmp 7) rfl b7 rfl 38 (bva y) (0, 0) _ Y5.out Try.underlying38 rfl HIY.out ?_) | (refine wpList_store_row rfl 38 (.tmp 6) (.tmp 21) rfl w.heap.size (bva y) rfl rfl 38 (bva z) X5.out HIY.out (by rw [bva_size, bva_size, HY3.out, HZ3.out]) (bva_one _) ?_)
  exact bodyPost_ret (v := .agg (bva y)) (results_cell_row Try.results52 _ _ w.heap.size 38 (bva y) (0, 0) _ rfl (setRow_heap _ _ _ _ _ _ X5.out) Try.underlying38 rfl HIY.out) rfl ⟨rfl, below_setRow B5.out (Nat.le_refl _) _⟩
/-- The bytes of the document's example. -/
def exB : ByteArray := ⟨#[0, 0, 0, 0, 0, 0, 0, 3, 0, 0, 0, 7, 0, 32]⟩
theorem ex_bytes : (encP ⟨3, 7, 32⟩).toArray = #[0, 0, 0, 0, 0, 0, 0, 3, 0, 0, 0, 7, 0, 32] := by decide +kernel
set_option maxRecDepth 100000 in
theorem awake_any (w : World) : Calls Try.prog 44 #[] w (RetB (.bool true) w) := by
  have HE := Lib.hid (uenc_any ⟨3, 7, 32⟩ ⟨by decide, by decide, by decide⟩ w)
  unfold spA at HE
  go_enter Try.func44, Try.ntmps44
  go_wp2_with fail
  refine HE.out.mono ?_
  rintro e w2 ⟨A, n, c, rfl, ho, bw⟩
  have e1 : bytP ⟨3, 7, 32⟩ = encP ⟨3, 7, 32⟩ := by rw [bytP, if_pos (by decide)]
  rw [e1] at ho
  have kc := conv_rd (c := c) Try.underlying81 Try.underlying5 Try.underlying9 (Rd.own ho) (own_blen ho)
  rw [ex_bytes] at kc
  have BW := Lib.hid bw
  clear HE ho bw e1
  go_wp2_with fail
  go_ret
  exact ⟨rfl, BW.out⟩
end Go.Proofs.Ytnplhagfmfggcaa.Su
/-
  Noughts are no sealed sector of a small place, under the little sum.
-/
namespace Go.Proofs.Ytnplhagfmfggcaa.Lo
open Go.RowKit Kd Sx
def zeroB (k : Nat) : Bool := decide (sealedS litSumL (k : Int) (genS zeroS) (bodyS zeroS) = zeroS)
theorem zero_all : (List.range 26).all (fun k => !zeroB k) = true := by decide +kernel
theorem zero_no {k : Nat} (hk : k < 26) : okS litSumL (k : Int) zeroS = false := by
  have h := List.all_eq_true.1 zero_all k (List.mem_range.2 hk)
  have h2 : zeroB k = false := by simpa using h
  rw [okS]
  rw [show decide (sealedS litSumL (k : Int) (genS zeroS) (bodyS zeroS) = zeroS) = false from h2, Bool.and_false, Bool.and_false]
end Go.Proofs.Ytnplhagfmfggcaa.Lo
/-
  Supers over a mirror of two devices, in the laws: what stands, what is read, what each call makes.
-/
namespace Go.Proofs.Ytnplhagfmfggcaa.Su
open Go.RowKit Kd Mi Sx
attribute [local go_sem ↓] Go.wp_at_zero Go.wp_at_succ
section
variable {f : List UInt8 → List UInt8 → List UInt8}
/-- What some sectors of a place come to: no super, or this one. -/
def rowD (f : List UInt8 → List UInt8 → List UInt8) (a : Nat) (d : Option Sp) (l : List (List UInt8)) : Prop :=
  match d with
  | none => ∀ y ∈ l, isS f a y = false
  | some s => secP f s ∈ l ∧ (okP s = true ∧ s.v < 18446744073709551616 ∧ placeP s = a) ∧ ∀ y ∈ l, y = secP f s ∨ isS f a y = false
def takeD (st : Sp × Bool) (d : Option Sp) : Sp × Bool :=
  match d with
  | none => st
  | some s => if !st.2 || decide (st.1.v < s.v) then (s, true) else st
theorem takeD_idem (st : Sp × Bool) (s : Sp) : takeD (takeD st (some s)) (some s) = takeD st (some s) := by
  show (if _ then _ else _) = _
  by_cases h : (!st.2 || decide (st.1.v < s.v)) = true
  · have e : takeD st (some s) = (s, true) := if_pos h
    rw [e]; simp
  · have e : takeD st (some s) = st := if_neg h
    rw [e, if_neg h]
theorem better_sec (hf : ∀ k l, (f k l).length = 16) {a : Nat} {s : Sp} (h : okP s = true ∧ s.v < 18446744073709551616 ∧ placeP s = a) (st : Sp × Bool) : betterP f a st (secP f s) = takeD st (some s) := by
  obtain ⟨h1, h2, rfl⟩ := h
  rw [betterP, is_sec hf h1 h2, open_sec hf h1 h2, Bool.true_and]; rfl
theorem fold_rowD (hf : ∀ k l, (f k l).length = 16) {a : Nat} {d : Option Sp} {l : List (List UInt8)} (h : rowD f a d l) (st : Sp × Bool) : l.foldl (betterP f a) st = takeD st d := by
  cases d with
  | none =>
    show _ = st
    have go : ∀ l : List (List UInt8), (∀ y ∈ l, isS f a y = false) → l.foldl (betterP f a) st = st := by
      intro l
      induction l with
      | nil => exact fun _ => rfl
      | cons y l ih =>
        intro h
        rw [List.foldl_cons, better_not (h y (List.mem_cons_self ..))]
        exact ih fun z hz => h z (List.mem_cons_of_mem _ hz)
    exact go l h
  | some s =>
    obtain ⟨h1, h2, h3⟩ := h
    have stay : ∀ l : List (List UInt8), (∀ y ∈ l, y = secP f s ∨ isS f a y = false) → l.foldl (betterP f a) (takeD st (some s)) = takeD st (some s) := by
      intro l
      induction l with
      | nil => exact fun _ => rfl
      | cons y l ih =>
        intro h
        rw [List.foldl_cons]
        have e : betterP f a (takeD st (some s)) y = takeD st (some s) := by
          rcases h y (List.mem_cons_self ..) with rfl | h4
          · rw [better_sec hf h2, takeD_idem]
          · exact better_not h4 _
        rw [e]
        exact ih fun z hz => h z (List.mem_cons_of_mem _ hz)
    have go : ∀ l : List (List UInt8), (∀ y ∈ l, y = secP f s ∨ isS f a y = false) → secP f s ∈ l → l.foldl (betterP f a) st = takeD st (some s) := by
      intro l
      induction l with
      | nil => intro _ h; cases h
      | cons y l ih =>
        intro h hm
        rw [List.foldl_cons]
        rcases h y (List.mem_cons_self ..) with rfl | h4
        · rw [better_sec hf h2]
          exact stay l fun z hz => h z (List.mem_cons_of_mem _ hz)
        · rw [better_not h4]
          rcases List.mem_cons.1 hm with h5 | h5
          · exfalso
            obtain ⟨g1, g2, g3⟩ := h2
            have h6 := is_sec hf g1 g2
            rw [g3, h5, h4] at h6
            cases h6
          · exact ih (fun z hz => h z (List.mem_cons_of_mem _ hz)) h5
    exact go l h3 h1
theorem newest_rows (hf : ∀ k l, (f k l).length = 16) {d0 d1 : Option Sp} {l0 l1 : List (List UInt8)} (h0 : rowD f 0 d0 l0) (h1 : rowD f 1 d1 l1) : newestP f l0 l1 = takeD (takeD (zeroP, false) d0) d1 := by
  rw [newestP, fold_rowD hf h0, fold_rowD hf h1]
/-- One place of two devices. -/
def rowOf (g : List UInt8 → Bool) (c0 c1 : Bool) (u v : List UInt8) : List (List UInt8) := (if c0 && g u then [u] else []) ++ (if c1 && g v then [v] else [])
theorem row_none {a : Nat} {g : List UInt8 → Bool} {c0 c1 : Bool} {u v : List UInt8} (h0 : c0 = false ∨ g u = false ∨ isS f a u = false) (h1 : c1 = false ∨ g v = false ∨ isS f a v = false) : rowD f a none (rowOf g c0 c1 u v) := by
  intro y hy
  rw [rowOf, List.mem_append] at hy
  rcases hy with hy | hy
  · split at hy
    · rename_i h
      rw [List.mem_singleton] at hy
      rw [Bool.and_eq_true] at h
      rcases h0 with h0 | h0 | h0
      · rw [h0] at h; cases h.1
      · rw [h0] at h; cases h.2
      · rw [hy]; exact h0
    · cases hy
  · split at hy
    · rename_i h
      rw [List.mem_singleton] at hy
      rw [Bool.and_eq_true] at h
      rcases h1 with h1 | h1 | h1
      · rw [h1] at h; cases h.1
      · rw [h1] at h; cases h.2
      · rw [hy]; exact h1
    · cases hy
theorem row_some {a : Nat} {g : List UInt8 → Bool} {c0 c1 : Bool} {u v : List UInt8} {s : Sp} (hs : okP s = true ∧ s.v < 18446744073709551616 ∧ placeP s = a) (hg : g (secP f s) = true)
    (h : (c0 = true ∧ u = secP f s) ∨ (c1 = true ∧ v = secP f s)) (h0 : c0 = false ∨ g u = false ∨ u = secP f s) (h1 : c1 = false ∨ g v = false ∨ v = secP f s) : rowD f a (some s) (rowOf g c0 c1 u v) := by
  refine ⟨?_, hs, ?_⟩
  · rw [rowOf, List.mem_append]
    rcases h with ⟨h2, h3⟩ | ⟨h2, h3⟩
    · left; rw [h2, h3, hg]; exact List.mem_singleton.2 rfl
    · right; rw [h2, h3, hg]; exact List.mem_singleton.2 rfl
  · intro y hy
    rw [rowOf, List.mem_append] at hy
    rcases hy with hy | hy
    · split at hy
      · rename_i h
        rw [List.mem_singleton] at hy
        rw [Bool.and_eq_true] at h
        rcases h0 with h0 | h0 | h0
        · rw [h0] at h; cases h.1
        · rw [h0] at h; cases h.2
        · rw [hy]; exact .inl h0
      · cases hy
    · split at hy
      · rename_i h
        rw [List.mem_singleton] at hy
        rw [Bool.and_eq_true] at h
        rcases h1 with h1 | h1 | h1
        · rw [h1] at h; cases h.1
        · rw [h1] at h; cases h.2
        · rw [hy]; exact .inl h1
      · cases hy
end
theorem both_at {g : Int → List UInt8 → Bool} {x : Md} {k : Nat} (hk : k < x.a.length) : x.both g (k : Int) = rowOf (g (k : Int)) (!x.o0) (!x.o1) (x.l0.getD k zeroS) (x.l1.getD k zeroS) := by
  rw [Md.both, show x.has (k : Int) = true by rw [Md.has]; simp; omega, if_pos rfl, Int.toNat_natCast]
  rfl
theorem len_sec (s : Sp) : (secP litSumL s).length = 128 := secP_length litSumL_length s
theorem place_lt (s : Sp) : placeP s < 2 := by unfold placeP; omega
theorem ok_sec {s : Sp} (_h : okP s = true) (hv : s.v < 18446744073709551616) : okS litSumL (placeP s : Int) (secP litSumL s) = true := ok_sealed litSumL_length (may_enc s) hv
theorem set_getD {L : List (List UInt8)} {i j : Nat} (hi : i < L.length) (y : List UInt8) : (L.set i y).getD j zeroS = if i = j then y else L.getD j zeroS := by
  rw [List.getD_eq_getElem?_getD, List.getElem?_set]
  by_cases h : i = j
  · subst h; rw [if_pos rfl, if_pos hi, if_pos rfl]; rfl
  · rw [if_neg h, if_neg h, List.getD_eq_getElem?_getD]
theorem zeros_getD (k : Nat) : zeros4.getD k zeroS = zeroS := by
  rw [zeros4, List.getD_eq_getElem?_getD, List.getElem?_replicate]; split <;> rfl
theorem start_write {L M : List (List UInt8)} {n j : Nat} (hj : j < n) (y : List UInt8) : (Sc.startM L M n).write j y = (0, Sc.startM (L.set j y) (M.set j y) n) := by
  have hh : (Sc.startM L M n).has (j : Int) = true := by rw [Md.has, Sc.start_len]; simp; omega
  have hr : (List.replicate n false).set j false = List.replicate n false := by
    apply List.ext_getElem
    · simp
    · intro i h1 h2
      rw [List.getElem_set]
      simp
  rw [Md.write, hh, if_pos rfl, if_neg (by show ¬ (false && false) = true; simp), Int.toNat_natCast]
  show ((0 : Int), (⟨L.set j y, M.set j y, false, false, (List.replicate n false).set j false, (List.replicate n false).set j false⟩ : Md)) = _
  rw [hr]; rfl
section
variable {p g1 g2 g bx : Nat} {G : Gd} {w0 w : World} {s : Mr (Mu.one p g1 g2)} {F : Nat → Prop} {x : Md} {m : Nat}
/-- A super that may be is written to both. -/
theorem su_write {L M : List (List UInt8)} (h : Mu.LM p g1 g2 G g w0 w s F (Sc.startM L M 4) m) (t : Sp) (ht : t.ok) (hok : okP t = true) (hm : m < 900000) :
    Calls Try.prog 51 #[.pointer (some ⟨g, 0, none⟩), litS.v, spA t] w (Mu.RetM (.int .i64 0) p g1 g2 G g w0 (Sc.startM (L.set (placeP t) (secP litSumL t)) (M.set (placeP t) (secP litSumL t)) 4) 0 F w) := by
  have hc := uwrite_any h litS t ht hm
  have e : (Sc.startM L M 4).write (placeP t : Int) (secP litS.f t) = (0, Sc.startM (L.set (placeP t) (secP litSumL t)) (M.set (placeP t) (secP litSumL t)) 4) := start_write (by have := place_lt t; omega) _
  rw [wrP, wrM, if_pos hok, if_pos hok, e] at hc
  exact hc
theorem su_write_no (h : Mu.LM p g1 g2 G g w0 w s F x m) (t : Sp) (ht : t.ok) (hok : okP t = false) (hm : m < 900000) :
    Calls Try.prog 51 #[.pointer (some ⟨g, 0, none⟩), litS.v, spA t] w (Mu.RetM (.int .i64 3) p g1 g2 G g w0 x m F w) := by
  have hc := uwrite_any h litS t ht hm
  rw [wrP, wrM, hok] at hc
  exact hc
/-- Read tells what both places come to. -/
theorem su_read {d0 d1 : Option Sp} {_e : Int} (h : Mu.LM p g1 g2 (gdS litS bx) g w0 w s F x m) (h0 : rowD litSumL 0 d0 (x.both (gdS litS bx).f 0)) (h1 : rowD litSumL 1 d1 (x.both (gdS litS bx).f 1)) (r : Sp × Int)
    (hr : r = if (takeD (takeD (zeroP, false) d0) d1).2 then ((takeD (takeD (zeroP, false) d0) d1).1, 0) else (zeroP, if (x.read (gdS litS bx).f 0).2 = 13 then 13 else 4)) :
    Calls Try.prog 53 #[.pointer (some ⟨g, 0, none⟩), litS.v] w (Mu.RetM (.tuple #[spA r.1, .int .i64 r.2]) p g1 g2 (gdS litS bx) g w0 x m F w) := by
  have hc := uread_any h litS
  have e2 : readP litS.f (gdS litS bx) x = r := by
    rw [hr, readP, show newestP litS.f (x.both (gdS litS bx).f 0) (x.both (gdS litS bx).f 1) = _ from newest_rows litSumL_length h0 h1]
  rw [e2] at hc
  exact hc
/-- A device's dump, beneath a mirror of which nothing waits. -/
theorem su_dump0 (h : Mu.LM p g1 g2 G g w0 w s F x 0) : Calls Try.prog 23 #[.pointer (some ⟨g1, 0, none⟩)] w (fun e w' => ∃ A c, e = .returned (.slice A x.a.length c) ∧ w'.ownsRow w.heap.size 38 128 (.slice A x.a.length c) x.a.length (svs x.l0) ∧ (∀ y ∈ x.l0, y.length = 128) ∧ Below w.heap.size w w') := by
  obtain ⟨F1, h1, h2, _⟩ := Mu.ml_sys h.live.at_
  refine (dump_sys h1 0 (by rw [h2]; omega)).mono ?_
  rintro e w' ⟨A, n, c, rfl, ho, hb⟩
  have hst : (s.d.at 0).st = x.l0 := h.sees.d0.stable
  have hok := (h1.ok (k := 0) (by rw [h2]; omega)).st
  rw [hst] at ho hok
  have hn : x.a.length = n := by have h3 := ho.1; rw [svs_length hok] at h3; have := h.sees.n0; omega
  rw [hn]
  exact ⟨A, c, rfl, ho, hok, hb⟩
theorem su_dump1 (h : Mu.LM p g1 g2 G g w0 w s F x 0) : Calls Try.prog 23 #[.pointer (some ⟨g2, 0, none⟩)] w (fun e w' => ∃ A c, e = .returned (.slice A x.a.length c) ∧ w'.ownsRow w.heap.size 38 128 (.slice A x.a.length c) x.a.length (svs x.l1) ∧ (∀ y ∈ x.l1, y.length = 128) ∧ Below w.heap.size w w') := by
  obtain ⟨F1, h1, h2, _⟩ := Mu.ml_sys h.live.at_
  refine (dump_sys h1 1 (by rw [h2]; omega)).mono ?_
  rintro e w' ⟨A, n, c, rfl, ho, hb⟩
  have hst : (s.d.at 1).st = x.l1 := h.sees.d1.stable
  have hok := (h1.ok (k := 1) (by rw [h2]; omega)).st
  rw [hst] at ho hok
  have hn : x.a.length = n := by have h3 := ho.1; rw [svs_length hok] at h3; have := h.sees.n1; omega
  rw [hn]
  exact ⟨A, c, rfl, ho, hok, hb⟩
theorem su_wait0 (h : Mu.LM p g1 g2 G g w0 w s F x 0) : Calls Try.prog 21 #[.pointer (some ⟨g1, 0, none⟩)] w (RetB (.int .i64 0) w) := by
  obtain ⟨F1, h1, h2, _⟩ := Mu.ml_sys h.live.at_
  refine (waiting_sys h1 0 (by rw [h2]; omega)).mono ?_
  rintro e w' ⟨rfl, rfl⟩
  have e0 : (s.d.at 0).wt.length = 0 := Nat.le_zero.1 h.sees.d0.few
  rw [e0]
  exact ⟨rfl, Below.refl _ _⟩
theorem su_wait1 (h : Mu.LM p g1 g2 G g w0 w s F x 0) : Calls Try.prog 21 #[.pointer (some ⟨g2, 0, none⟩)] w (RetB (.int .i64 0) w) := by
  obtain ⟨F1, h1, h2, _⟩ := Mu.ml_sys h.live.at_
  refine (waiting_sys h1 1 (by rw [h2]; omega)).mono ?_
  rintro e w' ⟨rfl, rfl⟩
  have e0 : (s.d.at 1).wt.length = 0 := Nat.le_zero.1 h.sees.d1.few
  rw [e0]
  exact ⟨rfl, Below.refl _ _⟩
end
theorem uwrite_nilM (c : Value) (t : Sp) (w : World) : Calls Try.prog 51 #[.pointer none, c, spA t] w (RetB (.int .i64 1) w) := by
  have bb : Below w.heap.size w (w.alloc (.cells #[.int .u64 (t.v : Int), .int .i64 t.n, .int .u64 (t.t : Int)] 100)) := (Below.refl _ _).alloc (Nat.le_refl _) _
  have BB := Lib.hid bb
  clear bb
  unfold spA
  go_enter Try.func51, Try.ntmps51
  go_wp2_with fail
  go_ret
  exact ⟨rfl, BB.out⟩
theorem uwrite_nilC (g : Nat) (t : Sp) (w : World) : Calls Try.prog 51 #[.pointer (some ⟨g, 0, none⟩), .nilIface, spA t] w (RetB (.int .i64 1) w) := by
  have bb : Below w.heap.size w (w.alloc (.cells #[.int .u64 (t.v : Int), .int .i64 t.n, .int .u64 (t.t : Int)] 100)) := (Below.refl _ _).alloc (Nat.le_refl _) _
  have BB := Lib.hid bb
  clear bb
  unfold spA
  go_enter Try.func51, Try.ntmps51
  go_wp2_with fail
  go_ret
  exact ⟨rfl, BB.out⟩
theorem uread_nilM (c : Value) (w : World) : Calls Try.prog 53 #[.pointer none, c] w (RetB (.tuple #[spA zeroP, .int .i64 1]) w) := by
  have hz := zero_super
  go_enter Try.func53, Try.ntmps53
  go_wp2_with fail
  exact bodyPost_ret (v := .tuple #[spA zeroP, .int .i64 1]) (results_ct8 Try.results53 _ _ w.heap.size 100 #[.int .u64 0, .int .i64 0, .int .u64 0] _ rfl (heap_alloc_new _ _) super_under rfl super_info) rfl ⟨rfl, (Below.refl _ _).alloc (Nat.le_refl _) _⟩
theorem uread_nilC (g : Nat) (w : World) : Calls Try.prog 53 #[.pointer (some ⟨g, 0, none⟩), .nilIface] w (RetB (.tuple #[spA zeroP, .int .i64 1]) w) := by
  have hz := zero_super
  go_enter Try.func53, Try.ntmps53
  go_wp2_with fail
  exact bodyPost_ret (v := .tuple #[spA zeroP, .int .i64 1]) (results_ct8 Try.results53 _ _ w.heap.size 100 #[.int .u64 0, .int .i64 0, .int .u64 0] _ rfl (heap_alloc_new _ _) super_under rfl super_info) rfl ⟨rfl, (Below.refl _ _).alloc (Nat.le_refl _) _⟩
end Go.Proofs.Ytnplhagfmfggcaa.Su
