/-
  A power's devices, all new behind some world: what each operation makes of them.
-/
import Derived.Test.YtolbffcbamfbeaaKdPower
namespace Go.Proofs.Ytolbffcbamfbeaa.Kd
open Go.RowKit Go.Maps
attribute [local go_sem ↓] Go.wp_at_zero Go.wp_at_succ
/-- The devices S lie in blocks of F, none of which was there in the world w0, and all that was there is as it was. -/
structure Live (w0 w : World) (p : Nat) (gs : List Nat) (S : Sy) (F : Nat → Prop) : Prop where
  sys : Sys w p gs S F
  new : ∀ q, F q → w0.heap.size ≤ q
  bel : Below w0.heap.size w0 w
/-- It returns v; the devices are S now. -/
def RetL (v : Value) (w0 : World) (p : Nat) (gs : List Nat) (S : Sy) (F : Nat → Prop) (w : World) (e : Ending) (w' : World) : Prop :=
  e = .returned v ∧ ∃ F', Live w0 w' p gs S F' ∧ (∀ q, F' q → F q ∨ w.heap.size ≤ q) ∧ But F w w'
section
variable {w0 w w' : World} {p : Nat} {gs : List Nat} {S S' : Sy} {F F' : Nat → Prop} {v : Value} {e : Ending}
theorem Live.step (h : Live w0 w p gs S F) (hs : Sys w' p gs S' F') (h1 : ∀ q, F' q → F q ∨ w.heap.size ≤ q) (h2 : But F w w') : Live w0 w' p gs S' F' :=
  ⟨hs, fun q hq => by
    rcases h1 q hq with h3 | h3
    · exact h.new q h3
    · exact Nat.le_trans h.bel.size h3, h.bel.trans (h2.below (fun k hk hq => by have := h.new k hq; omega) h.bel.size)⟩
theorem Live.ret (h : Live w0 w p gs S F) (hr : RetS v p gs S' F w e w') : RetL v w0 p gs S' F w e w' := by
  obtain ⟨rfl, F', h0, h1, h2⟩ := hr
  exact ⟨rfl, F', h.step h0 h1 h2, h1, h2⟩
theorem Live.below (h : Live w0 w p gs S F) (hb : Below w.heap.size w w') : Live w0 w' p gs S F :=
  ⟨h.sys.below hb, h.new, h.bel.trans (hb.mono h.bel.size)⟩
theorem Live.lt (h : Live w0 w p gs S F) : ∀ q, F q → q < w.heap.size := h.sys.lt
theorem Live.drew (h : Live w0 w p gs S F) : Live w0 w.drew p gs S F := ⟨h.sys.but (T := fun _ => False) ((But.refl _).drew) (fun _ _ h => h), h.new, h.bel.drew⟩
theorem live_write (h : Live w0 w p gs S F) (k : Nat) (hk : k < S.ds.length) (i : Int) (s : List UInt8) (hs : s.length = 128) (hm : (S.at k).wt.length < 1000000) :
    Calls Try.prog 23 #[.pointer (some ⟨gs.getD k 0, 0, none⟩), .int .i64 i, .agg (bva s)] w (RetL (.int .i64 (S.write k i s).1) w0 p gs (S.write k i s).2 F w) :=
  (write_any h.sys k hk i s hs hm).mono fun _ _ hr => h.ret hr
theorem live_flush (h : Live w0 w p gs S F) (k : Nat) (hk : k < S.ds.length) :
    Calls Try.prog 25 #[.pointer (some ⟨gs.getD k 0, 0, none⟩)] w (RetL (.int .i64 (S.flush k).1) w0 p gs (S.flush k).2 F w) :=
  (flush_any h.sys k hk).mono fun _ _ hr => h.ret hr
theorem live_tear (h : Live w0 w p gs S F) (k : Nat) (hk : k < S.ds.length) (x y : Int) :
    Calls Try.prog 27 #[.pointer (some ⟨gs.getD k 0, 0, none⟩), .int .i64 x, .int .i64 y] w (RetL (.tuple #[]) w0 p gs (S.put k ((S.at k).tear x y)) F w) :=
  (tear_sys h.sys k hk x y).mono fun _ _ hr => h.ret hr
theorem live_lie (h : Live w0 w p gs S F) (k : Nat) (hk : k < S.ds.length) (on : Bool) :
    Calls Try.prog 30 #[.pointer (some ⟨gs.getD k 0, 0, none⟩), .bool on] w (RetL (.tuple #[]) w0 p gs (S.put k ((S.at k).lie on)) F w) :=
  (lie_sys h.sys k hk on).mono fun _ _ hr => h.ret hr
theorem live_out (h : Live w0 w p gs S F) (k : Nat) (hk : k < S.ds.length) (on : Bool) :
    Calls Try.prog 31 #[.pointer (some ⟨gs.getD k 0, 0, none⟩), .bool on] w (RetL (.tuple #[]) w0 p gs (S.put k ((S.at k).out on)) F w) :=
  (out_sys h.sys k hk on).mono fun _ _ hr => h.ret hr
theorem live_fail (h : Live w0 w p gs S F) (x : Int) (hx : x ≤ 9223372036854775807) :
    Calls Try.prog 28 #[.pointer (some ⟨p, 0, none⟩), .int .i64 x] w (RetL (.tuple #[]) w0 p gs (S.fail x) F w) :=
  (fail_sys h.sys x hx).mono fun _ _ hr => h.ret hr
theorem live_restart (h : Live w0 w p gs S F) : Calls Try.prog 29 #[.pointer (some ⟨p, 0, none⟩)] w (RetL (.tuple #[]) w0 p gs S.restart F w) :=
  (restart_sys h.sys).mono fun _ _ hr => h.ret hr
theorem live_power : Calls Try.prog 13 #[] w (fun e w' => ∃ p, e = .returned (.pointer (some ⟨p, 0, none⟩)) ∧ ∃ F, Live w w' p [] S0 F) :=
  newPower_sys.mono fun _ _ ⟨p, h0, F, h1, h2, h3⟩ => ⟨p, h0, F, h1, h2, h3⟩
theorem live_new (h : Live w0 w p gs S F) (hds : S.ds.length < 1000) (x : Int) :
    Calls Try.prog 14 #[.int .i64 x, .pointer (some ⟨p, 0, none⟩)] w (fun e w' => ∃ g, e = .returned (.pointer (some ⟨g, 0, none⟩)) ∧ ∃ F', Live w0 w' p (gs ++ [g]) (S.new x) F' ∧ (∀ q, F' q → F q ∨ w.heap.size ≤ q) ∧ But F w w') :=
  (new_some h.sys hds x).mono fun _ _ ⟨g, h0, F', h1, h2, h3⟩ => ⟨g, h0, F', ⟨h1, fun q hq => by
    rcases h2 q hq with h4 | h4
    · exact h.new q h4
    · exact Nat.le_trans h.bel.size h4, h.bel.trans (h3.below (fun k hk hq => by have := h.new k hq; omega) h.bel.size)⟩, h2, h3⟩
theorem live_new0 (x : Int) : Calls Try.prog 14 #[.int .i64 x, .pointer none] w (fun e w' => ∃ p g, e = .returned (.pointer (some ⟨g, 0, none⟩)) ∧ ∃ F, Live w w' p [g] (S0.new x) F) :=
  (new_nil x).mono fun _ _ ⟨p, g, h0, F, h1, h2, h3⟩ => ⟨p, g, h0, F, h1, h2, h3⟩
/-- A row of sectors that is none of the devices'. -/
def RowS (w : World) (F : Nat → Prop) (v : Value) (n : Nat) (l : List (List UInt8)) : Prop := w.ownsRow 0 38 128 v n (svs l) ∧ ∀ q, v.ownBlock = some q → ¬ F q
theorem RowS.step {n : Nat} {l : List (List UInt8)} (h : RowS w F v n l) (h1 : ∀ q, F' q → F q ∨ w.heap.size ≤ q) (h2 : But F w w') : RowS w' F' v n l :=
  ⟨Own.but h.1 h2 h.2, fun q hq hf => by
    rcases h1 q hf with h3 | h3
    · exact h.2 q hq h3
    · have := (h.1.lt q hq).2; omega⟩
theorem RowS.below {n : Nat} {l : List (List UInt8)} (h : RowS w F v n l) (hb : Below w.heap.size w w') : RowS w' F v n l := ⟨own_belowN h.1 hb, h.2⟩
theorem RowS.rd {n c : Nat} {A : Option Addr} {l : List (List UInt8)} (h : RowS w F (.slice A n c) n l) : Rd w.heap.size w A (svs l) := Rd.ownN h.1
/-- What is dumped. -/
theorem live_dump (h : Live w0 w p gs S F) (k : Nat) (hk : k < S.ds.length) :
    Calls Try.prog 22 #[.pointer (some ⟨gs.getD k 0, 0, none⟩)] w (fun e w' => ∃ A n c, e = .returned (.slice A n c) ∧ (S.at k).st.length = n ∧ RowS w' F (.slice A n c) n (S.at k).st ∧ Below w.heap.size w w') :=
  (dump_sys h.sys k hk).mono fun _ _ ⟨A, n, c, h0, h1, h2⟩ => by
    have hn : (S.at k).st.length = n := by have := h1.1; rw [svs_length (h.sys.ok hk).st] at this; omega
    exact ⟨A, n, c, h0, hn, ⟨⟨h1.1, h1.2.imp id (fun ⟨g, cap, cur, h3, _, h4⟩ => ⟨g, cap, cur, h3, Nat.zero_le _, h4⟩)⟩, fun q hq hf => by have := (h1.lt q hq).1; have := h.lt q hf; omega⟩, h2⟩
end
end Go.Proofs.Ytolbffcbamfbeaa.Kd
