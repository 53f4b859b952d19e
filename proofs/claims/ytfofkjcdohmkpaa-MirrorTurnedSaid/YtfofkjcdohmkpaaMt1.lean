/-
  Texts of this seat, one behind the other: MiTwoM, MiSectors.
-/
import Derived.OrdersHeld
import Derived.Deep.RegionHeld
import Derived.Test.YtfofkjcdohmkpaaMm4
/-
  Two mirrors of the same two devices, the one turned about, as long as nothing is written.
-/
namespace Go.Proofs.Ytfofkjcdohmkpaa.Mi
open Go.RowKit Kd
section
variable {p1 g1 p2 g2 g h0 : Nat} {w0 w w' : World} {Fd F : Nat → Prop} {A B A' B' : Option Addr} {n c m e n' c' m' e' : Nat}
theorem two_swap {d : (Two p1 g1 p2 g2).L.St} (h : (Two p1 g1 p2 g2).L.At w d F) : (Two p2 g2 p1 g1).L.At w (d.2, d.1) F := by
  obtain ⟨F1, F2, h1, h2, h3, h4, h5, h6⟩ := h
  exact ⟨F2, F1, h2, h1, fun q a b => h3 q b a, h5, h4, h6⟩
/-- A mirror's own blocks. -/
def ownF (g : Nat) (A : Option Addr) (n c : Nat) (B : Option Addr) (m e : Nat) : Nat → Prop := fun q => q = g ∨ (Value.slice A n c).ownBlock = some q ∨ (Value.slice B m e).ownBlock = some q
theorem MrR.own {C : Duo} {G : Gd} {s : Mr C} (h : MrR C G g w s A n c B m e Fd) : (∀ q, ownF g A n c B m e q → ¬ Fd q) ∧ ∀ q, ownF g A n c B m e q → q < w.heap.size := by
  have hl := h.lt
  refine ⟨?_, ?_⟩
  · rintro q (rfl | hq | hq)
    · exact h.ag
    · exact h.aa q hq
    · exact h.ab q hq
  · rintro q (rfl | hq | hq)
    · exact hl _ (.inl rfl)
    · exact hl q (.inr (.inl hq))
    · exact hl q (.inr (.inr (.inl hq)))
/-- A mirror whose own blocks are as they were, its devices in other blocks. -/
theorem MrR.dev2 {C : Duo} {G : Gd} {s : Mr C} {T Fd' : Nat → Prop} (h : MrR C G g w s A n c B m e Fd) (hb : But T w w') (ht : ∀ q, ownF g A n c B m e q → ¬ T q) (hd : C.L.At w' s.d Fd') (hf : ∀ q, ownF g A n c B m e q → ¬ Fd' q) : MrR C G g w' s A n c B m e Fd' :=
  ⟨h.blk.but hb (ht g (.inl rfl)), Own.but h.a hb (fun q hq => ht q (.inr (.inl hq))), Own.but h.b hb (fun q hq => ht q (.inr (.inr hq))), h.an, h.bn, hd, hf g (.inl rfl), fun q hq => hf q (.inr (.inl hq)), fun q hq => hf q (.inr (.inr hq)), h.apart, h.pin⟩
/-- Two mirrors of the same devices. -/
structure TwoM (p1 g1 p2 g2 g u : Nat) (w : World) (s : Mr (Two p1 g1 p2 g2)) (t : Mr (Two p2 g2 p1 g1)) (A : Option Addr) (n c : Nat) (B : Option Addr) (m e : Nat) (A' : Option Addr) (n' c' : Nat) (B' : Option Addr) (m' e' : Nat) (Fd : Nat → Prop) : Prop where
  one : MrR (Two p1 g1 p2 g2) gG g w s A n c B m e Fd
  two : MrR (Two p2 g2 p1 g1) gG u w t A' n' c' B' m' e' Fd
  d : t.d = (s.d.2, s.d.1)
  apart : ∀ q, ownF g A n c B m e q → ownF u A' n' c' B' m' e' q → False
variable {u : Nat} {s : Mr (Two p1 g1 p2 g2)} {t : Mr (Two p2 g2 p1 g1)}
theorem TwoM.swap (h : TwoM p1 g1 p2 g2 g u w s t A n c B m e A' n' c' B' m' e' Fd) : TwoM p2 g2 p1 g1 u g w t s A' n' c' B' m' e' A n c B m e Fd := ⟨h.two, h.one, by rw [h.d]; rfl, fun q a b => h.apart q b a⟩
theorem TwoM.below (h : TwoM p1 g1 p2 g2 g u w s t A n c B m e A' n' c' B' m' e' Fd) (hb : Below w.heap.size w w') : TwoM p1 g1 p2 g2 g u w' s t A n c B m e A' n' c' B' m' e' Fd :=
  ⟨h.one.but (T := fun _ => False) (but_below hb) (fun _ _ h => h), h.two.but (T := fun _ => False) (but_below hb) (fun _ _ h => h), h.d, h.apart⟩
/-- A call of the one that leaves it as it is. -/
theorem TwoM.call (h : TwoM p1 g1 p2 g2 g u w s t A n c B m e A' n' c' B' m' e' Fd) {v : Value} {x : Ending} (hr : RetA (ML (Two p1 g1 p2 g2) (gG.at A n c B m e) g) v s (mrF g A n c B m e Fd) w x w') :
    x = .returned v ∧ ∃ Fd', TwoM p1 g1 p2 g2 g u w' s t A n c B m e A' n' c' B' m' e' Fd' ∧ But (mrF g A n c B m e Fd) w w' ∧ ∀ q, Fd' q → mrF g A n c B m e Fd q ∨ w.heap.size ≤ q := by
  obtain ⟨rfl, F', hm⟩ := hr
  obtain ⟨A2, n2, c2, B2, m2, e2, Fd', h1, h2, _⟩ := hm.at_
  obtain ⟨rfl, rfl, rfl, rfl, rfl, rfl⟩ := h1.pin
  have ho := h.two.own
  have hn : ∀ q, Fd' q → mrF g A2 n2 c2 B2 m2 e2 Fd q ∨ w.heap.size ≤ q := fun q hq => hm.new q (h2 q (.inr (.inr (.inr hq))))
  have hd1 : ∀ q, ownF u A' n' c' B' m' e' q → ¬ mrF g A2 n2 c2 B2 m2 e2 Fd q := by
    rintro q hq (rfl | h3 | h3 | h3)
    · exact h.apart _ (.inl rfl) hq
    · exact h.apart q (.inr (.inl h3)) hq
    · exact h.apart q (.inr (.inr h3)) hq
    · exact ho.1 q hq h3
  have h1' : MrR (Two p1 g1 p2 g2) gG g w' s A2 n2 c2 B2 m2 e2 Fd' := ⟨h1.blk, h1.a, h1.b, h1.an, h1.bn, h1.d, h1.ag, h1.aa, h1.ab, h1.apart, trivial⟩
  refine ⟨rfl, Fd', ⟨h1', h.two.dev2 hm.but hd1 ?_ ?_, h.d, h.apart⟩, hm.but, hn⟩
  · rw [h.d]; exact two_swap h1.d
  · intro q hq hf
    rcases hn q hf with h3 | h3
    · exact hd1 q hq h3
    · have := ho.2 q hq; omega
theorem TwoM.but {T : Nat → Prop} (h : TwoM p1 g1 p2 g2 g u w s t A n c B m e A' n' c' B' m' e' Fd) (hb : But T w w') (h1 : ∀ q, mrF g A n c B m e Fd q → T q → False) (h2 : ∀ q, ownF u A' n' c' B' m' e' q → T q → False) : TwoM p1 g1 p2 g2 g u w' s t A n c B m e A' n' c' B' m' e' Fd :=
  ⟨h.one.but hb h1, h.two.but hb (by
    rintro q (hq | hq | hq | hq)
    · exact h2 q (.inl hq)
    · exact h2 q (.inr (.inl hq))
    · exact h2 q (.inr (.inr hq))
    · exact h1 q (.inr (.inr (.inr hq)))), h.d, h.apart⟩
/-- Two mirrors of the same devices, as they are laid. -/
def TL (p1 g1 p2 g2 g u : Nat) (s : Mr (Two p1 g1 p2 g2)) (t : Mr (Two p2 g2 p1 g1)) : Laid where
  St := Unit
  At w _ F := ∃ A n c B m e A' n' c' B' m' e' Fd, TwoM p1 g1 p2 g2 g u w s t A n c B m e A' n' c' B' m' e' Fd ∧ (∀ q, mrF g A n c B m e Fd q → F q) ∧ (∀ q, ownF u A' n' c' B' m' e' q → F q) ∧ ∀ q, F q → q < w.heap.size
  but := fun ⟨A, n, c, B, m, e, A', n', c', B', m', e', Fd, h1, h2, h3, h4⟩ hb hd => ⟨A, n, c, B, m, e, A', n', c', B', m', e', Fd, h1.but hb (fun q hq => hd q (h2 q hq)) (fun q hq => hd q (h3 q hq)), h2, h3, fun q hq => Nat.lt_of_lt_of_le (h4 q hq) hb.size⟩
  lt := fun ⟨_, _, _, _, _, _, _, _, _, _, _, _, _, _, _, _, h4⟩ => h4
theorem tl_swap (h : (TL p1 g1 p2 g2 g u s t).At w () F) : (TL p2 g2 p1 g1 u g t s).At w () F := by
  obtain ⟨A, n, c, B, m, e, A', n', c', B', m', e', Fd, h1, h2, h3, h4⟩ := h
  refine ⟨A', n', c', B', m', e', A, n, c, B, m, e, Fd, h1.swap, ?_, ?_, h4⟩
  · rintro q (hq | hq | hq | hq)
    · exact h3 q (.inl hq)
    · exact h3 q (.inr (.inl hq))
    · exact h3 q (.inr (.inr hq))
    · exact h2 q (.inr (.inr (.inr hq)))
  · rintro q (hq | hq | hq)
    · exact h2 q (.inl hq)
    · exact h2 q (.inr (.inl hq))
    · exact h2 q (.inr (.inr (.inl hq)))
theorem tl_unswap {v : Value} {x : Ending} (h : RetA (TL p2 g2 p1 g1 u g t s) v () F w x w') : RetA (TL p1 g1 p2 g2 g u s t) v () F w x w' := by
  obtain ⟨rfl, F', hm⟩ := h
  exact ⟨rfl, F', tl_swap hm.at_, hm.new, hm.but⟩
/-- A call of the one, whatever its rows. -/
theorem tl_call (h : (TL p1 g1 p2 g2 g u s t).At w () F) {f : FuncId} {args : Array Value} {v : Value} (hc : ∀ G F, G.f = gG.f → (ML (Two p1 g1 p2 g2) G g).At w s F → Calls Try.prog f args w (RetA (ML (Two p1 g1 p2 g2) G g) v s F w)) :
    Calls Try.prog f args w (RetA (TL p1 g1 p2 g2 g u s t) v () F w) := by
  obtain ⟨A, n, c, B, m, e, A', n', c', B', m', e', Fd, h1, h2, h3, h4⟩ := h
  have hat : (ML (Two p1 g1 p2 g2) (gG.at A n c B m e) g).At w s (mrF g A n c B m e Fd) :=
    ⟨A, n, c, B, m, e, Fd, ⟨h1.one.blk, h1.one.a, h1.one.b, h1.one.an, h1.one.bn, h1.one.d, h1.one.ag, h1.one.aa, h1.one.ab, h1.one.apart, ⟨rfl, rfl, rfl, rfl, rfl, rfl⟩⟩, fun _ h => h, h1.one.lt⟩
  refine (hc (gG.at A n c B m e) _ rfl hat).mono fun x w' hr => ?_
  obtain ⟨rfl, Fd', h7, h8, h9⟩ := h1.call hr
  have hl := h7.one.lt
  refine ⟨rfl, fun q => F q ∨ Fd' q, ⟨A, n, c, B, m, e, A', n', c', B', m', e', Fd', h7, ?_, fun q hq => .inl (h3 q hq), ?_⟩, ?_, h8.mono h2⟩
  · rintro q (hq | hq | hq | hq)
    · exact .inl (h2 q (.inl hq))
    · exact .inl (h2 q (.inr (.inl hq)))
    · exact .inl (h2 q (.inr (.inr (.inl hq))))
    · exact .inr hq
  · rintro q (hq | hq)
    · exact Nat.lt_of_lt_of_le (h4 q hq) h8.size
    · exact hl q (.inr (.inr (.inr hq)))
  · rintro q (hq | hq)
    · exact .inl hq
    · exact (h9 q hq).imp (h2 q) id
variable {L : List (List UInt8)} {k : Nat}
/-- The mirror's state, both devices alike. -/
abbrev even (L : List (List UInt8)) (k : Nat) : Md := ⟨L, L, false, false, List.replicate k false, List.replicate k false⟩
theorem even_right (f : Int → List UInt8 → Bool) (j : Nat) : (even L k).right f 0 j = (even L k).right f 1 j := rfl
theorem even_heal {G : Gd} {s : Mr (Two p1 g1 p2 g2)} (h : Sees s (even L k) 0) (n : Int) : s.heal G n = (((even L k).heal G.f n).1, s) := by
  rw [Mr.heal, Md.heal, h.has]
  cases hh : (even L k).has n with
  | false => rfl
  | true =>
    obtain ⟨j, rfl, hj⟩ := has_place hh
    rw [if_pos rfl, if_pos rfl, Int.toNat_natCast, h.there (by omega), h.there (by omega), h.right (by omega) hj, h.right (by omega) hj, even_right]
    rw [if_pos (show ((!(even L k).o 0) && !(even L k).o 1) = true from rfl), if_neg (show ¬ ((even L k).o0 || (even L k).o1) = true by show ¬ (false || false) = true; simp)]
    cases h1 : (even L k).right G.f 1 j with
    | true =>
      have v0 : Mi.rightV (Two p1 g1 p2 g2) G s 0 j = L.getD j zeroS := h.rightV (i := 0) (by omega) hj (by rw [even_right]; exact h1)
      have v1 : Mi.rightV (Two p1 g1 p2 g2) G s 1 j = L.getD j zeroS := h.rightV (i := 1) (by omega) hj h1
      simp [v0, v1]
    | false => simp
theorem tl_read (h : (TL p1 g1 p2 g2 g u s t).At w () F) (hs : Sees s (even L k) 0) (n : Int) : Calls Try.prog 37 #[.pointer (some ⟨g, 0, none⟩), .int .i64 n] w (RetA (TL p1 g1 p2 g2 g u s t) (.tuple #[.agg (bva ((even L k).read goodN n).1), .int .i64 ((even L k).read goodN n).2]) () F w) :=
  tl_call h fun G F hf hat => by
    have hc := mread_any hat (by rw [hs.ok.1, hs.ok.2]) n
    rw [hs.read n, hf] at hc
    exact hc
theorem tl_heal (h : (TL p1 g1 p2 g2 g u s t).At w () F) (hs : Sees s (even L k) 0) (n : Int) : Calls Try.prog 34 #[.pointer (some ⟨g, 0, none⟩), .int .i64 n] w (RetA (TL p1 g1 p2 g2 g u s t) (tup2 ((even L k).heal goodN n).1) () F w) :=
  tl_call h fun G F hf hat => by
    have hc := heal_any hat hs.ok n (Nat.lt_of_le_of_lt hs.most (by omega))
    rw [even_heal hs n, hf] at hc
    exact hc
theorem tl_both (h : (TL p1 g1 p2 g2 g u s t).At w () F) (hs : Sees s (even L k) 0) (n : Int) : Calls Try.prog 38 #[.pointer (some ⟨g, 0, none⟩), .int .i64 n] w (RetSec ((even L k).both goodN n) w) := by
  obtain ⟨A, n', c, B, m, e, A', n'', c', B', m', e', Fd, h1, _⟩ := h
  have hc := both_any (C := Two p1 g1 p2 g2) (G := gG) (g := g) (s := s) ⟨A, n', c, B, m, e, Fd, h1.one, fun _ h => h, h1.one.lt⟩ n
  rwa [hs.both n] at hc
/-- The mirror turned about is made. -/
theorem tl_new (h : LM p1 g1 p2 g2 gG g w0 w s F (even L k) 0) (hL : L.length = k) :
    Calls Try.prog 25 #[.pointer (some ⟨g2, 0, none⟩), .pointer (some ⟨g1, 0, none⟩), gG.v] w (fun x w' => ∃ u t F', x = .returned (.pointer (some ⟨u, 0, none⟩)) ∧ LiveA (TL p1 g1 p2 g2 g u s t) w0 w' () F' ∧ Sees t (even L k) 0) := by
  obtain ⟨A, n, c, B, m, e, Fd, h1, h2, hlt⟩ := h.live.at_
  have ho := h1.own
  refine (new_any (C := Two p2 g2 p1 g1) (G := gG) (fun _ _ _ _ _ _ => trivial) (two_swap h1.d)).mono ?_
  rintro x w' ⟨u, F', rfl, ⟨A', n', c', B', m', e', Fd', h3, h4, h4l⟩, h5, h6⟩
  have hn : ∀ q, Fd' q → Fd q ∨ w.heap.size ≤ q := fun q hq => h5 q (h4 q (.inr (.inr (.inr hq))))
  have hs : Sees (newM (Two p2 g2 p1 g1) (s.d.2, s.d.1)) (even L k) 0 := sees_new h.sees.d1 h.sees.d0 hL hL
  have hd1 : ∀ q, ownF g A n c B m e q → ¬ Fd' q := fun q hq hf => by
    rcases hn q hf with h7 | h7
    · exact ho.1 q hq h7
    · have := ho.2 q hq; omega
  have hone : MrR (Two p1 g1 p2 g2) gG g w' s A n c B m e Fd' := h1.dev2 h6 ho.1 (two_swap h3.d) hd1
  have hou : ∀ q, ownF u A' n' c' B' m' e' q → F' q := by
    rintro q (hq | hq | hq)
    · exact h4 q (.inl hq)
    · exact h4 q (.inr (.inl hq))
    · exact h4 q (.inr (.inr (.inl hq)))
  have hnew : ∀ q, Fd q → w0.heap.size ≤ q := fun q hq => h.live.new q (h2 q (.inr (.inr (.inr hq))))
  refine ⟨u, _, fun q => F q ∨ F' q, rfl, ⟨⟨A, n, c, B, m, e, A', n', c', B', m', e', Fd', ⟨hone, h3, rfl, ?_⟩, ?_, fun q hq => .inr (hou q hq), ?_⟩, ?_, h.live.bel.trans (h6.below (fun q hq hf => by have := hnew q hf; omega) h.live.bel.size)⟩, hs⟩
  · intro q hq hq'
    rcases h5 q (hou q hq') with h7 | h7
    · exact ho.1 q hq h7
    · have := ho.2 q hq; omega
  · rintro q (hq | hq | hq | hq)
    · exact .inl (h2 q (.inl hq))
    · exact .inl (h2 q (.inr (.inl hq)))
    · exact .inl (h2 q (.inr (.inr (.inl hq))))
    · exact .inr (h4 q (.inr (.inr (.inr hq))))
  · rintro q (hq | hq)
    · exact Nat.lt_of_lt_of_le (hlt q hq) h6.size
    · exact h4l q hq
  · rintro q (hq | hq)
    · exact h.live.new q hq
    · rcases h5 q hq with h7 | h7
      · exact hnew q h7
      · exact Nat.le_trans h.live.bel.size h7
theorem even_write {j : Nat} (hj : j < k) (y : List UInt8) : (even L k).write (j : Int) y = (0, even (L.set j y) k) := by
  rw [write_eq (x := even L k) (by show j < (List.replicate k false).length; rw [List.length_replicate]; exact hj) rfl]
  show (0, (⟨L.set j y, L.set j y, false, false, (List.replicate k false).set j false, (List.replicate k false).set j false⟩ : Md)) = _
  rw [rep_set]
end
end Go.Proofs.Ytfofkjcdohmkpaa.Mi
/-
  The contract of the reference's Sectors, of two rows that are the same.
-/
namespace Go.Proofs.Ytfofkjcdohmkpaa.Mi
open Go.RowKit Kd
attribute [local go_sem ↓] Go.wp_at_zero Go.wp_at_succ
set_option maxRecDepth 100000 in
set_option maxHeartbeats 6400000 in
theorem sectors_same {B B' : Nat} {A A' : Option Addr} {n c c' : Nat} {l : List (List UInt8)} {w : World} (hn : l.length = n) (h3 : ∀ x ∈ l, x.length = 128) (ha : Rd B w A (svs l)) (hb : Rd B' w A' (svs l)) (hB : B ≤ w.heap.size) (hB' : B' ≤ w.heap.size) (hm : n ≤ 1000) :
    Calls Try.prog 43 #[.slice A n c, .slice A' n c'] w (RetB (.bool true) w) := by
  have HN := Lib.hid hn
  have H3 := Lib.hid h3
  have HA := Lib.hid ha
  have HB := Lib.hid hb
  have HBB := Lib.hid (show B ≤ w.heap.size ∧ B' ≤ w.heap.size from ⟨hB, hB'⟩)
  have HM := Lib.hid hm
  clear hn h3 ha hb hB hB' hm
  go_enter Try.func43, Try.ntmps43
  go_wp2_with fail
  go_loopw [5] (fun i wr => ∃ j : Nat, j ≤ n ∧ i = .int .i64 j ∧ Below w.heap.size w wr) (fun i _ => n - (intOf i).toNat)
  case atStart => exact ⟨0, Nat.zero_le _, rfl, Below.refl _ _⟩
  case round =>
    obtain ⟨j, hj, rfl, hbel⟩ := hrel
    have HJ := Lib.hid hj
    have HW := Lib.hid hbel
    clear hj hbel
    by_cases hlt : j < n
    · have HLT := Lib.hid hlt
      have j0 : (0 : Int) ≤ (j : Int) := by omega
      have j1 : (j : Int) < (n : Int) := by omega
      have wj : IntKind.i64.wrap ((j : Int) + 1) = ((j + 1 : Nat) : Int) := IntWalk.i64_in _ (by have := HM.out; omega)
      have hjl : j < l.length := by rw [HN.out]; exact hlt
      obtain ⟨y, hy⟩ : ∃ y, y = l[j] := ⟨_, rfl⟩
      obtain ⟨ad, hA1, hz1, hz2⟩ := rd_sec HA.out H3.out hjl
      obtain ⟨ad', hA2, hz3, hz4⟩ := rd_sec HB.out H3.out hjl
      subst hA1 hA2
      have HY3 := Lib.hid (show y.length = 128 by rw [hy]; exact H3.out _ (List.getElem_mem hjl))
      have HIL := Lib.hid (show (Try.prog.info? 38).map (·.size) = some (bv y).length by rw [bv_length, HY3.out]; exact info_sec)
      have HC1 := Lib.hid (show ∀ w', Below w.heap.size w w' → ∀ i v, (bv y)[i]? = some v → w'.cell? ((ad.add (j * 128)).add i) = some v from fun w' hb i v hv => by
        obtain ⟨a2, h1, _, h2⟩ := rd_sec (HA.out.below (hb.mono HBB.out.1)) H3.out hjl
        injection h1 with h1; subst h1
        exact h2 i v (by rw [← hy]; exact hv))
      have HC2 := Lib.hid (show ∀ w', Below w.heap.size w w' → ∀ i v, (bv y)[i]? = some v → w'.cell? ((ad'.add (j * 128)).add i) = some v from fun w' hb i v hv => by
        obtain ⟨a2, h1, _, h2⟩ := rd_sec (HB.out.below (hb.mono HBB.out.2)) H3.out hjl
        injection h1 with h1; subst h1
        exact h2 i v (by rw [← hy]; exact hv))
      have HQ := Lib.hid (show ∀ W, (Op.equalIn 10000 38 (.agg (bva y)) (.agg (bva y))).run Try.prog W = .ok true W from fun W => by rw [eq_sec y y HY3.out HY3.out, decide_eq_true rfl])
      clear hz1 hz2 hz3 hz4 hlt hy hjl
      go_wp2_with fail
      refine wp_region_held_drew (S := fun w' => Below w.heap.size w w') (by kernel_rfl) HW.out.drew (fun hh => ?_)
      have HH := Lib.hid hh
      clear hh
      refine wpAnyH_take (i := 0) (v := ?vS0) rfl (by kernel_rfl) (by kernel_rfl) (by kernel_rfl) (fun _ _ _ h => h) (Or.inl ⟨by rfl, fun w' _ => ?yS0⟩) HH.out ?_
      case yS0 => (go_simp; try with_reducible rfl)
      refine wpAnyH_take (i := 1) (v := ?vS1) rfl (by kernel_rfl) (by kernel_rfl) (by kernel_rfl) (fun _ _ _ h => h) (Or.inl ⟨by rfl, fun w' _ => ?yS1⟩) HH.out ?_
      case yS1 => (go_simp; try with_reducible rfl)
      try simp only [List.getElem_toArray, List.getElem_cons_succ, List.getElem_cons_zero, Act.put, List.setIfInBounds_toArray, List.set_cons_zero, List.set_cons_succ]
      refine wpAnyH_take (i := 2) (v := ?vS2) rfl (by kernel_rfl) (by kernel_rfl) (by kernel_rfl) (fun _ _ _ h => h) (Or.inl ⟨by rfl, fun w' _ => ?yS2⟩) HH.out ?_
      case yS2 => (go_simp; try with_reducible rfl)
      refine wpAnyH_take (i := 3) (v := .agg (bva y)) rfl (by kernel_rfl) (by kernel_rfl) (by kernel_rfl) (fun _ _ _ h => h) (Or.inl ⟨by rfl, fun w' hw' => ?yS3⟩) HH.out ?_
      case yS3 => exact exec_load_at 38 (.tmp 19) rfl (ad.add (j * 128)) rfl (HC1.out w' hw') Try.underlying38 rfl HIL.out
      refine wpAnyH_take (i := 4) (v := ?vS4) rfl (by kernel_rfl) (by kernel_rfl) (by kernel_rfl) (fun _ _ _ h => h) (Or.inl ⟨by rfl, fun w' _ => ?yS4⟩) HH.out ?_
      case yS4 => (go_simp; try with_reducible rfl)
      try simp only [List.getElem_toArray, List.getElem_cons_succ, List.getElem_cons_zero, Act.put, List.setIfInBounds_toArray, List.set_cons_zero, List.set_cons_succ]
      refine wpAnyH_take (i := 5) (v := ?vS5) rfl (by kernel_rfl) (by kernel_rfl) (by kernel_rfl) (fun _ _ _ h => h) (Or.inl ⟨by rfl, fun w' _ => ?yS5⟩) HH.out ?_
      case yS5 => (go_simp; try with_reducible rfl)
      refine wpAnyH_take (i := 6) (v := ?vS6) rfl (by kernel_rfl) (by kernel_rfl) (by kernel_rfl) (fun _ _ _ h => h) (Or.inl ⟨by rfl, fun w' _ => ?yS6⟩) HH.out ?_
      case yS6 => (go_simp; try with_reducible rfl)
      refine wpAnyH_take (i := 7) (v := .agg (bva y)) rfl (by kernel_rfl) (by kernel_rfl) (by kernel_rfl) (fun _ _ _ h => h) (Or.inl ⟨by rfl, fun w' hw' => ?yS7⟩) HH.out ?_
      case yS7 => exact exec_load_at 38 (.tmp 23) rfl (ad'.add (j * 128)) rfl (HC2.out w' hw') Try.underlying38 rfl HIL.out
      try simp only [List.getElem_toArray, List.getElem_cons_succ, List.getElem_cons_zero, Act.put, List.setIfInBounds_toArray, List.set_cons_zero, List.set_cons_succ]
      refine wpAnyH_take (i := 8) (v := .bool false) rfl (by kernel_rfl) (by kernel_rfl) (by kernel_rfl) (fun _ _ _ h => h) (Or.inl ⟨by rfl, fun w' hw' => ?yS8⟩) HH.out ?_
      case yS8 => (go_simp; rw [HQ.out]; try rfl)
      try simp only [List.getElem_toArray, List.getElem_cons_succ, List.getElem_cons_zero, Act.put, List.setIfInBounds_toArray, List.set_cons_zero, List.set_cons_succ]
      refine wpAnyH_done (by kernel_rfl) ?_ _
      go_wp2_with fail
      go_roundw
      case rel => exact ⟨j + 1, HLT.out, by go_num, HH.out⟩
      case measure => (have := HLT.out; simp [intOf]; omega)
    · obtain rfl : j = n := by have := HJ.out; omega
      clear hlt
      go_wp2_with fail
      go_ret
      exact ⟨rfl, HW.out⟩
end Go.Proofs.Ytfofkjcdohmkpaa.Mi
