/-
  Texts of this seat, one behind the other: ScStaleP.
-/
import Derived.Test.YtniamllcoemikaaMy1
/-
  What a device missed while it was out is healed by the other one: as the document tells of it; All where nothing is written; a device that comes back.
-/
namespace Go.Proofs.Ytniamllcoemikaa.Sc
open Go.RowKit Kd Mi
section
variable {C : Duo} {G : Gd}
theorem heal_still (s : Mr C) (n : Int) (h2 : (s.heal G n).1.2 = 0) (h1 : (s.heal G n).1.1 ≠ 1) : (s.heal G n).2 = s := by
  have ht : ∀ i k x, (s.healTo i k x).1.2 = 0 → (s.healTo i k x).1.1 ≠ 1 → (s.healTo i k x).2 = s := fun i k x => by
    unfold Mr.healTo; dsimp only; split
    · exact fun _ h => absurd rfl h
    · rename_i hm; exact fun h _ => absurd h hm
  revert h1 h2
  unfold Mr.heal
  split
  · split
    · split
      · split
        · split
          · exact fun _ _ => rfl
          · exact ht _ _ _
        · exact ht _ _ _
      · split
        · exact ht _ _ _
        · exact fun _ _ => rfl
    · exact fun h => by cases h
  · exact fun h => by cases h
end
section
variable {pw g1 g2 g : Nat} {G : Gd} {w0 w w' : World} {F F' : Nat → Prop} {m : Nat} {s : Mr (Mu.one pw g1 g2)} {x : Md} {n : Nat}
theorem fresh_still (h : Fresh x n) {k : Nat} (hk : k < n) {f : Int → List UInt8 → Bool} (hc : ck f k (x.l0.getD k zeroS) (x.l1.getD k zeroS) ≠ 1) : (x.heal f k).2 = x := by
  have r0 : x.right f 0 k = f k (x.l0.getD k zeroS) := h.right 0 k
  have r1 : x.right f 1 k = f k (x.l1.getD k zeroS) := h.right 1 k
  rw [Md.heal, h.has hk, if_pos rfl, if_neg (by rw [h.o0, h.o1]; simp), Int.toNat_natCast, r0, r1]
  unfold ck at hc
  cases f0 : f k (x.l0.getD k zeroS) <;> cases f1 : f k (x.l1.getD k zeroS) <;> rw [f0, f1] at hc
  · rfl
  · exact absurd rfl hc
  · exact absurd rfl hc
  · by_cases he : x.l0.getD k zeroS = x.l1.getD k zeroS
    · rw [if_pos rfl, if_pos (by rw [decide_eq_true he]; rfl)]
    · rw [decide_eq_false he] at hc; exact absurd rfl hc
theorem run_still (hs : Mu.Sees s x 0) (h : Fresh x n) (hc : ∀ j, j < n → ck G.f j (x.l0.getD j zeroS) (x.l1.getD j zeroS) ≠ 1) : ∀ k, k ≤ n → (runN G (s, Wk.zero) k).1 = s ∧ (runN G (s, Wk.zero) k).2 = cntK G.f x.l0 x.l1 k
  | 0, _ => ⟨rfl, rfl⟩
  | k + 1, hk => by
    obtain ⟨h1, h2⟩ := run_still hs h hc k (by omega)
    obtain ⟨e1, e2⟩ := hs.heal (G := G) (k : Int)
    obtain ⟨c1, _⟩ := h.heal (f := G.f) (k := k) (by omega)
    rw [c1] at e1
    have hst : runN G (s, Wk.zero) k = (s, cntK G.f x.l0 x.l1 k) := Prod.ext h1 h2
    have hn : (cntK G.f x.l0 x.l1 k).n = k := cntK_n _ _ _ k
    have hr : runN G (s, Wk.zero) (k + 1) = ((s.heal G k).2, (cntK G.f x.l0 x.l1 k).step (s.heal G k).1) := by
      show (stepN G (runN G (s, Wk.zero) k)).2 = _
      rw [hst, stepN, if_neg (by show ¬ s.a.length ≤ _; rw [hn, hs.a, h.len]; omega)]
      show ((s.heal G ((cntK G.f x.l0 x.l1 k).n : Int)).2, (cntK G.f x.l0 x.l1 k).step (s.heal G ((cntK G.f x.l0 x.l1 k).n : Int)).1) = _
      rw [hn]
    rw [hr, e1]
    exact ⟨heal_still s k (by rw [e1]) (by rw [e1]; exact hc k (by omega)), rfl⟩
/-- All, where nothing is to be healed. -/
theorem lm_all_still (h : Mu.LM pw g1 g2 G g w0 w s F x 0) (hf : Fresh x n) (hn : n ≤ 5000) (hc : ∀ j, j < n → ck G.f j (x.l0.getD j zeroS) (x.l1.getD j zeroS) ≠ 1) :
    Calls Try.prog 20 #[.pointer (some ⟨g, 0, none⟩)] w (Mu.RetM (.agg (cntK G.f x.l0 x.l1 n).rep) pw g1 g2 G g w0 x 0 F w) := by
  obtain ⟨h1, h2⟩ := run_still h.sees hf hc n (Nat.le_refl _)
  have hcc := sall_any h.live.at_ (show s.ok n by have h2 := h.sees.ok; rwa [hf.len] at h2) hn (Nat.lt_of_le_of_lt h.sees.most (by omega))
  rw [show (allN G s n).2 = _ from h2] at hcc
  exact hcc.mono fun _ _ hr => h.ret hr (by rw [show (allN G s n).1 = s from h1]; exact h.sees) (by rw [show (allN G s n).1 = s from h1]; exact h.dry)
theorem see_out_off {S : Sy} {i : Nat} {L : List (List UInt8)} {g : Bool} {m : Nat} (h : Mu.See S i L g m) : Mu.See (S.put i ((S.at i).out false)) i L false m := by
  have hd0 : i < S.ds.length := by rw [h.ds]; exact h.lt
  have ha : (S.put i ((S.at i).out false)).at i = (S.at i).out false := by rw [at_put _ hd0, if_pos rfl]
  exact ⟨by rw [len_put]; exact h.ds, h.p, h.lt, by rw [ha]; exact h.len, fun j hj => by rw [ha]; exact h.now j hj, by rw [ha]; rfl, by rw [ha]; exact h.lies, by rw [ha]; exact h.few⟩
theorem lm_out0_off (h : Mu.LM pw g1 g2 G g w0 w s F x m) : Calls Try.prog 29 #[.pointer (some ⟨g1, 0, none⟩), .bool false] w (Mu.RetM (.tuple #[]) pw g1 g2 G g w0 (x.out 0 false) m F w) := by
  obtain ⟨F1, h1, h2, hl⟩ := Mu.ml_sys h.live.at_
  have hs : Mu.Sees (⟨s.d.put 0 ((s.d.at 0).out false), s.a, s.b⟩ : Mr (Mu.one pw g1 g2)) (x.out 0 false) m :=
    ⟨see_out_off h.sees.d0, h.sees.d1.put _ (by omega), h.sees.a, h.sees.b, h.sees.n0, h.sees.n1, h.sees.nb⟩
  exact (out_sys h1 0 (by rw [h2]; omega) false).mono fun _ _ hr => h.ret (hl ((len_put _).trans h2) hr) hs ⟨fun ho => (by cases ho), fun ho => (h.dry.d1 ho).put _ (by omega)⟩
end
/-! ### The mirror of the law -/
def zerosM (n : Nat) : Md := startM (List.replicate n zeroS) (List.replicate n zeroS) n
theorem zeros_fresh (n : Nat) : Fresh (zerosM n) n := start_fresh List.length_replicate List.length_replicate
theorem zero_getD (n k : Nat) : (List.replicate n zeroS).getD k zeroS = zeroS := by
  rw [List.getD_eq_getElem?_getD, List.getElem?_replicate]; split <;> rfl
theorem ck_same (f : Int → List UInt8 → Bool) (k : Nat) (u : List UInt8) : ck f k u u ≠ 1 := by
  unfold ck; cases f k u <;> simp
theorem cnt_same (f : Int → List UInt8 → Bool) (l : List (List UInt8)) : ∀ k, (cntK f l l k).h = 0
  | 0 => rfl
  | k + 1 => by
    rw [cntK, (step_r _ _).2.1, cnt_same f l k]
    have h := ck_same f k (l.getD k zeroS)
    rcases ck_three (f := f) k (l.getD k zeroS) (l.getD k zeroS) with e | e | e
    · rw [e]; rfl
    · exact absurd e h
    · rw [e]; rfl
/-- It, with a device that missed a write, and is back. -/
def missM (n k : Nat) (y : List UInt8) : Md := ⟨List.replicate n zeroS, (List.replicate n zeroS).set k y, false, false, (List.replicate n false).set k true, (List.replicate n false).set k false⟩
theorem miss_write {n k : Nat} (hk : k < n) (y : List UInt8) : (((zerosM n).out 0 true).write k y).1 = 0 ∧ (((zerosM n).out 0 true).write k y).2.out 0 false = missM n k y := by
  have hh : ((zerosM n).out 0 true).has (k : Int) = true := by rw [Md.has]; show (decide _ && decide ((k : Int) < ((List.replicate n false).length : Int))) = true; rw [List.length_replicate]; simp; omega
  rw [Md.write, hh, if_pos rfl, if_neg (by show ¬ (true && false) = true; simp)]
  exact ⟨rfl, rfl⟩
def healM (n k : Nat) (y : List UInt8) : Md := ⟨(List.replicate n zeroS).set k y, (List.replicate n zeroS).set k y, false, false, ((List.replicate n false).set k true).set k false, (List.replicate n false).set k false⟩
section
variable {f : Int → List UInt8 → Bool} {n k : Nat} {y : List UInt8}
theorem setb_getD (n k j : Nat) (v : Bool) (hj : j < n) : ((List.replicate n false).set k v).getD j false = if k = j then v else false := by
  rw [List.getD_eq_getElem?_getD, List.getElem?_set]
  split
  · rw [if_pos (by rw [List.length_replicate]; omega)]; rfl
  · rw [List.getElem?_replicate, if_pos hj]; rfl
theorem same_heal {x : Md} (hl : x.a.length = n) (h0 : x.o0 = false) (h1 : x.o1 = false) {j : Nat} (hj : j < n) (ha : x.a.getD j false = false) (hb : x.b.getD j false = false) (he : x.l0.getD j zeroS = x.l1.getD j zeroS) : ∃ c : Int, (c = 0 ∨ c = 2) ∧ x.heal f j = ((c, 0), x) := by
  have r0 : x.right f 0 j = f j (x.l0.getD j zeroS) := by rw [Md.right, show x.st 0 = x.a from rfl, ha, show x.o 0 = false from h0, show x.l 0 = x.l0 from rfl]; rfl
  have r1 : x.right f 1 j = f j (x.l1.getD j zeroS) := by rw [Md.right, show x.st 1 = x.b from rfl, hb, show x.o 1 = false from h1, show x.l 1 = x.l1 from rfl]; rfl
  rw [Md.heal, show x.has (j : Int) = true by rw [Md.has, hl]; simp; omega, if_pos rfl, if_neg (by rw [h0, h1]; simp), Int.toNat_natCast, r0, r1, he]
  cases f j (x.l1.getD j zeroS)
  · exact ⟨2, .inr rfl, rfl⟩
  · exact ⟨0, .inl rfl, by simp⟩
theorem miss_heal (hk : k < n) : (missM n k y).heal f k = if f k y then ((1, 0), healM n k y) else ((2, 0), missM n k y) := by
  have ga : ((List.replicate n false).set k true).getD k false = true := by rw [setb_getD n k k true hk, if_pos rfl]
  have gb : ((List.replicate n false).set k false).getD k false = false := by rw [setb_getD n k k false hk]; split <;> rfl
  have gl : ((List.replicate n zeroS).set k y).getD k zeroS = y := by rw [set_getD _ _ _ _ (by rw [List.length_replicate]; exact hk), if_pos rfl]
  have r0 : (missM n k y).right f 0 k = false := by rw [Md.right]; show (!(((List.replicate n false).set k true).getD k false) && _) = false; rw [ga]; rfl
  have r1 : (missM n k y).right f 1 k = f k y := by rw [Md.right]; show (!(((List.replicate n false).set k false).getD k false) && (!false && f k (((List.replicate n zeroS).set k y).getD k zeroS))) = f k y; rw [gb, gl]; rfl
  rw [Md.heal, show (missM n k y).has (k : Int) = true by rw [Md.has]; show (decide _ && decide ((k : Int) < ((List.replicate n false).set k true).length)) = true; rw [List.length_set, List.length_replicate]; simp; omega, if_pos rfl, if_neg (show ¬ ((missM n k y).o0 || (missM n k y).o1) = true by show ¬ (false || false) = true; simp), Int.toNat_natCast, r0, r1, if_neg (by simp)]
  split
  · show (((1 : Int), (0 : Int)), (missM n k y).mend 0 k (((List.replicate n zeroS).set k y).getD k zeroS)) = _
    rw [gl]; rfl
  · rfl
theorem step_zero (w : Wk) {c : Int} (h : c = 0 ∨ c = 2) : (w.step (c, 0)).n = w.n + 1 ∧ (w.step (c, 0)).h = w.h ∧ w.l ≤ (w.step (c, 0)).l := by
  obtain ⟨_, h2, h3⟩ := step_r w c
  refine ⟨by rw [Wk.step, if_pos rfl, Wk.add]; rcases h with rfl | rfl <;> rfl, by rw [h2]; rcases h with rfl | rfl <;> rfl, by rw [h3]; omega⟩
/-- Scrubbed. -/
theorem miss_run (hk : k < n) : ∀ j, j ≤ n → ∃ w : Wk, w.n = j ∧ mdRun f (missM n k y, Wk.zero) j = (if k < j ∧ f k y = true then healM n k y else missM n k y, w) ∧ w.h = (if k < j ∧ f k y = true then 1 else 0) ∧ (k < j → f k y = false → 1 ≤ w.l)
  | 0, _ => ⟨Wk.zero, rfl, by rw [if_neg (by omega)]; rfl, by rw [if_neg (by omega)]; rfl, fun h => by omega⟩
  | j + 1, hj => by
    obtain ⟨w, h1, h2, h3, h4⟩ := miss_run hk j (by omega)
    have hlen : ∀ x : Md, (x = missM n k y ∨ x = healM n k y) → x.a.length = n ∧ x.o0 = false ∧ x.o1 = false ∧ (j ≠ k → x.a.getD j false = false ∧ x.b.getD j false = false ∧ x.l0.getD j zeroS = x.l1.getD j zeroS) := fun x hx => by
      have hjn : j < n := by omega
      have e1 : j ≠ k → ((List.replicate n zeroS).set k y).getD j zeroS = zeroS := fun h => by rw [set_getD _ _ _ _ (by rw [List.length_replicate]; exact hjn), if_neg (fun e => h e.symm), zero_getD]
      rcases hx with rfl | rfl
      · exact ⟨by simp [missM], rfl, rfl, fun h => ⟨by show ((List.replicate n false).set k true).getD j false = false; rw [setb_getD n k j true hjn, if_neg (fun e => h e.symm)], by show ((List.replicate n false).set k false).getD j false = false; rw [setb_getD n k j false hjn]; split <;> rfl, by show (List.replicate n zeroS).getD j zeroS = ((List.replicate n zeroS).set k y).getD j zeroS; rw [zero_getD, e1 h]⟩⟩
      · exact ⟨by simp [healM], rfl, rfl, fun h => ⟨by show (((List.replicate n false).set k true).set k false).getD j false = false; rw [List.set_set, setb_getD n k j false hjn]; split <;> rfl, by show ((List.replicate n false).set k false).getD j false = false; rw [setb_getD n k j false hjn]; split <;> rfl, rfl⟩⟩
    obtain ⟨x, hx, hxx⟩ : ∃ x, x = (if k < j ∧ f k y = true then healM n k y else missM n k y) ∧ (x = missM n k y ∨ x = healM n k y) := ⟨_, rfl, by split; exact .inr rfl; exact .inl rfl⟩
    rw [← hx] at h2
    obtain ⟨l1, l2, l3, l4⟩ := hlen x hxx
    have hs : mdRun f (missM n k y, Wk.zero) (j + 1) = ((x.heal f j).2, w.step (x.heal f j).1) := by
      show (mdStep f (mdRun f (missM n k y, Wk.zero) j)).2 = _
      rw [h2, mdStep, if_neg (by show ¬ x.a.length ≤ w.n; rw [l1, h1]; omega)]
      show ((x.heal f (w.n : Int)).2, w.step (x.heal f (w.n : Int)).1) = _
      rw [h1]
    rw [hs]
    by_cases hjk : j = k
    · subst hjk
      rw [if_neg (by omega)] at hx
      subst hx
      rw [miss_heal (by omega)]
      cases hf : f j y with
      | true =>
        obtain ⟨s1, s2, s3⟩ := step_r w 1
        refine ⟨w.step (1, 0), by rw [Wk.step, if_pos rfl, Wk.add]; exact congrArg (· + 1) h1, by simp, ?_, fun _ h => by cases h⟩
        rw [s2, h3]; simp
      | false =>
        obtain ⟨s1, s2, s3⟩ := step_r w 2
        refine ⟨w.step (2, 0), by rw [Wk.step, if_pos rfl, Wk.add]; exact congrArg (· + 1) h1, by simp, ?_, fun _ _ => ?_⟩
        · rw [s2, h3]; simp
        · rw [s3]; show 1 ≤ w.l + 1; omega
    · obtain ⟨a1, a2, a3⟩ := l4 hjk
      obtain ⟨c, hc, hh⟩ := same_heal (f := f) l1 l2 l3 (by omega : j < n) a1 a2 a3
      obtain ⟨z1, z2, z3⟩ := step_zero w hc
      rw [hh]
      have hiff : (k < j + 1 ∧ f k y = true) ↔ (k < j ∧ f k y = true) := ⟨fun h => ⟨by omega, h.2⟩, fun h => ⟨by omega, h.2⟩⟩
      refine ⟨w.step (c, 0), by rw [z1, h1], by simp only [hiff]; rw [← hx], by simp only [hiff]; rw [z2, h3], fun h h' => Nat.le_trans (h4 (by omega) h') z3⟩
end
end Go.Proofs.Ytniamllcoemikaa.Sc
