/-
  Texts of this seat, one behind the other: MiNoneP.
-/
import Derived.Test.YtfofkjcdohmkpaaMm4
/-
  A mirror that there isn't, one that has no places, one by which nothing may stand.
-/
namespace Go.Proofs.Ytfofkjcdohmkpaa.Mi
open Go.RowKit Kd
/-- No function: nothing may stand. -/
def gNil : Gd where
  k := none
  f _ _ := false
  R _ _ _ _ _ _ := True
  none_ _ _ _ := rfl
  enter k' h := by cases h
  call k' h := by cases h
section
variable {C : Duo} {G : Gd} {g : Nat} {w : World} {s : Mr C} {F : Nat → Prop}
/-- What is told of a mirror without places. -/
structure Dead (C : Duo) (G : Gd) (g : Nat) (s : Mr C) (P : Option Addr) (n : Int) : Prop where
  read : ∀ w F, (ML C G g).At w s F → Calls Try.prog 37 #[.pointer P, .int .i64 n] w (RetA (ML C G g) (.tuple #[.agg (bva zeroS), .int .i64 2]) s F w)
  heal : ∀ w F, (ML C G g).At w s F → Calls Try.prog 34 #[.pointer P, .int .i64 n] w (RetA (ML C G g) (.tuple #[.int .i64 0, .int .i64 2]) s F w)
  stale : ∀ w F, (ML C G g).At w s F → Calls Try.prog 39 #[.pointer P] w (RetA (ML C G g) (.tuple #[.int .i64 0, .int .i64 0]) s F w)
  len : ∀ w F, (ML C G g).At w s F → Calls Try.prog 28 #[.pointer P] w (RetA (ML C G g) (.int .i64 0) s F w)
  write : ∀ w F y, (ML C G g).At w s F → y.length = 128 → Calls Try.prog 31 #[.pointer P, .int .i64 n, .agg (bva y)] w (RetA (ML C G g) (.int .i64 2) s F w)
  choose : ∀ w F y, (ML C G g).At w s F → y.length = 128 → Calls Try.prog 32 #[.pointer P, .int .i64 n, .agg (bva y)] w (RetA (ML C G g) (.int .i64 2) s F w)
  both : ∀ w F, (ML C G g).At w s F → Calls Try.prog 38 #[.pointer P, .int .i64 n] w (RetSec [] w)
  sync : ∀ w F, (ML C G g).At w s F → Calls Try.prog 33 #[.pointer P] w (RetA (ML C G g) (.int .i64 13) s F w)
theorem dead_nil (n : Int) : Dead C G g s none n where
  read _ _ h := (mread_nil n).mono fun _ _ hr => RetB.reta h hr
  heal _ _ h := (heal_nil n).mono fun _ _ hr => RetB.reta h hr
  stale w _ h := (stale_nil w).mono fun _ _ hr => RetB.reta h hr
  len w _ h := (mlen_nil w).mono fun _ _ hr => RetB.reta h hr
  write _ _ y h _ := (mwrite_nil n y).mono fun _ _ hr => RetB.reta h hr
  choose _ _ y h _ := (mchoose_nil n y).mono fun _ _ hr => RetB.reta h hr
  both _ _ _ := both_nil n
  sync w _ h := (sync_nil w).mono fun _ _ hr => RetB.reta h hr
theorem has_none (ha : s.a = []) (n : Int) : has s n = false := by
  rw [has, ha]
  by_cases h : 0 ≤ n
  · rw [decide_eq_false (show ¬ n < (([] : List Bool).length : Int) by show ¬ n < 0; omega), Bool.and_false]
  · rw [decide_eq_false h, Bool.false_and]
theorem dead_some (ha : s.a = []) (hb : s.b = []) (ht : C.there s.d 1 = false) (hm : C.most s.d < 600000) (n : Int) : Dead C G g s (some ⟨g, 0, none⟩) n where
  read _ _ h := by
    have hc := mread_any h (by rw [ha, hb]) n
    rwa [show readM C G s n = (zeroS, 2) by rw [readM, has_none ha]; rfl] at hc
  heal _ _ h := by
    have hc := heal_any h (k := 0) ⟨by rw [ha]; rfl, by rw [hb]; rfl⟩ n (by omega)
    rwa [show s.heal G n = ((0, 2), s) by rw [Mr.heal, has_none ha]; rfl] at hc
  stale _ _ h := by
    have hc := stale_any h
    rw [ha, hb] at hc
    exact hc.mono fun _ _ hr => RetB.reta h hr
  len _ _ h := by
    have hc := mlen_any h
    rw [ha] at hc
    exact hc.mono fun _ _ hr => RetB.reta h hr
  write _ _ y h hy := by
    have hc := mwrite_any h (k := 0) ⟨by rw [ha]; rfl, by rw [hb]; rfl⟩ n y hy (by omega)
    rwa [show s.write n y = (2, s) by rw [Mr.write, has_none ha]; rfl] at hc
  choose _ _ y h hy := by
    have hc := mchoose_any h (k := 0) ⟨by rw [ha]; rfl, by rw [hb]; rfl⟩ n y hy (by omega)
    rwa [show s.choose n y = (2, s) by rw [Mr.choose, has_none ha]; rfl] at hc
  both _ _ h := by
    have hc := both_any h n
    rwa [show bothL G s n = [] by rw [bothL, has_none ha]; rfl] at hc
  sync _ _ h := by
    have hc := sync_any h (k := 0) ⟨by rw [ha]; rfl, by rw [hb]; rfl⟩ (by omega) (by omega)
    rwa [show s.sync G 0 = (13, s) by rw [Mr.sync, ht, Bool.and_false]; rfl] at hc
end
/-! ### Half a mirror -/
abbrev Half (p g : Nat) : Duo := duo (uno p g) unoNil
theorem half_at {w0 w : World} {p g : Nat} {S : Sy} {F : Nat → Prop} (h : Live w0 w p [g] S F) (hS : S.ds.length = 1) : (Half p g).L.At w (S, ()) F :=
  ⟨F, fun _ => False, ⟨h.sys, hS⟩, fun _ hq => hq.elim, fun _ _ h => h, fun _ h => h, fun _ h => h.elim, h.lt⟩
theorem half_new {p g : Nat} (S : Sy) : (newM (Half p g) (S, ())).a = [] ∧ (newM (Half p g) (S, ())).b = [] := by
  have hp : (Half p g).places (S, ()) = 0 := Nat.min_eq_right (Nat.zero_le _)
  constructor
  · show List.replicate ((Half p g).places (S, ())) _ = []
    rw [hp]; rfl
  · show List.replicate ((Half p g).places (S, ())) _ = []
    rw [hp]; rfl
/-! ### Two devices, of k and k + 2 sectors, by which nothing may stand -/
section
variable {p1 g1 p2 g2 : Nat} {S T : Sy} {L0 L1 : List (List UInt8)} {k : Nat}
theorem there_see (h0 : See S L0 false 0) (h1 : See T L1 false 0) {i : Nat} (hi : i < 2) : (Two p1 g1 p2 g2).there (S, T) i = true := by
  rcases two hi with rfl | rfl
  · show (true && (refuseN S.p (S.at 0) 0 != 13)) = true
    rw [h0.refuse]; simp only [Bool.false_eq_true, if_false]; split <;> rfl
  · show (true && (refuseN T.p (T.at 0) 0 != 13)) = true
    rw [h1.refuse]; simp only [Bool.false_eq_true, if_false]; split <;> rfl
theorem bare_new (h0 : See S L0 false 0) (h1 : See T L1 false 0) (e0 : L0.length = k) (e1 : L1.length = k + 2) : newM (Two p1 g1 p2 g2) (S, T) = ⟨(S, T), List.replicate k false, List.replicate k false⟩ := by
  have hp : (Two p1 g1 p2 g2).places (S, T) = k := by
    show min (S.at 0).st.length (T.at 0).st.length = k
    rw [h0.len, h1.len, e0, e1]; omega
  show (⟨(S, T), List.replicate ((Two p1 g1 p2 g2).places (S, T)) (!((Two p1 g1 p2 g2).there (S, T) 0)), List.replicate ((Two p1 g1 p2 g2).places (S, T)) (!((Two p1 g1 p2 g2).there (S, T) 1))⟩ : Mr (Two p1 g1 p2 g2)) = _
  rw [hp, there_see h0 h1 (by omega), there_see h0 h1 (by omega)]; rfl
variable {s : Mr (Two p1 g1 p2 g2)}
theorem bare_read (h0 : See s.d.1 L0 false 0) (h1 : See s.d.2 L1 false 0) (n : Int) : readM (Two p1 g1 p2 g2) gNil s n = (zeroS, if has s n then 9 else 2) := by
  have hr : ∀ i j, right (Two p1 g1 p2 g2) gNil s i j = false := fun i j => by
    show (!_ && (_ && false)) = false
    rw [Bool.and_false, Bool.and_false]
  rw [readM]
  cases has s n with
  | false => rfl
  | true =>
    simp only [hr, Bool.false_eq_true, if_false, if_true]
    rw [show (Two p1 g1 p2 g2).there s.d 0 = true from there_see h0 h1 (by omega)]; rfl
theorem bare_both (n : Int) : bothL gNil s n = [] := by
  have hr : ∀ i, rdOk (Two p1 g1 p2 g2) gNil s.d i n = false := fun i => by
    show (_ && false) = false
    rw [Bool.and_false]
  rw [bothL]
  split
  · rw [bothTo, bothTo, bothTo, hr, hr]; rfl
  · rfl
theorem bare_write (h0 : See s.d.1 L0 false 0) (ha : s.a.length = k) (e0 : L0.length = k) (n : Int) (y : List UInt8) : (s.write n y).1 = if has s n then 0 else 2 := by
  rw [Mr.write]
  cases hh : has s n with
  | false => rfl
  | true =>
    obtain ⟨j, rfl, hj⟩ : ∃ j : Nat, n = (j : Int) ∧ j < k := by
      rw [has, ha] at hh
      simp at hh
      exact ⟨n.toNat, by omega, by omega⟩
    have w0 : ((Two p1 g1 p2 g2).wr s.d 0 (j : Int) y).1 = 0 := (h0.write_yes (x := y) rfl (k := j) (by omega)).1
    rw [if_pos rfl, if_pos rfl, w0, Mr.reach, if_pos (by simp)]
end
end Go.Proofs.Ytfofkjcdohmkpaa.Mi
