/-
  Texts of this seat, one behind the other: LoMovesP.
-/
import Derived.Test.YthadomboiockhaaLa6
/-
  A log whose eldest segment was moved and freed: where the next bodies stand, and what stands still.
-/
namespace Go.Proofs.Ythadomboiockhaa.Lo
open Go.RowKit Kd Mi Sx
theorem str_same {S T : ByteArray} {a b : List UInt8} (hS : S = ⟨a.toArray⟩) (hT : T = ⟨b.toArray⟩) : (S.toList == T.toList) = decide (a = b) := by
  have e1 : S.toList = a := by rw [hS, Lib.toList_data, List.toList_toArray]
  have e2 : T.toList = b := by rw [hT, Lib.toList_data, List.toList_toArray]
  rw [e1, e2, Bool.eq_iff_iff, beq_iff_eq, decide_eq_true_iff]
/-- Behind 4 segments, the first of them freed, and j bodies more. -/
def lgV (n : Nat) : Nat → Lg
  | 0 => (lgT n 6 (4 * n)).free 0
  | j + 1 => match (lgV n j).next with
    | some p => (lgV n j).put p
    | none => lgV n j
def okV (n j : Nat) : Bool := match (lgV n j).next with
  | some p => decide (((lgV n j).at_ p < 2 + n ∨ 2 + 4 * n ≤ (lgV n j).at_ p) ∧ (lgV n j).at_ p < 2 + 6 * n ∧ p.2.2 ≤ 10 ∧ (lgV n j).last ≤ 10 ∧ (lgV n j).size = n)
  | none => false
theorem okV_all : [1, 2, 3, 4].all (fun n => (List.range (n + 1)).all fun j => okV n j) = true := by decide +kernel
theorem freeV : [1, 2, 3, 4].all (fun n => decide ((lgT n 6 (4 * n)).freeE 0 = 0)) = true := by decide +kernel
theorem lgV_next {n j : Nat} (hn : 1 ≤ n ∧ n ≤ 4) (hj : j ≤ n) : ∃ p, (lgV n j).next = some p ∧ ((lgV n j).at_ p < 2 + n ∨ 2 + 4 * n ≤ (lgV n j).at_ p) ∧ (lgV n j).at_ p < 2 + 6 * n ∧ p.2.2 ≤ 10 ∧ (lgV n j).last ≤ 10 ∧ (lgV n j).size = n ∧ lgV n (j + 1) = (lgV n j).put p := by
  have h := List.all_eq_true.1 (List.all_eq_true.1 okV_all n (by simp; omega)) j (List.mem_range.2 (by omega))
  unfold okV at h
  cases hp : (lgV n j).next with
  | none => rw [hp] at h; cases h
  | some p =>
    rw [hp] at h
    have h2 := of_decide_eq_true h
    exact ⟨p, rfl, h2.1, h2.2.1, h2.2.2.1, h2.2.2.2.1, h2.2.2.2.2, by rw [lgV, hp]⟩
theorem lgV_free {n : Nat} (hn : 1 ≤ n ∧ n ≤ 4) : (lgT n 6 (4 * n)).freeE 0 = 0 := of_decide_eq_true (List.all_eq_true.1 freeV n (by simp; omega))
section
variable {p g1 g2 bx g q : Nat} {w0 w w' : World} {s s' : Mr (Mu.one p g1 g2)} {F T : Nat → Prop} {n j m : Nat} {L all : List (List UInt8)}
/-- The bodies from n to 4n stand still. -/
structure LgW (p g1 g2 bx g q : Nat) (w0 w : World) (s : Mr (Mu.one p g1 g2)) (F : Nat → Prop) (n j : Nat) (L all : List (List UInt8)) (m : Nat) : Prop where
  lg : LgM p g1 g2 (gdS litS bx) g q w0 w s (lgV n j) F (Sc.startM L L (2 + 6 * n)) m
  len : L.length = 2 + 6 * n
  has : ∀ t, n ≤ t → t < 4 * n → seenA litSumL L (2 + t) = some (t / n + 1, all.getD t [])
  n4 : 1 ≤ n ∧ n ≤ 4
def RetLW (v : Value) (p g1 g2 bx g q : Nat) (w0 : World) (n j : Nat) (all : List (List UInt8)) (m : Nat) (F : Nat → Prop) (w : World) (e : Ending) (w' : World) : Prop :=
  ∃ at_ : Int, e = .returned (.tuple #[.int .i64 at_, v]) ∧ ∃ (s : Mr (Mu.one p g1 g2)) (F' : Nat → Prop) (L : List (List UInt8)), LgW p g1 g2 bx g q w0 w' s F' n j L all m ∧ Mv (LogL (Mu.one p g1 g2) (gdS litS bx) g q litS) w F w' (s, lgV n j) F'
theorem LgW.below (h : LgW p g1 g2 bx g q w0 w s F n j L all m) (hb : Below w.heap.size w w') : LgW p g1 g2 bx g q w0 w' s F n j L all m := ⟨h.lg.below hb, h.len, h.has, h.n4⟩
/-- The eldest segment is freed. -/
theorem lga_free (h : LgA p g1 g2 bx g q w0 w s F n 6 L all m) (hn : 1 ≤ n ∧ n ≤ 4) (hl : all.length = 4 * n) :
    Calls Try.prog 33 #[.pointer (some ⟨q, 0, none⟩), .int .i64 0] w (fun e w' => e = .returned (.int .i64 0) ∧ ∃ (s : Mr (Mu.one p g1 g2)) (F' : Nat → Prop) (L : List (List UInt8)), LgW p g1 g2 bx g q w0 w' s F' n 0 L all m ∧ Mv (LogL (Mu.one p g1 g2) (gdS litS bx) g q litS) w F w' (s, lgV n 0) F') := by
  have hc := lgm_free h.lg 0 (by omega) (by omega)
  have hf : (lgT n 6 all.length).freeE 0 = 0 := by rw [hl]; exact lgV_free hn
  rw [hf, if_pos rfl] at hc
  refine hc.mono ?_
  rintro e w' ⟨rfl, s', F', hlg, hmv⟩
  have e1 : (lgT n 6 all.length).free (0 : Int).toNat = lgV n 0 := by rw [hl]; rfl
  rw [e1] at hlg hmv
  refine ⟨rfl, s', F', L, ⟨hlg, h.len, fun t h1 h2 => ?_, hn⟩, hmv⟩
  have := h.has t (by omega)
  rw [Nat.add_comm, this, if_pos (by omega)]
/-- One more body, somewhere else. -/
theorem lgw_append (h : LgW p g1 g2 bx g q w0 w s F n j L all m) (hj : j ≤ n) (hm : m < 900000) (A : Option Addr) (k c : Nat) (b : List UInt8) (hb : b.length = k) (hb3 : k ≤ 103) (hr : Rd w.heap.size w A (bv b)) :
    Calls Try.prog 35 #[.pointer (some ⟨q, 0, none⟩), .slice A k c] w (RetLW (.int .i64 0) p g1 g2 bx g q w0 n (j + 1) all (m + 2) F w) := by
  obtain ⟨t, hn, hat, hat2, hg, hl, hs, hput⟩ := lgV_next h.n4 hj
  have hw := one_write (L := L) (M := L) (n := 2 + 6 * n) (j := (lgV n j).at_ t) (by omega) (sealedS litS.f (((lgV n j).at_ t : Nat) : Int) t.2.2 b)
  have hc := lgm_append h.lg hm (by omega) (by rw [hs]; have := h.n4; omega) hn A k c b hb hb3 hr (by rw [hw])
  rw [hw] at hc
  refine hc.mono ?_
  rintro e w' ⟨rfl, s', F', hlg, hmv⟩
  rw [← hput] at hlg hmv
  have h4 := h.n4
  refine ⟨_, rfl, s', F', _, ⟨hlg, by rw [List.length_set]; exact h.len, fun u h1 h2 => ?_, h.n4⟩, hmv⟩
  have hne : 2 + u ≠ (lgV n j).at_ t := by rcases hat with h5 | h5 <;> omega
  rw [show sealedS litS.f = sealedS litSumL from rfl, seen_set litSumL_length (by rw [h.len]; omega) (by omega) (by omega) (by omega), if_neg hne]
  exact h.has u h1 h2
theorem lgw_flush (h : LgW p g1 g2 bx g q w0 w s F n j L all m) : Calls Try.prog 34 #[.pointer (some ⟨q, 0, none⟩)] w (fun e w' => e = .returned (.int .i64 0) ∧ ∃ (s : Mr (Mu.one p g1 g2)) (F' : Nat → Prop), LgW p g1 g2 bx g q w0 w' s F' n j L all 0 ∧ Mv (LogL (Mu.one p g1 g2) (gdS litS bx) g q litS) w F w' (s, lgV n j) F') := by
  refine (lgm_flush h.lg).mono ?_
  rintro e w' ⟨rfl, s', F', hlg, hmv⟩
  exact ⟨rfl, s', F', ⟨hlg, h.len, h.has, h.n4⟩, hmv⟩
theorem lgm_split {l : Lg} {G : Gd} {x : Md} (h : LgM p g1 g2 G g q w0 w s l F x 0) :
    ∃ FD FO, Mu.LD p g1 g2 w0 w s.d FD x.l0 x.l1 x.o0 x.o1 0 ∧ (OwnL g q litS).At w l FO ∧ (∀ k, FD k → FO k → False) ∧ (∀ k, FD k → F k) ∧ ∀ k, FO k → F k := by
  obtain ⟨F1, F2, h1, h2, hd, hF⟩ := h.live.at_
  have hlm : Mu.LM p g1 g2 G g w0 w s F1 x 0 := ⟨⟨h1, fun k hk => h.live.new k ((hF k).2 (.inl hk)), h.live.bel⟩, h.sees, h.dry⟩
  obtain ⟨FD, hld, hs⟩ := lm_devs hlm
  exact ⟨FD, F2, hld, h2, fun k hk => hd k (hs k hk), fun k hk => (hF k).2 (.inl (hs k hk)), fun k hk => (hF k).2 (.inr hk)⟩
/-- What is found, by what stood there. -/
theorem found_has {fd : List Fd} {N t : Nat} (hp : (fd.map Fd.it).Perm (baseF litSumL L L N)) {p : Nat × List UInt8} (h : seenA litSumL L (2 + t) = some p) (hN : 2 + t < N) : ∃ (k : Nat) (x : Fd), fd[k]? = some x ∧ x.b = p.2 := by
  have h1 := mem_base h (by omega) hN
  have h2 := hp.symm.subset h1
  obtain ⟨x, hx, e⟩ := List.mem_map.1 h2
  obtain ⟨k, hk⟩ := List.getElem?_of_mem hx
  refine ⟨k, x, hk, ?_⟩
  have : x.it = (2 + t, p.1, p.2) := e
  injection this with _ e2
  injection e2 with _ e3
theorem moves_at {n : Nat} {all : List (List UInt8)} (hl : all.length = 3 * n) {i : Nat} (hi : i < 3 * n) : ∃ t, n ≤ t ∧ t < 4 * n ∧ (all ++ all.take n).getD t [] = all.getD i [] := by
  by_cases h : n ≤ i
  · exact ⟨i, h, by omega, by rw [List.getD_eq_getElem?_getD, List.getElem?_append_left (by omega), ← List.getD_eq_getElem?_getD]⟩
  · refine ⟨3 * n + i, by omega, by omega, ?_⟩
    rw [List.getD_eq_getElem?_getD, List.getElem?_append_right (by omega), hl, Nat.add_sub_cancel_left, List.getElem?_take_of_lt (by omega), ← List.getD_eq_getElem?_getD]
theorem moves_snoc {all l1 : List (List UInt8)} {t : List UInt8} {i N1 : Nat} (hl : all.length = i) (h : ∀ u, u < i → all.getD u [] = l1.getD (u % N1) [] ∧ (all.getD u []).length ≤ 103) (ht : l1.getD (i % N1) [] = t) (hb : ¬103 < t.length) : ∀ u, u < i + 1 → (all ++ [t]).getD u [] = l1.getD (u % N1) [] ∧ ((all ++ [t]).getD u []).length ≤ 103 := fun u hu => by
  by_cases hui : u < i
  · have e : (all ++ [t]).getD u [] = all.getD u [] := by rw [List.getD_eq_getElem?_getD, List.getElem?_append_left (by omega), ← List.getD_eq_getElem?_getD]
    rw [e]; exact h u hui
  · have hui : u = i := by omega
    have e : (all ++ [t]).getD u [] = t := by rw [hui, List.getD_eq_getElem?_getD, List.getElem?_append_right (by omega), hl, Nat.sub_self]; rfl
    rw [e, hui]; exact ⟨ht.symm, by omega⟩
theorem moves_take {all : List (List UInt8)} {t : List UInt8} {i n : Nat} (hl : all.length = i) (hi : i < n) : (all ++ [t]).take n = all.take n ++ [t] := by
  rw [List.take_append, List.take_of_length_le (show all.length ≤ n by omega), List.take_of_length_le (by simp; omega)]
theorem moves_take2 {all : List (List UInt8)} {t : List UInt8} {i n : Nat} (hl : all.length = i) (hi : ¬i < n) : (all ++ [t]).take n = all.take n := by
  rw [List.take_append_of_le_length (by omega)]
theorem orow_small {w w1 wr : World} {A : Option Addr} {no c n : Nat} {all : List (List UInt8)} (h : Orow w w1 wr A no c (all.take n)) (hn : 1 ≤ n ∧ n ≤ 4) : no ≤ 24 := by
  have h1 := h.len
  rw [List.length_take] at h1
  omega
/-- What is found, whatever the log knows then. -/
theorem open_found {L0 L1 : List (List UInt8)} {N a sz : Nat} (h : Mu.LM p g1 g2 (gdS litS bx) g w0 w s F (Sc.startM L0 L1 N) m) (h0 : L0.length = N) (h1 : L1.length = N) (hm : m < 800000) (hok : Sg.okS (a : Int) (sz : Int)) (hn : 2 + a * sz ≤ N) :
    Calls Try.prog 41 #[.pointer (some ⟨g, 0, none⟩), litS.v, .agg #[.int .i64 a, .int .i64 sz]] w (fun e w' => ∃ (q : Nat) (A : Option Addr) (k c : Nat) (fd : List Fd) (FF : Nat → Prop), e = .returned (.tuple #[.pointer (some ⟨q, 0, none⟩), .slice A k c, .int .i64 0]) ∧
      (FdL A k c).At w' fd FF ∧ (fd.map Fd.it).Perm (baseF litSumL L0 L1 (2 + a * sz)) ∧ k < 3000 ∧ But F w w') := by
  have hN : a * sz ≤ 64 * 32 := by unfold Sg.okS at hok; exact Nat.mul_le_mul (by omega) (by omega)
  have hsr := srch_start (gdS_f bx) h0 h1 (a * sz) (by omega)
  rw [Nat.add_comm (a * sz) 2] at hsr
  have hst : (Sc.startM L0 L1 N).a.length = N := Sc.start_len
  refine (open_raw h.live.at_ h.sees h.dry a sz hok (by omega) (by rw [hst]; exact hn) (by rw [hsr]; rfl)).mono ?_
  rintro e w' ⟨q, A, k, c, l, s', F', FF, rfl, -, -, -, hfd, hp, -, -, -, -, hb⟩
  have hlen : l.length = k := fd_len hfd
  have h3 := srch_len litS.f (gdS litS bx).f (Sc.startM L0 L1 N) (a * sz)
  have h4 := hp.length_eq
  rw [List.length_map] at h4
  rw [hsr] at hp
  exact ⟨q, A, k, c, l, FF, rfl, hfd, hp, by omega, hb⟩
end
end Go.Proofs.Ythadomboiockhaa.Lo
