/-
  Texts of this seat, one behind the other: MiOneP, MiAct.
-/
import Derived.Test.YtfofkjcdohmkpaaMm4
/-
  The law MirrorOne: what stays so, whatever is done to the second device. No program.
-/
namespace Go.Proofs.Ytfofkjcdohmkpaa.Mi
open Kd
/-- The first device is there, nothing of it is stale; what was wanted, and may stand, is there. -/
structure One (x : Md) (W : List (List UInt8)) : Prop where
  o0 : x.o0 = false
  a : x.a = List.replicate 6 false
  n0 : x.l0.length = 6
  wl : W.length = 6
  w3 : ∀ s ∈ W, s.length = 128
  good : ∀ n : Nat, n < 6 → goodN n (W.getD n zeroS) = true → x.l0.getD n zeroS = W.getD n zeroS
theorem rep_getD {k n : Nat} (hk : k < n) : (List.replicate n false).getD k false = false := by rw [List.getD_eq_getElem?_getD, List.getElem?_replicate, if_pos hk]; rfl
section
variable {x : Md} {W : List (List UInt8)}
theorem one_new : One (Md.new 6) (List.replicate 6 zeroS) where
  o0 := rfl
  a := rfl
  n0 := List.length_replicate
  wl := List.length_replicate
  w3 s hs := by rw [List.eq_of_mem_replicate hs]; exact zeroS_length
  good n _ _ := by rw [Md.new]
theorem One.len (h : One x W) : x.a.length = 6 := by rw [h.a, List.length_replicate]
theorem One.right (h : One x W) {k : Nat} (hk : k < 6) : x.right goodN 0 k = goodN k (x.l0.getD k zeroS) := by
  show (!(x.a.getD k false) && (!x.o0 && goodN k (x.l0.getD k zeroS))) = _
  rw [h.a, rep_getD hk, h.o0, Bool.not_false, Bool.true_and, Bool.true_and]
theorem One.flush (h : One x W) : (x.o0 && x.o1) = false := by rw [h.o0]; rfl
theorem One.write (h : One x W) {k : Nat} (hk : k < 6) (y : List UInt8) (hy : y.length = 128) : (x.write (k : Int) y).1 = 0 ∧ One (x.write (k : Int) y).2 (W.set k y) := by
  rw [write_eq (by rw [h.len]; exact hk) h.flush, h.o0]
  refine ⟨rfl, rfl, ?_, ?_, ?_, ?_, fun n hn hg => ?_⟩
  · show x.a.set k false = _
    rw [h.a, rep_set]
  · show (x.l0.set k y).length = 6
    rw [List.length_set]; exact h.n0
  · rw [List.length_set]; exact h.wl
  · exact set_ok h.w3 hy k
  · show (x.l0.set k y).getD n zeroS = _
    by_cases e : n = k
    · subst e; rw [getD_set_eq (by rw [h.n0]; exact hk), getD_set_eq (by rw [h.wl]; exact hk)]
    · rw [getD_set_ne e] at hg ⊢
      rw [getD_set_ne e]
      exact h.good n hn hg
/-- What is done to the second device alone. -/
theorem One.other {x' : Md} (h : One x W) (h0 : x'.o0 = x.o0) (ha : x'.a = x.a) (hl : x'.l0 = x.l0) : One x' W := ⟨h0.trans h.o0, ha.trans h.a, by rw [hl]; exact h.n0, h.wl, h.w3, by rw [hl]; exact h.good⟩
theorem mend1 (x : Md) (k : Nat) (y : List UInt8) : (x.mend 1 k y).o0 = x.o0 ∧ (x.mend 1 k y).a = x.a ∧ (x.mend 1 k y).l0 = x.l0 := ⟨rfl, rfl, rfl⟩
theorem catch1_1 (f : Int → List UInt8 → Bool) (x : Md) (k : Nat) : (x.catch1 f 1 k).o0 = x.o0 ∧ (x.catch1 f 1 k).a = x.a ∧ (x.catch1 f 1 k).l0 = x.l0 := by
  rw [Md.catch1]; split
  · exact mend1 _ _ _
  · exact ⟨rfl, rfl, rfl⟩
theorem catchTo_1 (f : Int → List UInt8 → Bool) (x : Md) : ∀ k, (x.catchTo f 1 k).o0 = x.o0 ∧ (x.catchTo f 1 k).a = x.a ∧ (x.catchTo f 1 k).l0 = x.l0
  | 0 => ⟨rfl, rfl, rfl⟩
  | k + 1 => by
    obtain ⟨a, b, c⟩ := catchTo_1 f x k
    obtain ⟨d, e, g⟩ := catch1_1 f (x.catchTo f 1 k) k
    exact ⟨d.trans a, e.trans b, g.trans c⟩
theorem One.sync (h : One x W) : One (x.sync goodN).2 W := by
  rw [Md.sync]
  split
  · exact h
  · have h0 : x.catchTo goodN 0 x.a.length = x := catchTo_zero _ (fun j hj => by
      show x.a.getD j false = false
      rw [h.len] at hj
      rw [h.a, rep_getD hj])
    obtain ⟨a, b, c⟩ := catchTo_1 goodN x x.a.length
    refine h.other (x' := x.caught goodN) ?_ ?_ ?_
    · rw [Md.caught, h0]; exact a
    · rw [Md.caught, h0]; exact b
    · rw [Md.caught, h0]; exact c
theorem One.heal (h : One x W) (n : Int) : One (x.heal goodN n).2 W := by
  rw [Md.heal]
  cases hh : x.has n with
  | false => exact h
  | true =>
    obtain ⟨k, rfl, hk⟩ := has_place hh
    rw [h.len] at hk
    rw [if_pos rfl, Int.toNat_natCast]
    split
    · exact h
    · cases h0 : x.right goodN 0 k with
      | true =>
        simp only [if_true]
        split
        · exact h
        · exact h.other (mend1 _ _ _).1 (mend1 _ _ _).2.1 (mend1 _ _ _).2.2
      | false =>
        simp only [Bool.false_eq_true, if_false]
        split
        · refine ⟨h.o0, ?_, ?_, h.wl, h.w3, fun j hj hg => ?_⟩
          · show x.a.set k false = _
            rw [h.a, rep_set]
          · show (x.l0.set k _).length = 6
            rw [List.length_set]; exact h.n0
          · show (x.l0.set k _).getD j zeroS = _
            by_cases e : j = k
            · subst e
              rw [h.right hk, h.good j hj hg, hg] at h0
              cases h0
            · rw [getD_set_ne e]; exact h.good j hj hg
        · exact h
theorem One.out (h : One x W) (on : Bool) : One (x.out 1 on) W := h.other rfl rfl rfl
theorem One.rot (h : One x W) (n a : Int) (b : UInt8) : One (x.rot 1 n a b) W := by
  rw [Md.rot]; split
  · exact h.other rfl rfl rfl
  · exact h
theorem One.read_yes (h : One x W) {k : Nat} (hk : k < 6) (hg : goodN k (W.getD k zeroS) = true) : x.read goodN (k : Int) = (W.getD k zeroS, 0) := by
  rw [read_eq (by rw [h.len]; exact hk), h.right hk, h.good k hk hg, hg, if_pos rfl]
theorem One.read_no (h : One x W) {k : Nat} (hk : k < 6) (hg : goodN k (W.getD k zeroS) = false) : (x.read goodN (k : Int)).2 = 0 → (x.read goodN (k : Int)).1 ≠ W.getD k zeroS := by
  rw [read_eq (by rw [h.len]; exact hk), h.right hk]
  cases h0 : goodN k (x.l0.getD k zeroS) with
  | true =>
    simp only [if_true]
    intro _ e
    rw [e, hg] at h0; cases h0
  | false =>
    simp only [Bool.false_eq_true, if_false]
    cases h1 : x.right goodN 1 k with
    | true =>
      simp only [if_true]
      intro _ e
      have h2 : goodN k (x.l1.getD k zeroS) = true := by
        have : (!(x.b.getD k false) && (!x.o1 && goodN k (x.l1.getD k zeroS))) = true := h1
        simp at this
        exact this.2.2
      rw [e, hg] at h2; cases h2
    | false =>
      simp only [Bool.false_eq_true, if_false]
      intro e
      rw [h.flush] at e; simp at e
end
end Go.Proofs.Ytfofkjcdohmkpaa.Mi
/-
  Acts: how a row of them that came in is opened, and how one is read.
-/
namespace Go.Proofs.Ytfofkjcdohmkpaa.Mi
open Go.RowKit Kd
/-- An act: Kind, N, X, Y, On. -/
structure Ac where
  kind : Int
  n : Int
  x : UInt8
  y : UInt8
  on : Bool
def acV (a : Ac) : List Value := [.int .i64 a.kind, .int .i64 a.n, .int .u8 (a.x.toNat : Int), .int .u8 (a.y.toNat : Int), .bool a.on]
def acs : List Ac → List Value
  | [] => []
  | x :: l => acV x ++ acs l
theorem acs_append (a b : List Ac) : acs (a ++ b) = acs a ++ acs b := by
  induction a with
  | nil => rfl
  | cons x l ih => simp [acs, ih]
theorem acV_length (x : Ac) : (acV x).length = 5 := rfl
theorem acs_length (l : List Ac) : (acs l).length = l.length * 5 := by
  induction l with
  | nil => rfl
  | cons x l ih => rw [acs, List.length_append, acV_length, ih, List.length_cons]; omega
theorem acs_get {l : List Ac} {k : Nat} (hk : k < l.length) {j : Nat} {v : Value} (hv : (acV l[k])[j]? = some v) : (acs l)[5 * k + j]? = some v := by
  induction l generalizing k with
  | nil => simp at hk
  | cons x l ih =>
    cases k with
    | zero =>
      have hj : j < 5 := (List.getElem?_eq_some_iff.1 hv).1
      rw [acs, Nat.mul_zero, Nat.zero_add, List.getElem?_append_left (by rw [acV_length]; omega)]
      exact hv
    | succ k =>
      rw [acs, List.getElem?_append_right (by rw [acV_length]; omega), acV_length, show 5 * (k + 1) + j - 5 = 5 * k + j by omega]
      exact ih (by simpa using hk) (by simpa using hv)
/-- All of a deed's numbers are numbers. -/
def Ac.ok (x : Ac) : Prop := (-9223372036854775808 ≤ x.kind ∧ x.kind ≤ 9223372036854775807) ∧ (-9223372036854775808 ≤ x.n ∧ x.n ≤ 9223372036854775807)
/-- A deed of a row, read. -/
theorem rd_act {B : Nat} {w : World} {A : Option Addr} {l : List Ac} (h : Rd B w A (acs l)) {k : Nat} (hk : k < l.length) :
    ∃ ad, A = some ad ∧ ad.block < B ∧ ∀ j v, (acV l[k])[j]? = some v → w.cell? ((ad.add (k * 5)).add j) = some v := by
  obtain ⟨ad, hA, hb, _⟩ := h _ _ (acs_get hk (j := 0) (v := .int .i64 l[k].kind) rfl)
  refine ⟨ad, hA, hb, fun j v hv => ?_⟩
  obtain ⟨ad', hA', _, hc⟩ := h _ _ (acs_get hk hv)
  rw [hA] at hA'; injection hA' with hA'
  rw [hA', add_twice8, Nat.mul_comm k 5]
  exact hc
section
open Go.ChangeShapes Go.WideShapes
variable {H : Type} {enc : TypeId × Value → H} {w : World} {base : Nat} {spare : Nat → Bool} {held : Bool}
theorem act_fields : (Try.prog.fieldsOf 61).toList.map (fun f => (f.name == "_", f.type, f.offset)) = [(false, 3, 0), (false, 3, 1), (false, 5, 2), (false, 5, 3), (false, 4, 4)] := by kernel_rfl
theorem act_under : Try.prog.underlying 61 = some (.struct (Try.prog.fieldsOf 61)) := by kernel_rfl
set_option maxRecDepth 100000 in
theorem act_of_trod {fuel : Nat} {cs : List Value} {x : DataW H × List MemPlace} (h : DataW.trod enc Try.prog w base spare held fuel 61 cs = some x) :
    ∃ y : Ac, cs = acV y ∧ y.ok := by
  obtain ⟨xs, n, _, _, hl, hlen, hf⟩ := DataW.trod_struct act_under h
  have hfs := act_fields
  have hcn : Try.prog.cellsOf 61 = 5 := by kernel_rfl
  have hci : Try.prog.cellsOf 3 = 1 := by kernel_rfl
  have hcb : Try.prog.cellsOf 5 = 1 := by kernel_rfl
  have hco : Try.prog.cellsOf 4 = 1 := by kernel_rfl
  generalize Try.prog.fieldsOf 61 = fs at hfs hlen hf
  rw [hcn] at hl
  obtain ⟨L⟩ := fs
  have hL5 : L.length = 5 := by simpa using congrArg List.length hfs
  match L, hL5, hfs, hf, hlen with
  | [f0, f1, f2, f3, f4], _, hfs, hf, hlen =>
    simp only [List.map_cons, List.map_nil, List.cons.injEq, Prod.mk.injEq, and_true] at hfs
    obtain ⟨⟨_, t0, o0⟩, ⟨_, t1, o1⟩, ⟨_, t2, o2⟩, ⟨_, t3, o3⟩, ⟨_, t4, o4⟩⟩ := hfs
    have h5 : xs.length = 5 := hlen
    have g0 := hf 0 f0 rfl
    have g1 := hf 1 f1 rfl
    have g2 := hf 2 f2 rfl
    have g3 := hf 3 f3 rfl
    have g4 := hf 4 f4 rfl
    rw [t0, o0, hci, List.getElem?_eq_getElem (by omega)] at g0
    rw [t1, o1, hci, List.getElem?_eq_getElem (by omega)] at g1
    rw [t2, o2, hcb, List.getElem?_eq_getElem (by omega)] at g2
    rw [t3, o3, hcb, List.getElem?_eq_getElem (by omega)] at g3
    rw [t4, o4, hco, List.getElem?_eq_getElem (by omega)] at g4
    obtain ⟨a0, e0, _, w0⟩ := DataW.trod_int Try.underlying3 g0
    obtain ⟨a1, e1, _, w1⟩ := DataW.trod_int Try.underlying3 g1
    obtain ⟨a2, e2, _, w2⟩ := DataW.trod_int Try.underlying5 g2
    obtain ⟨a3, e3, _, w3⟩ := DataW.trod_int Try.underlying5 g3
    obtain ⟨a4, e4, _⟩ := DataW.trod_bool Try.underlying4 g4
    match cs, hl with
    | [u0, u1, u2, u3, u4], _ =>
      simp at e0 e1 e2 e3 e4
      exact ⟨⟨a0, a1, byteOf a2, byteOf a3, a4⟩, by rw [e0, e1, e2, e3, e4]; unfold acV; rw [byteOf_val w2, byteOf_val w3], bounds_i64 w0, bounds_i64 w1⟩
/-- A row of deeds that came in. -/
theorem open_acts {a : Option Addr} {len cap : Nat} {d : DataW H} {ps : List MemPlace} (h : DataW.Trod enc Try.prog w base spare held 51 (.slice a len cap) d ps) :
    ∃ l : List Ac, l.length = len ∧ len ≤ cap ∧ cap ≤ maxLen ∧ Rd w.heap.size w a (acs l) ∧ ∀ y ∈ l, y.ok := by
  obtain ⟨fuel, hf⟩ := h
  have hf' : DataW.trod enc Try.prog w base spare held fuel 51 [Value.slice a len cap] = some (d, ps) := hf
  have hcn : Try.prog.cellsOf 61 = 5 := by kernel_rfl
  rcases Go.Deep.open_slice Try.underlying51 hf' with ⟨hcs, _⟩ | ⟨a', len', cap', m, n, D, Pl, hcs, _, hl, hm, hmm, _, hx⟩
  · simp only [List.cons.injEq, and_true] at hcs
    injection hcs with e1 e2 e3
    subst e1; subst e2; subst e3
    exact ⟨[], rfl, Nat.le_refl _, Nat.zero_le _, Rd.none, fun y hy => by simp at hy⟩
  · simp only [List.cons.injEq, and_true] at hcs
    injection hcs with e1 e2 e3
    subst e1; subst e2; subst e3
    have hlm : len ≤ m := by rw [hmm]; split <;> omega
    rw [hcn] at hx
    have hall : ∀ j, j ≤ len → ∃ l : List Ac, l.length = j ∧ (∀ y ∈ l, y.ok) ∧ ∀ k u, (acs l)[k]? = some u → w.cell? (a'.add k) = some u := by
      intro j
      induction j with
      | zero => exact fun _ => ⟨[], rfl, fun y hy => by simp at hy, fun k u hu => by simp [acs] at hu⟩
      | succ j ih =>
        intro hj
        obtain ⟨l, hl', hb, hc⟩ := ih (by omega)
        obtain ⟨cs', h1, h2⟩ := hx j (by omega)
        obtain ⟨y, hy, hyb⟩ := act_of_trod h2
        obtain ⟨_, _, hcl⟩ := World.cells?_some h1
        have hnl : (acs l).length = j * 5 := by rw [acs_length, hl']
        refine ⟨l ++ [y], by simp [hl'], fun z hz => ?_, fun k u hu => ?_⟩
        · rcases List.mem_append.1 hz with hz | hz
          · exact hb z hz
          · rw [List.mem_singleton] at hz; rw [hz]; exact hyb
        · rw [acs_append] at hu
          rcases Nat.lt_or_ge k (acs l).length with hk | hk
          · rw [List.getElem?_append_left hk] at hu
            exact hc k u hu
          · rw [List.getElem?_append_right hk, acs, acs, List.append_nil, ← hy, hnl] at hu
            have hk5 : k - j * 5 < 5 := by
              have := (List.getElem?_eq_some_iff.1 hu).1
              rw [hy, acV_length] at this; exact this
            have h3 := hcl (k - j * 5) hk5
            rw [add_twice8, show j * 5 + (k - j * 5) = k by omega, hu] at h3
            exact h3
    obtain ⟨l, hl', hb, hc⟩ := hall len (Nat.le_refl _)
    refine ⟨l, hl', hl, hm, fun k u hu => ⟨a', rfl, ?_, hc k u hu⟩, hb⟩
    have := World.block_lt_of_cell? _ _ (hc k u hu)
    rw [add_block] at this
    exact this
end
end Go.Proofs.Ytfofkjcdohmkpaa.Mi
