/-
  Deeds: how a row of them that came in is opened, and how one is read.
-/
import Derived.Test.YtolbffcbamfbeaaKdGuard
import Derived.Test.YtolbffcbamfbeaaOpen
namespace Go.Proofs.Ytolbffcbamfbeaa.Kd
open Go.RowKit
/-- A deed: On, Kind, N, M, C. -/
structure Dd where
  on : Int
  kind : Int
  n : Int
  m : Int
  c : UInt8
def ddV (x : Dd) : List Value := [.int .i64 x.on, .int .i64 x.kind, .int .i64 x.n, .int .i64 x.m, .int .u8 (x.c.toNat : Int)]
def ddN : Dd := ⟨0, 0, 0, 0, 0⟩
def dds : List Dd → List Value
  | [] => []
  | x :: l => ddV x ++ dds l
theorem dds_append (a b : List Dd) : dds (a ++ b) = dds a ++ dds b := by
  induction a with
  | nil => rfl
  | cons x l ih => simp [dds, ih]
theorem ddV_length (x : Dd) : (ddV x).length = 5 := rfl
theorem dds_length (l : List Dd) : (dds l).length = l.length * 5 := by
  induction l with
  | nil => rfl
  | cons x l ih => rw [dds, List.length_append, ddV_length, ih, List.length_cons]; omega
theorem dds_get {l : List Dd} {k : Nat} (hk : k < l.length) {j : Nat} {v : Value} (hv : (ddV l[k])[j]? = some v) : (dds l)[5 * k + j]? = some v := by
  induction l generalizing k with
  | nil => simp at hk
  | cons x l ih =>
    cases k with
    | zero =>
      have hj : j < 5 := (List.getElem?_eq_some_iff.1 hv).1
      rw [dds, Nat.mul_zero, Nat.zero_add, List.getElem?_append_left (by rw [ddV_length]; omega)]
      exact hv
    | succ k =>
      rw [dds, List.getElem?_append_right (by rw [ddV_length]; omega), ddV_length, show 5 * (k + 1) + j - 5 = 5 * k + j by omega]
      exact ih (by simpa using hk) (by simpa using hv)
/-- All of a deed's numbers are numbers. -/
def Dd.ok (x : Dd) : Prop := (-9223372036854775808 ≤ x.on ∧ x.on ≤ 9223372036854775807) ∧ (-9223372036854775808 ≤ x.kind ∧ x.kind ≤ 9223372036854775807) ∧ (-9223372036854775808 ≤ x.n ∧ x.n ≤ 9223372036854775807) ∧ (-9223372036854775808 ≤ x.m ∧ x.m ≤ 9223372036854775807)
/-- A deed of a row, read. -/
theorem rd_deed {B : Nat} {w : World} {A : Option Addr} {l : List Dd} (h : Rd B w A (dds l)) {k : Nat} (hk : k < l.length) :
    ∃ ad, A = some ad ∧ ad.block < B ∧ ∀ j v, (ddV l[k])[j]? = some v → w.cell? ((ad.add (k * 5)).add j) = some v := by
  obtain ⟨ad, hA, hb, _⟩ := h _ _ (dds_get hk (j := 0) (v := .int .i64 l[k].on) rfl)
  refine ⟨ad, hA, hb, fun j v hv => ?_⟩
  obtain ⟨ad', hA', _, hc⟩ := h _ _ (dds_get hk hv)
  rw [hA] at hA'; injection hA' with hA'
  rw [hA', add_twice8, Nat.mul_comm k 5]
  exact hc
section
open Go.ChangeShapes Go.WideShapes
variable {H : Type} {enc : TypeId × Value → H} {w : World} {base : Nat} {spare : Nat → Bool} {held : Bool}
theorem deed_fields : (Try.prog.fieldsOf 36).toList.map (fun f => (f.name == "_", f.type, f.offset)) = [(false, 3, 0), (false, 3, 1), (false, 3, 2), (false, 3, 3), (false, 5, 4)] := by kernel_rfl
theorem deed_under : Try.prog.underlying 36 = some (.struct (Try.prog.fieldsOf 36)) := by kernel_rfl
set_option maxRecDepth 100000 in
theorem deed_of_trod {fuel : Nat} {cs : List Value} {x : DataW H × List MemPlace} (h : DataW.trod enc Try.prog w base spare held fuel 36 cs = some x) :
    ∃ y : Dd, cs = ddV y ∧ y.ok := by
  obtain ⟨xs, n, _, _, hl, hlen, hf⟩ := DataW.trod_struct deed_under h
  have hfs := deed_fields
  have hcn : Try.prog.cellsOf 36 = 5 := by kernel_rfl
  have hci : Try.prog.cellsOf 3 = 1 := by kernel_rfl
  have hcb : Try.prog.cellsOf 5 = 1 := by kernel_rfl
  generalize Try.prog.fieldsOf 36 = fs at hfs hlen hf
  rw [hcn] at hl
  obtain ⟨L⟩ := fs
  have hL5 : L.length = 5 := by simpa using congrArg List.length hfs
  match L, hL5, hfs, hf, hlen with
  | [f0, f1, f2, f3, f4], _, hfs, hf, hlen =>
    simp only [List.map_cons, List.map_nil, List.cons.injEq, Prod.mk.injEq, and_true] at hfs
    obtain ⟨⟨_, t0, o0⟩, ⟨_, t1, o1⟩, ⟨_, t2, o2⟩, ⟨_, t3, o3⟩, ⟨_, t4, o4⟩⟩ := hfs
    have h5 : xs.length = 5 := hlen
    have g0 := hf 0 f0 rfl
    have g1 := hf 1 f1 rfl
    have g2 := hf 2 f2 rfl
    have g3 := hf 3 f3 rfl
    have g4 := hf 4 f4 rfl
    rw [t0, o0, hci, List.getElem?_eq_getElem (by omega)] at g0
    rw [t1, o1, hci, List.getElem?_eq_getElem (by omega)] at g1
    rw [t2, o2, hci, List.getElem?_eq_getElem (by omega)] at g2
    rw [t3, o3, hci, List.getElem?_eq_getElem (by omega)] at g3
    rw [t4, o4, hcb, List.getElem?_eq_getElem (by omega)] at g4
    obtain ⟨a0, e0, _, w0⟩ := DataW.trod_int Try.underlying3 g0
    obtain ⟨a1, e1, _, w1⟩ := DataW.trod_int Try.underlying3 g1
    obtain ⟨a2, e2, _, w2⟩ := DataW.trod_int Try.underlying3 g2
    obtain ⟨a3, e3, _, w3⟩ := DataW.trod_int Try.underlying3 g3
    obtain ⟨a4, e4, _, w4⟩ := DataW.trod_int Try.underlying5 g4
    match cs, hl with
    | [u0, u1, u2, u3, u4], _ =>
      simp at e0 e1 e2 e3 e4
      exact ⟨⟨a0, a1, a2, a3, byteOf a4⟩, by rw [e0, e1, e2, e3, e4]; unfold ddV; rw [byteOf_val w4], bounds_i64 w0, bounds_i64 w1, bounds_i64 w2, bounds_i64 w3⟩
/-- A row of deeds that came in. -/
theorem open_deeds {a : Option Addr} {len cap : Nat} {d : DataW H} {ps : List MemPlace} (h : DataW.Trod enc Try.prog w base spare held 22 (.slice a len cap) d ps) :
    ∃ l : List Dd, l.length = len ∧ len ≤ cap ∧ cap ≤ maxLen ∧ Rd w.heap.size w a (dds l) ∧ ∀ y ∈ l, y.ok := by
  obtain ⟨fuel, hf⟩ := h
  have hf' : DataW.trod enc Try.prog w base spare held fuel 22 [Value.slice a len cap] = some (d, ps) := hf
  have hcn : Try.prog.cellsOf 36 = 5 := by kernel_rfl
  rcases Go.Deep.open_slice Try.underlying22 hf' with ⟨hcs, _⟩ | ⟨a', len', cap', m, n, D, Pl, hcs, _, hl, hm, hmm, _, hx⟩
  · simp only [List.cons.injEq, and_true] at hcs
    injection hcs with e1 e2 e3
    subst e1; subst e2; subst e3
    exact ⟨[], rfl, Nat.le_refl _, Nat.zero_le _, Rd.none, fun y hy => by simp at hy⟩
  · simp only [List.cons.injEq, and_true] at hcs
    injection hcs with e1 e2 e3
    subst e1; subst e2; subst e3
    have hlm : len ≤ m := by rw [hmm]; split <;> omega
    rw [hcn] at hx
    have hall : ∀ j, j ≤ len → ∃ l : List Dd, l.length = j ∧ (∀ y ∈ l, y.ok) ∧ ∀ k u, (dds l)[k]? = some u → w.cell? (a'.add k) = some u := by
      intro j
      induction j with
      | zero => exact fun _ => ⟨[], rfl, fun y hy => by simp at hy, fun k u hu => by simp [dds] at hu⟩
      | succ j ih =>
        intro hj
        obtain ⟨l, hl', hb, hc⟩ := ih (by omega)
        obtain ⟨cs', h1, h2⟩ := hx j (by omega)
        obtain ⟨y, hy, hyb⟩ := deed_of_trod h2
        obtain ⟨_, _, hcl⟩ := World.cells?_some h1
        have hnl : (dds l).length = j * 5 := by rw [dds_length, hl']
        refine ⟨l ++ [y], by simp [hl'], fun z hz => ?_, fun k u hu => ?_⟩
        · rcases List.mem_append.1 hz with hz | hz
          · exact hb z hz
          · rw [List.mem_singleton] at hz; rw [hz]; exact hyb
        · rw [dds_append] at hu
          rcases Nat.lt_or_ge k (dds l).length with hk | hk
          · rw [List.getElem?_append_left hk] at hu
            exact hc k u hu
          · rw [List.getElem?_append_right hk, dds, dds, List.append_nil, ← hy, hnl] at hu
            have hk5 : k - j * 5 < 5 := by
              have := (List.getElem?_eq_some_iff.1 hu).1
              rw [hy, ddV_length] at this; exact this
            have h3 := hcl (k - j * 5) hk5
            rw [add_twice8, show j * 5 + (k - j * 5) = k by omega, hu] at h3
            exact h3
    obtain ⟨l, hl', hb, hc⟩ := hall len (Nat.le_refl _)
    refine ⟨l, hl', hl, hm, fun k u hu => ⟨a', rfl, ?_, hc k u hu⟩, hb⟩
    have := World.block_lt_of_cell? _ _ (hc k u hu)
    rw [add_block] at this
    exact this
end
end Go.Proofs.Ytolbffcbamfbeaa.Kd
