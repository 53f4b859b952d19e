/-
  Texts of this seat, one behind the other: MiAct, ScBytes, MiGood, LateHeld, ScPair, ScLaw, ScAwake, OpenA.
-/
import Derived.OrdersHeld
import Derived.Deep.RegionHeld
import Derived.Laws.StructEq
import Derived.OpenShut
import Derived.ProofKit
import Derived.Test.YtniamllcoemikaaMs3
/-
  Acts: how a row of them that came in is opened, and how one is read.
-/
namespace Go.Proofs.Ytniamllcoemikaa.Mi
open Go.RowKit Kd
/-- An act: Kind, N, X, Y, On. -/
structure Ac where
  kind : Int
  n : Int
  x : UInt8
  y : UInt8
  on : Bool
def acV (a : Ac) : List Value := [.int .i64 a.kind, .int .i64 a.n, .int .u8 (a.x.toNat : Int), .int .u8 (a.y.toNat : Int), .bool a.on]
def acs : List Ac → List Value
  | [] => []
  | x :: l => acV x ++ acs l
theorem acs_append (a b : List Ac) : acs (a ++ b) = acs a ++ acs b := by
  induction a with
  | nil => rfl
  | cons x l ih => simp [acs, ih]
theorem acV_length (x : Ac) : (acV x).length = 5 := rfl
theorem acs_length (l : List Ac) : (acs l).length = l.length * 5 := by
  induction l with
  | nil => rfl
  | cons x l ih => rw [acs, List.length_append, acV_length, ih, List.length_cons]; omega
theorem acs_get {l : List Ac} {k : Nat} (hk : k < l.length) {j : Nat} {v : Value} (hv : (acV l[k])[j]? = some v) : (acs l)[5 * k + j]? = some v := by
  induction l generalizing k with
  | nil => simp at hk
  | cons x l ih =>
    cases k with
    | zero =>
      have hj : j < 5 := (List.getElem?_eq_some_iff.1 hv).1
      rw [acs, Nat.mul_zero, Nat.zero_add, List.getElem?_append_left (by rw [acV_length]; omega)]
      exact hv
    | succ k =>
      rw [acs, List.getElem?_append_right (by rw [acV_length]; omega), acV_length, show 5 * (k + 1) + j - 5 = 5 * k + j by omega]
      exact ih (by simpa using hk) (by simpa using hv)
/-- All of a deed's numbers are numbers. -/
def Ac.ok (x : Ac) : Prop := (-9223372036854775808 ≤ x.kind ∧ x.kind ≤ 9223372036854775807) ∧ (-9223372036854775808 ≤ x.n ∧ x.n ≤ 9223372036854775807)
/-- A deed of a row, read. -/
theorem rd_act {B : Nat} {w : World} {A : Option Addr} {l : List Ac} (h : Rd B w A (acs l)) {k : Nat} (hk : k < l.length) :
    ∃ ad, A = some ad ∧ ad.block < B ∧ ∀ j v, (acV l[k])[j]? = some v → w.cell? ((ad.add (k * 5)).add j) = some v := by
  obtain ⟨ad, hA, hb, _⟩ := h _ _ (acs_get hk (j := 0) (v := .int .i64 l[k].kind) rfl)
  refine ⟨ad, hA, hb, fun j v hv => ?_⟩
  obtain ⟨ad', hA', _, hc⟩ := h _ _ (acs_get hk hv)
  rw [hA] at hA'; injection hA' with hA'
  rw [hA', add_twice8, Nat.mul_comm k 5]
  exact hc
section
open Go.ChangeShapes Go.WideShapes
variable {H : Type} {enc : TypeId × Value → H} {w : World} {base : Nat} {spare : Nat → Bool} {held : Bool}
theorem act_fields : (Try.prog.fieldsOf 81).toList.map (fun f => (f.name == "_", f.type, f.offset)) = [(false, 3, 0), (false, 3, 1), (false, 5, 2), (false, 5, 3), (false, 4, 4)] := by kernel_rfl
theorem act_under : Try.prog.underlying 81 = some (.struct (Try.prog.fieldsOf 81)) := by kernel_rfl
set_option maxRecDepth 100000 in
theorem act_of_trod {fuel : Nat} {cs : List Value} {x : DataW H × List MemPlace} (h : DataW.trod enc Try.prog w base spare held fuel 81 cs = some x) :
    ∃ y : Ac, cs = acV y ∧ y.ok := by
  obtain ⟨xs, n, _, _, hl, hlen, hf⟩ := DataW.trod_struct act_under h
  have hfs := act_fields
  have hcn : Try.prog.cellsOf 81 = 5 := by kernel_rfl
  have hci : Try.prog.cellsOf 3 = 1 := by kernel_rfl
  have hcb : Try.prog.cellsOf 5 = 1 := by kernel_rfl
  have hco : Try.prog.cellsOf 4 = 1 := by kernel_rfl
  generalize Try.prog.fieldsOf 81 = fs at hfs hlen hf
  rw [hcn] at hl
  obtain ⟨L⟩ := fs
  have hL5 : L.length = 5 := by simpa using congrArg List.length hfs
  match L, hL5, hfs, hf, hlen with
  | [f0, f1, f2, f3, f4], _, hfs, hf, hlen =>
    simp only [List.map_cons, List.map_nil, List.cons.injEq, Prod.mk.injEq, and_true] at hfs
    obtain ⟨⟨_, t0, o0⟩, ⟨_, t1, o1⟩, ⟨_, t2, o2⟩, ⟨_, t3, o3⟩, ⟨_, t4, o4⟩⟩ := hfs
    have h5 : xs.length = 5 := hlen
    have g0 := hf 0 f0 rfl
    have g1 := hf 1 f1 rfl
    have g2 := hf 2 f2 rfl
    have g3 := hf 3 f3 rfl
    have g4 := hf 4 f4 rfl
    rw [t0, o0, hci, List.getElem?_eq_getElem (by omega)] at g0
    rw [t1, o1, hci, List.getElem?_eq_getElem (by omega)] at g1
    rw [t2, o2, hcb, List.getElem?_eq_getElem (by omega)] at g2
    rw [t3, o3, hcb, List.getElem?_eq_getElem (by omega)] at g3
    rw [t4, o4, hco, List.getElem?_eq_getElem (by omega)] at g4
    obtain ⟨a0, e0, _, w0⟩ := DataW.trod_int Try.underlying3 g0
    obtain ⟨a1, e1, _, w1⟩ := DataW.trod_int Try.underlying3 g1
    obtain ⟨a2, e2, _, w2⟩ := DataW.trod_int Try.underlying5 g2
    obtain ⟨a3, e3, _, w3⟩ := DataW.trod_int Try.underlying5 g3
    obtain ⟨a4, e4, _⟩ := DataW.trod_bool Try.underlying4 g4
    match cs, hl with
    | [u0, u1, u2, u3, u4], _ =>
      simp at e0 e1 e2 e3 e4
      exact ⟨⟨a0, a1, byteOf a2, byteOf a3, a4⟩, by rw [e0, e1, e2, e3, e4]; unfold acV; rw [byteOf_val w2, byteOf_val w3], bounds_i64 w0, bounds_i64 w1⟩
/-- A row of deeds that came in. -/
theorem open_acts {a : Option Addr} {len cap : Nat} {d : DataW H} {ps : List MemPlace} (h : DataW.Trod enc Try.prog w base spare held 74 (.slice a len cap) d ps) :
    ∃ l : List Ac, l.length = len ∧ len ≤ cap ∧ cap ≤ maxLen ∧ Rd w.heap.size w a (acs l) ∧ ∀ y ∈ l, y.ok := by
  obtain ⟨fuel, hf⟩ := h
  have hf' : DataW.trod enc Try.prog w base spare held fuel 74 [Value.slice a len cap] = some (d, ps) := hf
  have hcn : Try.prog.cellsOf 81 = 5 := by kernel_rfl
  rcases Go.Deep.open_slice Try.underlying74 hf' with ⟨hcs, _⟩ | ⟨a', len', cap', m, n, D, Pl, hcs, _, hl, hm, hmm, _, hx⟩
  · simp only [List.cons.injEq, and_true] at hcs
    injection hcs with e1 e2 e3
    subst e1; subst e2; subst e3
    exact ⟨[], rfl, Nat.le_refl _, Nat.zero_le _, Rd.none, fun y hy => by simp at hy⟩
  · simp only [List.cons.injEq, and_true] at hcs
    injection hcs with e1 e2 e3
    subst e1; subst e2; subst e3
    have hlm : len ≤ m := by rw [hmm]; split <;> omega
    rw [hcn] at hx
    have hall : ∀ j, j ≤ len → ∃ l : List Ac, l.length = j ∧ (∀ y ∈ l, y.ok) ∧ ∀ k u, (acs l)[k]? = some u → w.cell? (a'.add k) = some u := by
      intro j
      induction j with
      | zero => exact fun _ => ⟨[], rfl, fun y hy => by simp at hy, fun k u hu => by simp [acs] at hu⟩
      | succ j ih =>
        intro hj
        obtain ⟨l, hl', hb, hc⟩ := ih (by omega)
        obtain ⟨cs', h1, h2⟩ := hx j (by omega)
        obtain ⟨y, hy, hyb⟩ := act_of_trod h2
        obtain ⟨_, _, hcl⟩ := World.cells?_some h1
        have hnl : (acs l).length = j * 5 := by rw [acs_length, hl']
        refine ⟨l ++ [y], by simp [hl'], fun z hz => ?_, fun k u hu => ?_⟩
        · rcases List.mem_append.1 hz with hz | hz
          · exact hb z hz
          · rw [List.mem_singleton] at hz; rw [hz]; exact hyb
        · rw [acs_append] at hu
          rcases Nat.lt_or_ge k (acs l).length with hk | hk
          · rw [List.getElem?_append_left hk] at hu
            exact hc k u hu
          · rw [List.getElem?_append_right hk, acs, acs, List.append_nil, ← hy, hnl] at hu
            have hk5 : k - j * 5 < 5 := by
              have := (List.getElem?_eq_some_iff.1 hu).1
              rw [hy, acV_length] at this; exact this
            have h3 := hcl (k - j * 5) hk5
            rw [add_twice8, show j * 5 + (k - j * 5) = k by omega, hu] at h3
            exact h3
    obtain ⟨l, hl', hb, hc⟩ := hall len (Nat.le_refl _)
    refine ⟨l, hl', hl, hm, fun k u hu => ⟨a', rfl, ?_, hc k u hu⟩, hb⟩
    have := World.block_lt_of_cell? _ _ (hc k u hu)
    rw [add_block] at this
    exact this
end
end Go.Proofs.Ytniamllcoemikaa.Mi
/-
  Rows of pairs of bytes: how one that came in is opened, and how a pair is read; the sectors that begin so.
-/
namespace Go.Proofs.Ytniamllcoemikaa.Sc
open Go.RowKit Kd
def prV (a : UInt8 × UInt8) : List Value := [.int .u8 (a.1.toNat : Int), .int .u8 (a.2.toNat : Int)]
/-- The sector that begins so. -/
def sec2 (a : UInt8 × UInt8) : List UInt8 := a.1 :: a.2 :: List.replicate 126 0
theorem sec2_length (a : UInt8 × UInt8) : (sec2 a).length = 128 := by simp [sec2]
def prs : List (UInt8 × UInt8) → List Value
  | [] => []
  | x :: l => prV x ++ prs l
theorem prs_append (a b : List (UInt8 × UInt8)) : prs (a ++ b) = prs a ++ prs b := by
  induction a with
  | nil => rfl
  | cons x l ih => simp [prs, ih]
theorem prV_length (x : UInt8 × UInt8) : (prV x).length = 2 := rfl
theorem prs_length (l : List (UInt8 × UInt8)) : (prs l).length = l.length * 2 := by
  induction l with
  | nil => rfl
  | cons x l ih => rw [prs, List.length_append, prV_length, ih, List.length_cons]; omega
theorem prs_get {l : List (UInt8 × UInt8)} {k : Nat} (hk : k < l.length) {j : Nat} {v : Value} (hv : (prV l[k])[j]? = some v) : (prs l)[2 * k + j]? = some v := by
  induction l generalizing k with
  | nil => simp at hk
  | cons x l ih =>
    cases k with
    | zero =>
      have hj : j < 2 := (List.getElem?_eq_some_iff.1 hv).1
      rw [prs, Nat.mul_zero, Nat.zero_add, List.getElem?_append_left (by rw [prV_length]; omega)]
      exact hv
    | succ k =>
      rw [prs, List.getElem?_append_right (by rw [prV_length]; omega), prV_length, show 2 * (k + 1) + j - 2 = 2 * k + j by omega]
      exact ih (by simpa using hk) (by simpa using hv)
/-- A deed of a row, read. -/
theorem rd_pair {B : Nat} {w : World} {A : Option Addr} {l : List (UInt8 × UInt8)} (h : Rd B w A (prs l)) {k : Nat} (hk : k < l.length) :
    ∃ ad, A = some ad ∧ ad.block < B ∧ ∀ j v, (prV l[k])[j]? = some v → w.cell? ((ad.add (k * 2)).add j) = some v := by
  obtain ⟨ad, hA, hb, _⟩ := h _ _ (prs_get hk (j := 0) (v := .int .u8 (l[k].1.toNat : Int)) rfl)
  refine ⟨ad, hA, hb, fun j v hv => ?_⟩
  obtain ⟨ad', hA', _, hc⟩ := h _ _ (prs_get hk hv)
  rw [hA] at hA'; injection hA' with hA'
  rw [hA', add_twice8, Nat.mul_comm k 2]
  exact hc
section
open Go.ChangeShapes Go.WideShapes
variable {H : Type} {enc : TypeId × Value → H} {w : World} {base : Nat} {spare : Nat → Bool} {held : Bool}
set_option maxRecDepth 100000 in
theorem pair_of_trod {fuel : Nat} {cs : List Value} {x : DataW H × List MemPlace} (h : DataW.trod enc Try.prog w base spare held fuel 54 cs = some x) :
    ∃ y : UInt8 × UInt8, cs = prV y := by
  obtain ⟨xs, m, _, _, hl, hx, hel⟩ := DataW.trod_array Try.underlying54 h
  have hc : Try.prog.cellsOf 5 = 1 := by kernel_rfl
  have hcn : Try.prog.cellsOf 54 = 2 := by kernel_rfl
  have h2 : xs.length = 2 := hx
  rw [hcn] at hl
  have g0 := hel 0 (by omega)
  have g1 := hel 1 (by omega)
  rw [hc, List.getElem?_eq_getElem (by omega)] at g0 g1
  obtain ⟨a0, e0, _, w0⟩ := DataW.trod_int Try.underlying5 g0
  obtain ⟨a1, e1, _, w1⟩ := DataW.trod_int Try.underlying5 g1
  match cs, hl with
  | [u0, u1], _ =>
    simp at e0 e1
    exact ⟨(byteOf a0, byteOf a1), by rw [e0, e1]; unfold prV; rw [byteOf_val w0, byteOf_val w1]⟩
/-- A row of deeds that came in. -/
theorem open_pairs {a : Option Addr} {len cap : Nat} {d : DataW H} {ps : List MemPlace} (h : DataW.Trod enc Try.prog w base spare held 22 (.slice a len cap) d ps) :
    ∃ l : List (UInt8 × UInt8), l.length = len ∧ len ≤ cap ∧ cap ≤ maxLen ∧ Rd w.heap.size w a (prs l) := by
  obtain ⟨fuel, hf⟩ := h
  have hf' : DataW.trod enc Try.prog w base spare held fuel 22 [Value.slice a len cap] = some (d, ps) := hf
  have hcn : Try.prog.cellsOf 54 = 2 := by kernel_rfl
  rcases Go.Deep.open_slice Try.underlying22 hf' with ⟨hcs, _⟩ | ⟨a', len', cap', m, n, D, Pl, hcs, _, hl, hm, hmm, _, hx⟩
  · simp only [List.cons.injEq, and_true] at hcs
    injection hcs with e1 e2 e3
    subst e1; subst e2; subst e3
    exact ⟨[], rfl, Nat.le_refl _, Nat.zero_le _, Rd.none⟩
  · simp only [List.cons.injEq, and_true] at hcs
    injection hcs with e1 e2 e3
    subst e1; subst e2; subst e3
    have hlm : len ≤ m := by rw [hmm]; split <;> omega
    rw [hcn] at hx
    have hall : ∀ j, j ≤ len → ∃ l : List (UInt8 × UInt8), l.length = j ∧ ∀ k u, (prs l)[k]? = some u → w.cell? (a'.add k) = some u := by
      intro j
      induction j with
      | zero => exact fun _ => ⟨[], rfl, fun k u hu => by simp [prs] at hu⟩
      | succ j ih =>
        intro hj
        obtain ⟨l, hl', hc⟩ := ih (by omega)
        obtain ⟨cs', h1, h2⟩ := hx j (by omega)
        obtain ⟨y, hy⟩ := pair_of_trod h2
        obtain ⟨_, _, hcl⟩ := World.cells?_some h1
        have hnl : (prs l).length = j * 2 := by rw [prs_length, hl']
        refine ⟨l ++ [y], by simp [hl'], fun k u hu => ?_⟩
        rw [prs_append] at hu
        rcases Nat.lt_or_ge k (prs l).length with hk | hk
        · rw [List.getElem?_append_left hk] at hu
          exact hc k u hu
        · rw [List.getElem?_append_right hk, prs, prs, List.append_nil, ← hy, hnl] at hu
          have hk2 : k - j * 2 < 2 := by
            have := (List.getElem?_eq_some_iff.1 hu).1
            rw [hy, prV_length] at this; exact this
          have h3 := hcl (k - j * 2) hk2
          rw [add_twice8, show j * 2 + (k - j * 2) = k by omega, hu] at h3
          exact h3
    obtain ⟨l, hl', hc⟩ := hall len (Nat.le_refl _)
    refine ⟨l, hl', hl, hm, fun k u hu => ⟨a', rfl, ?_, hc k u hu⟩⟩
    have := World.block_lt_of_cell? _ _ (hc k u hu)
    rw [add_block] at this
    exact this
end
end Go.Proofs.Ytniamllcoemikaa.Sc
/-
  The contracts of the reference's Good, the laws' Sector, the reference's Sectors.
-/
namespace Go.Proofs.Ytniamllcoemikaa.Mi
open Go.RowKit Kd
attribute [local go_sem ↓] Go.wp_at_zero Go.wp_at_succ
/-- The little rule by which the laws call sectors good. -/
def goodN (n : Int) (x : List UInt8) : Bool := (wrap64 (((x.getD 0 0).toNat : Int) + ((x.getD 1 0).toNat : Int) + n)).tmod 4 != 3
theorem byte_cell {w : World} {g : Nat} {x : List UInt8} {t : TypeId} (h : Blk w g (bva x) t) {j : Nat} (hj : j < x.length) : w.cell? ⟨g, j, none⟩ = some (.int .u8 ((x.getD j 0).toNat : Int)) := by
  rw [h.cell j, bva]
  show (bv x).toArray[j]? = _
  rw [List.getElem?_toArray, bv, List.getElem?_map, List.getElem?_eq_getElem hj, List.getD_eq_getElem?_getD, List.getElem?_eq_getElem hj]; rfl
set_option maxRecDepth 100000 in
set_option maxHeartbeats 3200000 in
theorem good_any (w : World) (n : Int) (x : List UInt8) (hx : x.length = 128) : Calls Try.prog 32 #[.int .i64 n, .agg (bva x)] w (RetB (.bool (goodN n x)) w) := by
  obtain ⟨w1, hw1⟩ : ∃ w1, w1 = w.alloc (.cells (bva x) 37) := ⟨_, rfl⟩
  have hb : Blk w1 w.heap.size (bva x) 37 := by rw [hw1]; exact heap_alloc_new _ _
  have B1 := Lib.hid (show Below w.heap.size w w1 from by rw [hw1]; exact (Below.refl _ _).alloc (Nat.le_refl _) _)
  have c0 := byte_cell hb (j := 0) (by omega)
  have c1 := byte_cell hb (j := 1) (by omega)
  obtain ⟨a, ha⟩ : ∃ a, a = (x.getD 0 0).toNat := ⟨_, rfl⟩
  obtain ⟨b, hb2⟩ : ∃ b, b = (x.getD 1 0).toNat := ⟨_, rfl⟩
  have a1 : a < 256 := by rw [ha]; exact UInt8.toNat_lt _
  have b1 : b < 256 := by rw [hb2]; exact UInt8.toNat_lt _
  have HV := Lib.hid (show goodN n x = ((wrap64 ((a : Int) + (b : Int) + n)).tmod 4 != 3) by rw [goodN, ha, hb2])
  rw [← ha] at c0
  rw [← hb2] at c1
  have wab : IntKind.i64.wrap ((a : Int) + (b : Int)) = ((a + b : Nat) : Int) := by rw [show (a : Int) + (b : Int) = ((a + b : Nat) : Int) by omega]; exact IntWalk.i64_in _ (by omega)
  have wa : IntKind.i64.wrap (a : Int) = (a : Int) := IntWalk.i64_in _ (by omega)
  have wb : IntKind.i64.wrap (b : Int) = (b : Int) := IntWalk.i64_in _ (by omega)
  rw [HV.out]
  clear hb hx ha hb2 HV
  go_enter Try.func32, Try.ntmps32
  go_upto_region 1 with fail
  rw [← hw1]
  clear hw1
  go_wp2_with fail
  go_ret
  exact ⟨rfl, B1.out⟩
theorem good_enter (args : Array Value) (W : World) : (callFunc 32 args).run Try.prog W = .ok (.enter 32 args) W := by kernel_rfl
set_option maxRecDepth 100000 in
def gG : Gd where
  k := some 32
  f := goodN
  R _ _ _ _ _ _ := True
  none_ h := by cases h
  enter k' h args W := by injection h with h; subst h; exact good_enter args W
  call k' h w n x hx := by injection h with h; subst h; exact good_any w n x hx
/-- A sector with two bytes ahead. -/
def secN (x y : UInt8) : List UInt8 := x :: y :: 9 :: List.replicate 125 0
theorem secN_length (x y : UInt8) : (secN x y).length = 128 := by simp [secN]
theorem good_sec (n : Int) (x y : UInt8) : goodN n (secN x y) = ((wrap64 ((x.toNat : Int) + (y.toNat : Int) + n)).tmod 4 != 3) := rfl
set_option maxRecDepth 100000 in
set_option maxHeartbeats 3200000 in
theorem sector9_any (w : World) (x y : UInt8) : Calls Try.prog 49 #[.int .u8 (x.toNat : Int), .int .u8 (y.toNat : Int)] w (RetB (.agg (bva (secN x y))) w) := by
  obtain ⟨z, hz0⟩ : ∃ z : List UInt8, z = zeroS := ⟨_, rfl⟩
  have hz : ∀ W, (zeroValue 37).run Try.prog W = .ok (.agg (bva z)) W := fun _ => by rw [hz0]; kernel_rfl
  have HZ3 := Lib.hid (show z.length = 128 by rw [hz0]; exact zeroS_length)
  obtain ⟨o, ho⟩ : ∃ o, o = secN x y := ⟨_, rfl⟩
  have HBS := Lib.hid (show ∀ W, (Instr.build 37 #[(0, .int .u8 (x.toNat : Int)), (1, .int .u8 (y.toNat : Int)), (2, .int .u8 9)]).run Try.prog W = .ok (.agg (bva o)) W from fun _ => by rw [ho]; kernel_rfl)
  have HO3 := Lib.hid (show o.length = 128 by rw [ho]; exact secN_length x y)
  have HI : Hid ((Try.prog.info? 37).map (·.size) = some (bva o).size) := by rw [bva_size, HO3.out]; exact info_sec
  have R0 := Lib.hid (show Blk (w.alloc (.cells (bva z) 37)) w.heap.size (bva z) 37 from heap_alloc_new _ _)
  rw [← ho]
  clear ho hz0
  go_enter Try.func49, Try.ntmps49
  go_wp2_with (first
    | (refine wpList_build rfl 37 #[(0, .tmp 5), (1, .tmp 6), (2, .const (.int .u8 9))] rfl (v := .agg (bva o)) ?hbld ?_; case hbld => (simp only [List.map_toArray, List.map_cons, List.map_nil]; exact HBS.out _))
    | (refine wpList_store_row rfl 37 (.tmp 4) (.tmp 7) rfl w.heap.size (bva o) rfl rfl 37 (bva z) R0.out HI.out (by rw [bva_size, bva_size, HO3.out, HZ3.out]) (bva_one _) ?_))
  exact bodyPost_ret (v := .agg (bva o)) (results_cell_row Try.results49 _ _ w.heap.size 37 (bva o) (0, 0) _ rfl (setRow_heap _ _ _ _ _ _ R0.out) Try.underlying37 rfl HI.out) rfl ⟨rfl, below_setRow ((Below.refl _ _).alloc (Nat.le_refl _) _) (Nat.le_refl _) _⟩
end Go.Proofs.Ytniamllcoemikaa.Mi
/-
  A region that draws its order, of which the last operations WRITE what the first ones read: the condition S on the world is wanted only as long as none of the late operations W has come up (a load that each of them waits for is taken first under it), the condition S0 always.
-/
namespace Go.Proofs.Ytniamllcoemikaa
section
variable {P : Program} {ops : Array Oper} {Q : Exit → Act → World → Prop} {md : Region.Mode} {S S0 : World → Prop} {W : List Nat}
/-- Has a late one come up? -/
def Late (W : List Nat) (l : Array Bool) : Prop := ∃ k ∈ W, l.getD k true = true
def wpAnyL (P : Program) (md : Region.Mode) (ops : Array Oper) (Q : Exit → Act → World → Prop) (S0 S : World → Prop) (W : List Nat) : Nat → Array Bool → Act → World → Prop
  | 0, listed, a, w => Region.ready md ops listed = [] ∧ Q .normal a w
  | fuel + 1, listed, a, w =>
    (Region.ready md ops listed = [] → Q .normal a w) ∧
    ∀ i ∈ Region.ready md ops listed, wpOp P ops Q i (fun a' w' => (S0 w' ∧ (Late W (listed.setIfInBounds i true) ∨ S w')) ∧ wpAnyL P md ops Q S0 S W fuel (listed.setIfInBounds i true) a' w') a w
theorem wpAny_of_late : ∀ (fuel : Nat) (listed : Array Bool) (a : Act) (w : World), wpAnyL P md ops Q S0 S W fuel listed a w → wpAny P md ops Q fuel listed a w
  | 0, _, _, _, h => h
  | fuel + 1, _, _, _, h => ⟨h.1, fun i hi => wpOp_mono (fun a' w' h' => wpAny_of_late fuel _ a' w' h'.2) (h.2 i hi)⟩
theorem wpAnyL_first {i : Nat} {oi : Oper} {v : Value} (hi : ops[i]? = some oi) (hsel : ∀ (j : Nat) (o : Oper) cs b, ops[j]? = some o → o.op ≠ .select cs b)
    (hQ : ∀ c a w, Q (.panic c) (a.put oi.dst v) w → Q (.panic c) a w) (hW : ∀ k ∈ W, ∃ o e, ops[k]? = some o ∧ e ∈ o.after ∧ Region.binds md e = true ∧ e.on = i) (hiW : i ∉ W) :
    ∀ (fuel : Nat) (listed : Array Bool) (a : Act) (w : World),
      (∀ j oj, ops[j]? = some oj → j ≠ i → listed.getD j true = false → (∀ e ∈ oj.after, Region.binds md e = true → e.on ≠ i) → oi.apart ops oj = true) →
      (∀ k ∈ W, listed.getD k true = false) →
      i ∈ Region.ready md ops listed → YieldsIf P ops (fun w => S0 w ∧ S w) oi v a → S0 w ∧ S w →
      wpAnyL P md ops Q S0 S W fuel (listed.setIfInBounds i true) (a.put oi.dst v) w → wpAnyL P md ops Q S0 S W (fuel + 1) listed a w := by
  intro fuel
  induction fuel with
  | zero =>
    intro listed a w _ _ hr hy hS H
    refine ⟨fun h => (by rw [h] at hr; cases hr), fun j hj => ?_⟩
    by_cases hji : j = i
    · subst hji; exact hy.wpOp hi hS ⟨⟨hS.1, .inr hS.2⟩, H⟩
    · have := ready_mono hj hji
      rw [H.1] at this
      cases this
  | succ fuel ih =>
    intro listed a w hfree hwl hr hy hS H
    refine ⟨fun h => (by rw [h] at hr; cases hr), fun j hj => ?_⟩
    by_cases hji : j = i
    · subst hji; exact hy.wpOp hi hS ⟨⟨hS.1, .inr hS.2⟩, H⟩
    · have h1 := H.2 j (ready_mono hj hji)
      obtain ⟨hjun, oj, hoj, hall⟩ := mem_ready.1 hj
      have hnot : ∀ e ∈ oj.after, Region.binds md e = true → e.on ≠ i := fun e he hb heq => by
        have h1 := hall e he hb
        have h0 := (mem_ready.1 hr).1
        rw [heq] at h1
        rcases Nat.lt_or_ge i listed.size with h' | h'
        · simp [h'] at h0 h1; rw [h0] at h1; cases h1
        · simp [Array.getElem?_eq_none h'] at h1
      have hjW : j ∉ W := fun hm => by
        obtain ⟨o, e, ho, he, hb, hon⟩ := hW j hm
        rw [hoj] at ho; injection ho with ho; subst ho
        exact hnot e he hb hon
      have hwl' : ∀ k ∈ W, (listed.setIfInBounds j true).getD k true = false := fun k hk => by
        have hjk : j ≠ k := fun e => hjW (e ▸ hk)
        rw [getD_set_ne true hjk]; exact hwl k hk
      have hnl : ∀ w', (S0 w' ∧ (Late W ((listed.setIfInBounds i true).setIfInBounds j true) ∨ S w')) → S0 w' ∧ S w' := fun w' h => ⟨h.1, h.2.elim (fun ⟨k, hk, h2⟩ => by
        have hjk : j ≠ k := fun e => hjW (e ▸ hk)
        have hik : i ≠ k := fun e => hiW (e ▸ hk)
        rw [getD_set_ne true hjk, getD_set_ne true hik, hwl k hk] at h2; cases h2) id⟩
      have h2 := wpOp_putIf hoj (hfree j oj hoj hji hjun hnot) (fun cs b => hsel i oi cs b hi) (fun cs b => hsel j oj cs b hoj) hQ hy h1
      have hfree' : ∀ k ok, ops[k]? = some ok → k ≠ i → (listed.setIfInBounds j true).getD k true = false →
          (∀ e ∈ ok.after, Region.binds md e = true → e.on ≠ i) → oi.apart ops ok = true := fun k ok hk hki hun hno => by
        refine hfree k ok hk hki ?_ hno
        by_cases hjk : j = k
        · subst hjk; exact hjun
        · rw [getD_set_ne true hjk] at hun; exact hun
      refine wpOp_mono (fun a' w' h3 => ⟨⟨h3.2.1.1, .inr (hnl w' h3.2.1).2⟩, ih (listed.setIfInBounds j true) a' w' hfree' hwl' (ready_mono hr (Ne.symm hji)) h3.1 (hnl w' h3.2.1) ?_⟩) h2
      rw [Array.setIfInBounds_comm _ _ hji]
      exact h3.2.2
theorem wpAnyL_first0 {i : Nat} {oi : Oper} {v : Value} (hi : ops[i]? = some oi) (hsel : ∀ (j : Nat) (o : Oper) cs b, ops[j]? = some o → o.op ≠ .select cs b)
    (hQ : ∀ c a w, Q (.panic c) (a.put oi.dst v) w → Q (.panic c) a w) (hiW : i ∉ W) :
    ∀ (fuel : Nat) (listed : Array Bool) (a : Act) (w : World),
      (∀ j oj, ops[j]? = some oj → j ≠ i → listed.getD j true = false → (∀ e ∈ oj.after, Region.binds md e = true → e.on ≠ i) → oi.apart ops oj = true) →
      i ∈ Region.ready md ops listed → YieldsIf P ops S0 oi v a → S0 w → (Late W listed ∨ S w) →
      wpAnyL P md ops Q S0 S W fuel (listed.setIfInBounds i true) (a.put oi.dst v) w → wpAnyL P md ops Q S0 S W (fuel + 1) listed a w := by
  have hlate : ∀ {listed : Array Bool} {w : World}, i ∈ Region.ready md ops listed → (Late W listed ∨ S w) → (Late W (listed.setIfInBounds i true) ∨ S w) := fun {listed w} hr h => h.imp (fun ⟨k, hk, h2⟩ => ⟨k, hk, by
    by_cases hik : i = k
    · subst hik; have h0 := (mem_ready.1 hr).1; rw [h2] at h0; cases h0
    · rw [getD_set_ne true hik]; exact h2⟩) id
  have hback : ∀ {listed : Array Bool} {w : World} {j : Nat}, j ≠ i → (Late W ((listed.setIfInBounds i true).setIfInBounds j true) ∨ S w) → (Late W (listed.setIfInBounds j true) ∨ S w) := fun {listed w j} hji h => h.imp (fun ⟨k, hk, h2⟩ => by
    by_cases hik : i = k
    · exact absurd (hik ▸ hk) hiW
    · exact ⟨k, hk, by rw [Array.setIfInBounds_comm _ _ (Ne.symm hji), getD_set_ne true hik] at h2; exact h2⟩) id
  intro fuel
  induction fuel with
  | zero =>
    intro listed a w _ hr hy hS hSS H
    refine ⟨fun h => (by rw [h] at hr; cases hr), fun j hj => ?_⟩
    by_cases hji : j = i
    · subst hji; exact hy.wpOp hi hS ⟨⟨hS, hlate hr hSS⟩, H⟩
    · have := ready_mono hj hji
      rw [H.1] at this
      cases this
  | succ fuel ih =>
    intro listed a w hfree hr hy hS hSS H
    refine ⟨fun h => (by rw [h] at hr; cases hr), fun j hj => ?_⟩
    by_cases hji : j = i
    · subst hji; exact hy.wpOp hi hS ⟨⟨hS, hlate hr hSS⟩, H⟩
    · have h1 := H.2 j (ready_mono hj hji)
      obtain ⟨hjun, oj, hoj, hall⟩ := mem_ready.1 hj
      have hnot : ∀ e ∈ oj.after, Region.binds md e = true → e.on ≠ i := fun e he hb heq => by
        have h1 := hall e he hb
        have h0 := (mem_ready.1 hr).1
        rw [heq] at h1
        rcases Nat.lt_or_ge i listed.size with h' | h'
        · simp [h'] at h0 h1; rw [h0] at h1; cases h1
        · simp [Array.getElem?_eq_none h'] at h1
      have h2 := wpOp_putIf hoj (hfree j oj hoj hji hjun hnot) (fun cs b => hsel i oi cs b hi) (fun cs b => hsel j oj cs b hoj) hQ hy h1
      have hfree' : ∀ k ok, ops[k]? = some ok → k ≠ i → (listed.setIfInBounds j true).getD k true = false →
          (∀ e ∈ ok.after, Region.binds md e = true → e.on ≠ i) → oi.apart ops ok = true := fun k ok hk hki hun hno => by
        refine hfree k ok hk hki ?_ hno
        by_cases hjk : j = k
        · subst hjk; exact hjun
        · rw [getD_set_ne true hjk] at hun; exact hun
      refine wpOp_mono (fun a' w' h3 => ⟨⟨h3.2.1.1, hback hji h3.2.1.2⟩, ih (listed.setIfInBounds j true) a' w' hfree' (ready_mono hr (Ne.symm hji)) h3.1 h3.2.1.1 (hback hji h3.2.1.2) ?_⟩) h2
      rw [Array.setIfInBounds_comm _ _ hji]
      exact h3.2.2
/-- Do all of W wait for i? -/
def lateOf (md : Region.Mode) (ops : Array Oper) (W : List Nat) (i : Nat) : Bool := W.all fun k => match ops[k]? with
  | some o => o.after.any fun e => Region.binds md e && e.on == i
  | none => false
theorem lateOf_spec {i : Nat} (h : lateOf md ops W i = true) : ∀ k ∈ W, ∃ o e, ops[k]? = some o ∧ e ∈ o.after ∧ Region.binds md e = true ∧ e.on = i := fun k hk => by
  have h1 := List.all_eq_true.1 h k hk
  cases ho : ops[k]? with
  | none => simp [ho] at h1
  | some o =>
    simp only [ho] at h1
    obtain ⟨e, he, h2⟩ := Array.any_eq_true'.1 h1
    simp only [Bool.and_eq_true, beq_iff_eq] at h2
    exact ⟨o, e, rfl, he, h2.1, h2.2⟩
theorem wpAnyL_take {i : Nat} {oi : Oper} {v : Value} {fuel : Nat} {listed : Array Bool} {a : Act} {w : World} (hi : ops[i]? = some oi)
    (hs : Region.noSelect ops = true) (hf : Region.free md ops listed i = true) (hr : (Region.ready md ops listed).contains i = true)
    (hQ : ∀ c a w, Q (.panic c) (a.put oi.dst v) w → Q (.panic c) a w) (hW : lateOf md ops W i = true) (hiW : W.contains i = false) (hwl : (W.all fun k => listed.getD k true == false) = true) (hy : YieldsIf P ops (fun w => S0 w ∧ S w) oi v a) (hS : S0 w ∧ S w)
    (h : wpAnyL P md ops Q S0 S W fuel (listed.setIfInBounds i true) (a.put oi.dst v) w) : wpAnyL P md ops Q S0 S W (fuel + 1) listed a w :=
  wpAnyL_first hi (Region.noSelect_spec hs) hQ (lateOf_spec hW) (by simpa using hiW) fuel listed a w (Region.free_spec hi hf) (fun k hk => by simpa using List.all_eq_true.1 hwl k hk) (by simpa using hr) hy hS h
theorem wpAnyL_take0 {i : Nat} {oi : Oper} {v : Value} {fuel : Nat} {listed : Array Bool} {a : Act} {w : World} (hi : ops[i]? = some oi)
    (hs : Region.noSelect ops = true) (hf : Region.free md ops listed i = true) (hr : (Region.ready md ops listed).contains i = true)
    (hQ : ∀ c a w, Q (.panic c) (a.put oi.dst v) w → Q (.panic c) a w) (hiW : W.contains i = false) (hy : YieldsIf P ops S0 oi v a) (hS : S0 w) (hSS : Late W listed ∨ S w)
    (h : wpAnyL P md ops Q S0 S W fuel (listed.setIfInBounds i true) (a.put oi.dst v) w) : wpAnyL P md ops Q S0 S W (fuel + 1) listed a w :=
  wpAnyL_first0 hi (Region.noSelect_spec hs) hQ (by simpa using hiW) fuel listed a w (Region.free_spec hi hf) (by simpa using hr) hy hS hSS h
/-- Behind the last load no S is wanted. -/
def AllReadyL (P : Program) (md : Region.Mode) (ops : Array Oper) (Q : Exit → Act → World → Prop) (S0 S : World → Prop) (W : List Nat) (fuel : Nat) (listed : Array Bool) (a : Act) (w : World) (rs : List Nat) : Prop :=
  ∀ i ∈ rs, wpOp P ops Q i (fun a' w' => (S0 w' ∧ (Late W (listed.setIfInBounds i true) ∨ S w')) ∧ wpAnyL P md ops Q S0 S W fuel (listed.setIfInBounds i true) a' w') a w
theorem AllReadyL.nil {fuel : Nat} {listed : Array Bool} {a : Act} {w : World} : AllReadyL P md ops Q S0 S W fuel listed a w [] := fun _ h => by cases h
theorem AllReadyL.cons {fuel : Nat} {listed : Array Bool} {a : Act} {w : World} {i : Nat} {o : Oper} {rs : List Nat} (ho : ops[i]? = some o)
    (h : ∀ K' : Act → World → Prop, Shut (∀ a w, (S0 w ∧ (Late W (listed.setIfInBounds i true) ∨ S w)) → wpAnyL P md ops Q S0 S W fuel (listed.setIfInBounds i true) a w → K' a w) → if Region.wanted o (yielded ops a.tmps) = true then Oper.wp P o a w K' Q else K' (a.put o.dst undef) w)
    (hs : AllReadyL P md ops Q S0 S W fuel listed a w rs) : AllReadyL P md ops Q S0 S W fuel listed a w (i :: rs) := fun j hj => by
  rcases List.mem_cons.1 hj with rfl | hj
  · exact wpOp_step ho (fun K' hK => h K' (fun a w hS hW => hK a w ⟨hS, hW⟩))
  · exact hs j hj
theorem wpAnyL_ready {rs : List Nat} {fuel : Nat} {listed : Array Bool} {a : Act} {w : World} (hr : Region.ready md ops listed = rs) (hne : rs ≠ [])
    (h : AllReadyL P md ops Q S0 S W fuel listed a w rs) : wpAnyL P md ops Q S0 S W (fuel + 1) listed a w := ⟨fun h0 => absurd (hr ▸ h0) hne, hr ▸ h⟩
theorem wpAnyL_done {listed : Array Bool} {a : Act} {w : World} (hr : Region.ready md ops listed = []) (h : Q .normal a w) :
    ∀ fuel, wpAnyL P md ops Q S0 S W fuel listed a w
  | 0 => ⟨hr, h⟩
  | _ + 1 => ⟨fun _ => h, by rw [hr]; simp⟩
theorem wp_region_late {id : Nat} {a : Act} {w : World} (hm : P.follows .mixedOrders = true)
    (h : wpAnyL P .any ops Q S0 S W ops.size (Array.replicate ops.size false) a w.drew) : (Code.region id ops true).wp P Q a w :=
  wp_region_any hm (wpAny_of_late _ _ _ _ h)
end
end Go.Proofs.Ytniamllcoemikaa
/-
  The contract of the laws' pair: two devices with such first bytes of their sectors, flushed, and their mirror; what they have.
-/
namespace Go.Proofs.Ytniamllcoemikaa.Sc
open Go.RowKit Kd Mi
open Mu (LD RetD)
attribute [local go_sem ↓] Go.wp_at_zero Go.wp_at_succ
/-- The sectors of the first k pairs, and noughts behind them. -/
def ahead (l : List (UInt8 × UInt8)) (j k : Nat) : List (List UInt8) := (l.take j).map sec2 ++ List.replicate (k - j) zeroS
theorem ahead_length {l : List (UInt8 × UInt8)} {j k : Nat} (h : j ≤ k) (hk : k ≤ l.length) : (ahead l j k).length = k := by
  rw [ahead, List.length_append, List.length_map, List.length_take, List.length_replicate]; omega
theorem ahead_zero (l : List (UInt8 × UInt8)) (k : Nat) : ahead l 0 k = List.replicate k zeroS := by simp [ahead]
theorem ahead_all (l : List (UInt8 × UInt8)) (k : Nat) : ahead l k k = (l.take k).map sec2 := by simp [ahead]
theorem ahead_set {l : List (UInt8 × UInt8)} {j k : Nat} (h : j < k) (hk : k ≤ l.length) : (ahead l j k).set j (sec2 (l[j]'(by omega))) = ahead l (j + 1) k := by
  have hl : ((l.take j).map sec2).length = j := by rw [List.length_map, List.length_take]; omega
  rw [ahead, List.set_append_right _ _ (by omega), hl, Nat.sub_self, show k - j = (k - (j + 1)) + 1 by omega, List.replicate_succ, List.set_cons_zero, ahead, List.take_succ_eq_append_getElem (by omega), List.map_append, List.append_assoc]
  rfl
theorem secs_take {l : List (UInt8 × UInt8)} {j : Nat} (h : j < l.length) : (l.take j).map sec2 ++ [sec2 l[j]] = (l.take (j + 1)).map sec2 := by
  rw [List.take_succ_eq_append_getElem h, List.map_append]; rfl
theorem build_sec2 (a b : UInt8) : ∀ W, (Instr.build 37 #[(0, .int .u8 (a.toNat : Int)), (1, .int .u8 (b.toNat : Int))]).run Try.prog W = .ok (.agg (bva (sec2 (a, b)))) W := fun _ => by kernel_rfl
theorem secsAV_info : (Try.prog.info? 27).map (·.size) = some 2 := by kernel_rfl
theorem two_set {w W : World} {q r : Nat} {x y z : List UInt8} (h1 : Blk W q (bva z) 37) (h2 : Blk W r (bva z) 37) (hqr : q ≠ r) (hB : Below w.heap.size w W) (hq : w.heap.size ≤ q) (hr : w.heap.size ≤ r) :
    Blk (W.setRow q (bva x)) r (bva z) 37 ∧ Blk ((W.setRow q (bva x)).setRow r (bva y)) q (bva x) 37 ∧ Blk ((W.setRow q (bva x)).setRow r (bva y)) r (bva y) 37 ∧ Below w.heap.size w (W.setRow q (bva x)) ∧ Below w.heap.size w ((W.setRow q (bva x)).setRow r (bva y)) := by
  have b1 : But (fun k => k = q) W (W.setRow q (bva x)) := (But.refl _).setRow (S := fun k => k = q) (.inl rfl) _
  have b2 : But (fun k => k = r) (W.setRow q (bva x)) ((W.setRow q (bva x)).setRow r (bva y)) := (But.refl _).setRow (S := fun k => k = r) (.inl rfl) _
  have c2 : Blk (W.setRow q (bva x)) r (bva z) 37 := h2.but b1 (fun e => hqr e.symm)
  have c1 : Blk (W.setRow q (bva x)) q (bva x) 37 := setRow_heap _ _ _ _ _ _ h1
  exact ⟨c2, c1.but b2 hqr, setRow_heap _ _ _ _ _ _ c2, below_setRow hB hq _, below_setRow (below_setRow hB hq _) hr _⟩
/-- The devices, the box of both rows, and the rows, in pair's loop. -/
structure PS (p g1 g2 sb : Nat) (w w1 wr : World) (S : Sy) (F : Nat → Prop) (L0 L1 : List (List UInt8)) (m : Nat) (cs : Array Value) (U V : Value) (nu nv : Nat) (xs ys : List (List UInt8)) : Prop where
  ld : LD p g1 g2 w1 wr S F L0 L1 false false m
  bx : Bx w1 wr F sb cs 27
  u : RowN w wr F U nu xs
  v : RowN w wr F V nv ys
  us : ∀ q, U.ownBlock = some q → q ≠ sb
  vs : ∀ q, V.ownBlock = some q → q ≠ sb
  uv : ∀ q, U.ownBlock = some q → V.ownBlock = some q → False
section
variable {p g1 g2 sb : Nat} {w w1 wr w' : World} {S S' : Sy} {F F' : Nat → Prop} {L0 L1 L0' L1' : List (List UInt8)} {m m' : Nat} {cs : Array Value} {U V : Value} {nu nv : Nat} {xs ys : List (List UInt8)}
theorem PS.below (h : PS p g1 g2 sb w w1 wr S F L0 L1 m cs U V nu nv xs ys) (hb : Below wr.heap.size wr w') : PS p g1 g2 sb w w1 w' S F L0 L1 m cs U V nu nv xs ys :=
  ⟨h.ld.below hb, h.bx.below hb, h.u.below hb, h.v.below hb, h.us, h.vs, h.uv⟩
theorem PS.dev (h : PS p g1 g2 sb w w1 wr S F L0 L1 m cs U V nu nv xs ys) (hl : LD p g1 g2 w1 w' S' F' L0' L1' false false m') (h1 : ∀ q, F' q → F q ∨ wr.heap.size ≤ q) (h2 : But F wr w') : PS p g1 g2 sb w w1 w' S' F' L0' L1' m' cs U V nu nv xs ys :=
  ⟨hl, ⟨h.bx.1.but h2 h.bx.2.2, h.bx.2.1, fun hf => by
    rcases h1 sb hf with h3 | h3
    · exact h.bx.2.2 h3
    · have := h.bx.1.lt; omega⟩, h.u.step h1 h2, h.v.step h1 h2, h.us, h.vs, h.uv⟩
theorem bx_dev {q : Nat} {T : TypeId} (h : Bx w1 wr F q cs T) (h1 : ∀ q, F' q → F q ∨ wr.heap.size ≤ q) (h2 : But F wr w') : Bx w1 w' F' q cs T :=
  ⟨h.1.but h2 h.2.2, h.2.1, fun hf => by
    rcases h1 q hf with h3 | h3
    · exact h.2.2 h3
    · have := h.1.lt; omega⟩
/-- The devices' own, where other memory changes. -/
theorem ld_but {T : Nat → Prop} (h : LD p g1 g2 w1 wr S F L0 L1 false false m) (hb : But T wr w') (hd : ∀ q, F q → T q → False) (hT : ∀ q, T q → w1.heap.size ≤ q) : LD p g1 g2 w1 w' S F L0 L1 false false m :=
  ⟨⟨(SysL p [g1, g2] 2).but h.live.at_ hb hd, h.live.new, h.live.bel.trans (hb.below (fun k hk hq => by have := hT k hq; omega) h.live.bel.size)⟩, h.d0, h.d1⟩
theorem PS.app {A' : Option Addr} {c' : Nat} {y : List UInt8} (h : PS p g1 g2 sb w w1 wr S F L0 L1 m cs U V nu nv xs ys) (hw : ∀ q, U.ownBlock = some q → w1.heap.size ≤ q) (ho : w'.ownsRow w.heap.size 37 128 (.slice A' (nu + 1) c') (nu + 1) (svs xs ++ bv y))
    (hg : wr.grownBy w' U.ownBlock) (hor : (Value.slice A' (nu + 1) c').ownBlock = U.ownBlock ∨ (Value.slice A' (nu + 1) c').ownBlock = some wr.heap.size) :
    PS p g1 g2 sb w w1 w' S F L0 L1 m cs (.slice A' (nu + 1) c') V (nu + 1) nv (xs ++ [y]) ys ∧ ∀ q, (Value.slice A' (nu + 1) c').ownBlock = some q → w1.heap.size ≤ q := by
  have hT : But (fun q => U.ownBlock = some q) wr w' := (But.refl wr).grown hg (fun _ hq => .inl hq)
  have hF := (SysL p [g1, g2] 2).lt h.ld.live.at_
  have hs := h.ld.live.bel.size
  refine ⟨⟨ld_but h.ld hT (fun q hf hq => h.u.2 q hq hf) hw, ⟨h.bx.1.but hT (fun e => h.us sb e rfl), h.bx.2⟩, h.u.app hF ho hor, ⟨Own.but h.v.1 hT (fun q hq hu => h.uv q hu hq), h.v.2⟩, ?_, h.vs, ?_⟩, ?_⟩
  · intro q hq
    rcases hor with h1 | h1
    · exact h.us q (h1 ▸ hq)
    · rw [h1] at hq; injection hq with hq; have := h.bx.1.lt; omega
  · intro q hq hv
    rcases hor with h1 | h1
    · exact h.uv q (h1 ▸ hq) hv
    · rw [h1] at hq; injection hq with hq; have := (h.v.1.lt q hv).2; omega
  · intro q hq
    rcases hor with h1 | h1
    · exact hw q (h1 ▸ hq)
    · rw [h1] at hq; injection hq with hq; omega
theorem PS.swap (h : PS p g1 g2 sb w w1 wr S F L0 L1 m cs U V nu nv xs ys) : PS p g1 g2 sb w w1 wr S F L0 L1 m cs V U nv nu ys xs := ⟨h.ld, h.bx, h.v, h.u, h.vs, h.us, fun q a b => h.uv q b a⟩
theorem PS.set (h : PS p g1 g2 sb w w1 wr S F L0 L1 m cs U V nu nv xs ys) {cs' : Array Value} (hb : But (fun q => q = sb) wr w') (hc : Blk w' sb cs' 27) : PS p g1 g2 sb w w1 w' S F L0 L1 m cs' U V nu nv xs ys :=
  ⟨ld_but h.ld hb (fun q hf e => h.bx.2.2 (e ▸ hf)) (fun q e => by rw [e]; exact h.bx.2.1), ⟨hc, h.bx.2⟩, ⟨Own.but h.u.1 hb (fun q hq e => h.us q hq e), h.u.2⟩, ⟨Own.but h.v.1 hb (fun q hq e => h.vs q hq e), h.v.2⟩, h.us, h.vs, h.uv⟩
end
theorem rd_new {w1 : World} {y : List UInt8} {g : Nat} (h : Blk w1 g (bva y) 37) : Rd w1.heap.size w1 (some ⟨g, 0, none⟩) (bv y) := fun j v hv => ⟨_, rfl, h.lt, by rw [Addr.add_mid, h.cell, Nat.zero_add]; simpa [bva] using hv⟩
/-- .. and boxes of sectors that are none of the rows. -/
structure RS (p g1 g2 sb : Nat) (w w1 wr : World) (S : Sy) (F : Nat → Prop) (L0 L1 : List (List UInt8)) (m : Nat) (cs : Array Value) (U V : Value) (nu nv : Nat) (xs ys : List (List UInt8)) (bs : List (Nat × List UInt8)) : Prop where
  ps : PS p g1 g2 sb w w1 wr S F L0 L1 m cs U V nu nv xs ys
  bx : ∀ b ∈ bs, Blk wr b.1 (bva b.2) 37 ∧ b.1 ≠ sb ∧ (∀ x, U.ownBlock = some x → x ≠ b.1) ∧ ∀ x, V.ownBlock = some x → x ≠ b.1
  uw : ∀ q, U.ownBlock = some q → w1.heap.size ≤ q
  vw : ∀ q, V.ownBlock = some q → w1.heap.size ≤ q
section
variable {p g1 g2 sb : Nat} {w w1 wr w' : World} {S S' : Sy} {F F' : Nat → Prop} {L0 L1 L0' L1' : List (List UInt8)} {m m' : Nat} {cs cs' : Array Value} {U V : Value} {nu nv : Nat} {xs ys : List (List UInt8)} {bs : List (Nat × List UInt8)}
theorem RS.swap (h : RS p g1 g2 sb w w1 wr S F L0 L1 m cs U V nu nv xs ys bs) : RS p g1 g2 sb w w1 wr S F L0 L1 m cs V U nv nu ys xs bs := ⟨h.ps.swap, fun b hb => ⟨(h.bx b hb).1, (h.bx b hb).2.1, (h.bx b hb).2.2.2, (h.bx b hb).2.2.1⟩, h.vw, h.uw⟩
theorem RS.below (h : RS p g1 g2 sb w w1 wr S F L0 L1 m cs U V nu nv xs ys bs) (hb : Below wr.heap.size wr w') : RS p g1 g2 sb w w1 w' S F L0 L1 m cs U V nu nv xs ys bs := ⟨h.ps.below hb, fun b hm => ⟨(h.bx b hm).1.below hb, (h.bx b hm).2⟩, h.uw, h.vw⟩
theorem RS.add (h : RS p g1 g2 sb w w1 wr S F L0 L1 m cs U V nu nv xs ys bs) (y : List UInt8) : RS p g1 g2 sb w w1 (wr.alloc (.cells (bva y) 37)) S F L0 L1 m cs U V nu nv xs ys ((wr.heap.size, y) :: bs) := by
  have hb : Below wr.heap.size wr (wr.alloc (.cells (bva y) 37)) := (Below.refl _ _).alloc (Nat.le_refl _) _
  refine ⟨h.ps.below hb, fun b hm => ?_, h.uw, h.vw⟩
  rcases List.mem_cons.1 hm with rfl | hm
  · exact ⟨heap_alloc_new _ _, fun e => by have h1 := h.ps.bx.1.lt; rw [← e] at h1; exact Nat.lt_irrefl _ h1, fun x hx e => by have h1 := (h.ps.u.1.lt x hx).2; rw [e] at h1; exact Nat.lt_irrefl _ h1, fun x hx e => by have h1 := (h.ps.v.1.lt x hx).2; rw [e] at h1; exact Nat.lt_irrefl _ h1⟩
  · exact ⟨(h.bx b hm).1.below hb, (h.bx b hm).2⟩
theorem RS.app {A' : Option Addr} {c' : Nat} {y : List UInt8} (h : RS p g1 g2 sb w w1 wr S F L0 L1 m cs U V nu nv xs ys bs) (ho : w'.ownsRow w.heap.size 37 128 (.slice A' (nu + 1) c') (nu + 1) (svs xs ++ bv y))
    (hg : wr.grownBy w' U.ownBlock) (hor : (Value.slice A' (nu + 1) c').ownBlock = U.ownBlock ∨ (Value.slice A' (nu + 1) c').ownBlock = some wr.heap.size) :
    RS p g1 g2 sb w w1 w' S F L0 L1 m cs (.slice A' (nu + 1) c') V (nu + 1) nv (xs ++ [y]) ys bs := by
  obtain ⟨h1, h2⟩ := h.ps.app h.uw ho hg hor
  have hT : But (fun q => U.ownBlock = some q) wr w' := (But.refl wr).grown hg (fun _ hq => .inl hq)
  refine ⟨h1, fun b hm => ?_, h2, h.vw⟩
  obtain ⟨h3, h4, h5, h6⟩ := h.bx b hm
  refine ⟨h3.but hT (fun e => h5 _ e rfl), h4, fun x hx => ?_, h6⟩
  rcases hor with h7 | h7
  · exact h5 x (h7 ▸ hx)
  · rw [h7] at hx; injection hx with hx; have := h3.lt; omega
theorem RS.set (h : RS p g1 g2 sb w w1 wr S F L0 L1 m cs U V nu nv xs ys bs) (j : Nat) (v : Value) (hc : cs.setIfInBounds j v = cs') : RS p g1 g2 sb w w1 (wr.setCell ⟨sb, j, none⟩ v) S F L0 L1 m cs' U V nu nv xs ys bs := by
  have hb : But (fun q => q = sb) wr (wr.setCell ⟨sb, j, none⟩ v) := but_one v
  refine ⟨h.ps.set hb (by rw [← hc]; exact heap_setCell_same _ _ _ _ _ _ h.ps.bx.1), fun b hm => ?_, h.uw, h.vw⟩
  obtain ⟨h3, h4, h5⟩ := h.bx b hm
  exact ⟨h3.but hb h4, h4, h5⟩
end
theorem results_pair {P : Program} {fn : Func} {p1 p2 p3 p : Tmp} {ty : TypeId} (h : fn.results = #[.tmp p1, .tmp p2, .tmp p3, .cell p ty]) (tmps : Array Value) (w : World) (g : Nat) (cs : Array Value) {d : TypeDesc} {x1 x2 x3 : Value}
    (h1 : tmps.getD p1 undef = x1) (h2 : tmps.getD p2 undef = x2) (h3 : tmps.getD p3 undef = x3) (hp : tmps.getD p undef = .pointer (some ⟨g, 0, none⟩)) (hg : Blk w g cs ty)
    (hu : P.underlying ty = some d) (hd : (match d with | .struct _ | .array _ _ => true | _ => false) = true) (hi : (P.info? ty).map (·.size) = some cs.size) :
    (results fn tmps).run P w = .ok (.tuple #[x1, x2, x3, .agg cs]) w := by
  have hp' : tmps[p]?.getD undef = .pointer (some ⟨g, 0, none⟩) := by simpa using hp
  have h1' : tmps[p1]?.getD undef = x1 := by simpa using h1
  have h2' : tmps[p2]?.getD undef = x2 := by simpa using h2
  have h3' : tmps[p3]?.getD undef = x3 := by simpa using h3
  simp [results, h, hp', h1', h2', h3', asAddr, run_loadVar_row w g ty ty cs (0, 0) d hg hu hd hi]
/-- What pair makes. -/
def PairR (L0 L1 : List (List UInt8)) (k : Nat) (w : World) (e : Ending) (w' : World) : Prop :=
  ∃ (p g1 g2 g : Nat) (s : Mr (Mu.one p g1 g2)) (F : Nat → Prop) (U V : Option Addr) (c d : Nat), e = .returned (.tuple #[.pointer (some ⟨g1, 0, none⟩), .pointer (some ⟨g2, 0, none⟩), .pointer (some ⟨g, 0, none⟩), .agg #[.slice U k c, .slice V k d]]) ∧
    Mu.LM p g1 g2 gG g w w' s F ⟨L0, L1, false, false, List.replicate k false, List.replicate k false⟩ 0 ∧ RowN w w' F (.slice U k c) k L0 ∧ RowN w w' F (.slice V k d) k L1
set_option maxRecDepth 100000 in
set_option maxHeartbeats 25600000 in
theorem pair_any (w : World) {B : Nat} (hB : B ≤ w.heap.size) {A D : Option Addr} {n m c d : Nat} {l r : List (UInt8 × UInt8)} (hl : l.length = n) (hr : r.length = m) (ha : Rd B w A (prs l)) (hd : Rd B w D (prs r)) (hn : n ≤ 12) (hm : m ≤ 12) :
    Calls Try.prog 18 #[.slice A n c, .slice D m d] w (PairR ((l.take (min n m)).map sec2) ((r.take (min n m)).map sec2) (min n m) w) := by
  obtain ⟨k, hk⟩ : ∃ k, k = min n m := ⟨_, rfl⟩
  rw [← hk]
  have hkm : (if m < n then (m : Int) else (n : Int)) = (k : Int) := by rw [hk]; split <;> omega
  have HKN := Lib.hid (show k ≤ l.length ∧ k ≤ r.length ∧ k ≤ 12 ∧ k ≤ n ∧ k ≤ m by omega)
  have HA := Lib.hid (show ∀ w', Below w.heap.size w w' → Rd B w' A (prs l) from fun w' h => ha.below (h.mono hB))
  have HD := Lib.hid (show ∀ w', Below w.heap.size w w' → Rd B w' D (prs r) from fun w' h => hd.below (h.mono hB))
  have HKM := Lib.hid hkm
  obtain ⟨z, hz0⟩ : ∃ z : List UInt8, z = zeroS := ⟨_, rfl⟩
  have hz : ∀ W, (zeroValue 37).run Try.prog W = .ok (.agg (bva z)) W := fun _ => by rw [hz0]; kernel_rfl
  have HZ3 := Lib.hid (show z.length = 128 by rw [hz0]; exact zeroS_length)
  clear hz0 hkm hk hn hm ha hd hB hl hr
  obtain ⟨w1, hw1⟩ : ∃ w1, w1 = w.alloc (.cells #[.slice none 0 0, .slice none 0 0] 27) := ⟨_, rfl⟩
  have B1 := Lib.hid (show Below w.heap.size w w1 by rw [hw1]; exact (Below.refl _ _).alloc (Nat.le_refl _) _)
  have R1 := Lib.hid (show Blk w1 w.heap.size #[.slice none 0 0, .slice none 0 0] 27 by rw [hw1]; exact heap_alloc_new _ _)
  go_enter Try.func18, Try.ntmps18
  go_upto_region 1 with fail
  rw [← hw1]
  clear hw1
  obtain ⟨b, hb⟩ : ∃ b, b = w.heap.size := ⟨_, rfl⟩
  rw [← hb] at R1
  rw [← hb]
  have HBB := Lib.hid (show w.heap.size ≤ b by omega)
  clear hb
  go_wp2_with fail
  refine live_power.mono ?_
  rintro e w2 ⟨p, rfl, F2, h⟩
  have H2 := Lib.hid h
  have R1' := R1
  clear h R1
  go_upto_region 3 with fail
  rw [HKM.out]
  go_wp2_with fail
  refine (live_new H2.out (by decide) (k : Int)).mono ?_
  rintro e w3 ⟨g1, rfl, F3, h, hf3, hb3⟩
  have H3 := Lib.hid h
  clear h hf3 hb3 H2
  go_wp2_with fail
  refine (live_new H3.out (by show 1 < 1000; omega) (k : Int)).mono ?_
  rintro e w4 ⟨g2, rfl, F4, h, hf4, hb4⟩
  have hsee := Mu.see_new k (by have := HKN.out; omega)
  have H4 := Lib.hid (Mu.ld_new (g1 := g1) (g2 := g2) h hsee.1 hsee.2)
  clear h hf4 hb4 H3 hsee
  go_upto_region 5 with fail
  obtain ⟨w5, hw5⟩ : ∃ w5, w5 = w4.alloc (.cells #[.slice none 0 0, .slice none 0 0] 27) := ⟨_, rfl⟩
  rw [← hw5]
  obtain ⟨sb, hsb⟩ : ∃ sb, sb = w4.heap.size := ⟨_, rfl⟩
  rw [← hsb]
  have B5 := Lib.hid (show Below w4.heap.size w4 w5 by rw [hw5]; exact (Below.refl _ _).alloc (Nat.le_refl _) _)
  have PS0 := Lib.hid (show PS p g1 g2 sb w w1 w5 _ F4 (ahead l 0 k) (ahead r 0 k) (2 * 0) #[.slice none 0 0, .slice none 0 0] (.slice none 0 0) (.slice none 0 0) 0 0 ((l.take 0).map sec2) ((r.take 0).map sec2) from
    ⟨by rw [ahead_zero, ahead_zero]; exact H4.out.below B5.out, ⟨by rw [hw5, hsb]; exact heap_alloc_new _ _, by rw [hsb]; exact H4.out.live.bel.size, fun hf => by have := (SysL p [g1, g2] 2).lt H4.out.live.at_ sb hf; omega⟩, rowN_nil, rowN_nil, fun q hq => (by cases hq), fun q hq => (by cases hq), fun q hq => (by cases hq)⟩)
  clear hw5 hsb H4
  go_wp2_with fail
  go_loopw [29] (fun i wr => ∃ (j : Nat) (S : Sy) (F : Nat → Prop) (U V : Option Addr) (cu cv : Nat), j ≤ k ∧ i = .int .i64 j ∧ PS p g1 g2 sb w w1 wr S F (ahead l j k) (ahead r j k) (2 * j) #[.slice U j cu, .slice V j cv] (.slice U j cu) (.slice V j cv) j j ((l.take j).map sec2) ((r.take j).map sec2) ∧ (∀ q, (Value.slice U j cu).ownBlock = some q → w1.heap.size ≤ q) ∧ (∀ q, (Value.slice V j cv).ownBlock = some q → w1.heap.size ≤ q)) (fun i _ => k - (intOf i).toNat)
  case atStart => exact ⟨0, _, F4, none, none, 0, 0, Nat.zero_le _, rfl, PS0.out, fun q hq => (by cases hq), fun q hq => (by cases hq)⟩
  case round =>
    clear PS0 B5
    obtain ⟨j, S, F, U, V, cu, cv, hj, rfl, hps, hu, hv⟩ := hrel
    have P0 := Lib.hid hps
    have HU := Lib.hid hu
    have HV := Lib.hid hv
    have HJ := Lib.hid hj
    have HW0 := Lib.hid (show Below w.heap.size w wr from B1.out.trans (hps.ld.live.bel.mono B1.out.size))
    clear hps hu hv hj
    by_cases hlt : j < k
    · have HLT := Lib.hid hlt
      have j0 : (0 : Int) ≤ (j : Int) := by omega
      have j1 : (j : Int) < (k : Int) := by omega
      have jn : (j : Int) < (n : Int) := by have := HKN.out; omega
      have jm : (j : Int) < (m : Int) := by have := HKN.out; omega
      have hjn : j < l.length ∧ j < r.length := by have := HKN.out; omega
      have wj : IntKind.i64.wrap ((j : Int) + 1) = ((j + 1 : Nat) : Int) := IntWalk.i64_in _ (by have := HKN.out; omega)
      obtain ⟨x, hx⟩ : ∃ x, x = l[j] := ⟨_, rfl⟩
      obtain ⟨y, hy⟩ : ∃ y, y = r[j] := ⟨_, rfl⟩
      obtain ⟨ad, hA1, hz1, hz2⟩ := rd_pair (HA.out wr HW0.out) hjn.1
      obtain ⟨ae, hA2, hz3, hz4⟩ := rd_pair (HD.out wr HW0.out) hjn.2
      subst hA1 hA2
      rw [← hx] at hz2
      rw [← hy] at hz4
      have HC1 := Lib.hid (show ∀ w', Below wr.heap.size wr w' → w'.cell? (ad.add (j * 2)) = some (.int .u8 (x.1.toNat : Int)) ∧ w'.cell? ⟨(ad.add (j * 2)).block, (ad.add (j * 2)).off + 1, none⟩ = some (.int .u8 (x.2.toNat : Int)) from fun w' hb => by
        obtain ⟨a2, h1, _, h2⟩ := rd_pair (HA.out w' (HW0.out.trans (hb.mono HW0.out.size))) hjn.1
        injection h1 with h1; subst h1
        rw [← hx] at h2
        exact ⟨h2 0 _ rfl, h2 1 _ rfl⟩)
      have HC2 := Lib.hid (show ∀ w', Below wr.heap.size wr w' → w'.cell? (ae.add (j * 2)) = some (.int .u8 (y.1.toNat : Int)) ∧ w'.cell? ⟨(ae.add (j * 2)).block, (ae.add (j * 2)).off + 1, none⟩ = some (.int .u8 (y.2.toNat : Int)) from fun w' hb => by
        obtain ⟨a2, h1, _, h2⟩ := rd_pair (HD.out w' (HW0.out.trans (hb.mono HW0.out.size))) hjn.2
        injection h1 with h1; subst h1
        rw [← hy] at h2
        exact ⟨h2 0 _ rfl, h2 1 _ rfl⟩)
      have HSX := Lib.hid (show (ahead l j k).set j (sec2 x) = ahead l (j + 1) k by rw [hx]; exact ahead_set HLT.out HKN.out.1)
      have HSY := Lib.hid (show (ahead r j k).set j (sec2 y) = ahead r (j + 1) k by rw [hy]; exact ahead_set HLT.out HKN.out.2.1)
      have HTX := Lib.hid (show (l.take j).map sec2 ++ [sec2 x] = (l.take (j + 1)).map sec2 by rw [hx]; exact secs_take hjn.1)
      have HTY := Lib.hid (show (r.take j).map sec2 ++ [sec2 y] = (r.take (j + 1)).map sec2 by rw [hy]; exact secs_take hjn.2)
      obtain ⟨u, hu⟩ : ∃ u, u = sec2 x := ⟨_, rfl⟩
      obtain ⟨v, hv⟩ : ∃ v, v = sec2 y := ⟨_, rfl⟩
      have HBU := Lib.hid (show ∀ W, (Instr.build 37 #[(0, .int .u8 (x.1.toNat : Int)), (1, .int .u8 (x.2.toNat : Int))]).run Try.prog W = .ok (.agg (bva u)) W from by rw [hu]; exact build_sec2 x.1 x.2)
      have HBV := Lib.hid (show ∀ W, (Instr.build 37 #[(0, .int .u8 (y.1.toNat : Int)), (1, .int .u8 (y.2.toNat : Int))]).run Try.prog W = .ok (.agg (bva v)) W from by rw [hv]; exact build_sec2 y.1 y.2)
      have HU3 := Lib.hid (show u.length = 128 by rw [hu]; exact sec2_length _)
      have HV3 := Lib.hid (show v.length = 128 by rw [hv]; exact sec2_length _)
      have HIU : Hid ((Try.prog.info? 37).map (·.size) = some (bva u).size) := by rw [bva_size, HU3.out]; exact info_sec
      have HIV : Hid ((Try.prog.info? 37).map (·.size) = some (bva v).size) := by rw [bva_size, HV3.out]; exact info_sec
      rw [← hu] at HSX HTX
      rw [← hv] at HSY HTY
      clear hz1 hz2 hz3 hz4 hlt hx hy hu hv hjn
      go_wp2_with fail
      go_upto_region 8 with fail
      go_cut [14, 15] (fun a14 a15 wx => ∃ q q', a14 = .pointer (some ⟨q, 0, none⟩) ∧ a15 = .pointer (some ⟨q', 0, none⟩) ∧ Blk wx q (bva u) 37 ∧ Blk wx q' (bva v) 37 ∧ wr.heap.size ≤ q ∧ wr.heap.size ≤ q' ∧ Below wr.heap.size wr wx)
      case first =>
        go_wp2_with fail
        refine wp_region_held_drew (S := fun w' => Below wr.heap.size wr w') (by kernel_rfl) (Below.refl _ _).drew (fun hh => ?_)
        have HH := Lib.hid hh
        clear hh
        refine wpAnyH_take (i := 0) (v := ?vP0) rfl (by kernel_rfl) (by kernel_rfl) (by kernel_rfl) (fun _ _ _ h => h) (Or.inl ⟨by rfl, fun w' _ => ?yP0⟩) HH.out ?_
        case yP0 => (go_simp; try with_reducible rfl)
        refine wpAnyH_take (i := 1) (v := ?vP1) rfl (by kernel_rfl) (by kernel_rfl) (by kernel_rfl) (fun _ _ _ h => h) (Or.inl ⟨by rfl, fun w' _ => ?yP1⟩) HH.out ?_
        case yP1 => (go_simp; try with_reducible rfl)
        try simp only [List.getElem_toArray, List.getElem_cons_succ, List.getElem_cons_zero, Act.put, List.setIfInBounds_toArray, List.set_cons_zero, List.set_cons_succ]
        refine wpAnyH_take (i := 2) (v := ?vP2) rfl (by kernel_rfl) (by kernel_rfl) (by kernel_rfl) (fun _ _ _ h => h) (Or.inl ⟨by rfl, fun w' _ => ?yP2⟩) HH.out ?_
        case yP2 => (go_simp; try with_reducible rfl)
        refine wpAnyH_take (i := 3) (v := ?vP3) rfl (by kernel_rfl) (by kernel_rfl) (by kernel_rfl) (fun _ _ _ h => h) (Or.inl ⟨by rfl, fun w' _ => ?yP3⟩) HH.out ?_
        case yP3 => (go_simp; try with_reducible rfl)
        refine wpAnyH_take (i := 4) (v := .int .u8 (x.1.toNat : Int)) rfl (by kernel_rfl) (by kernel_rfl) (by kernel_rfl) (fun _ _ _ h => h) (Or.inl ⟨by rfl, fun w' hw' => ?yP4⟩) HH.out ?_
        case yP4 => (have hc := (HC1.out w' hw').1; go_simp; try with_reducible rfl)
        try simp only [List.getElem_toArray, List.getElem_cons_succ, List.getElem_cons_zero, Act.put, List.setIfInBounds_toArray, List.set_cons_zero, List.set_cons_succ]
        refine wpAnyH_take (i := 5) (v := ?vP5) rfl (by kernel_rfl) (by kernel_rfl) (by kernel_rfl) (fun _ _ _ h => h) (Or.inl ⟨by rfl, fun w' _ => ?yP5⟩) HH.out ?_
        case yP5 => (go_simp; try with_reducible rfl)
        refine wpAnyH_take (i := 6) (v := ?vP6) rfl (by kernel_rfl) (by kernel_rfl) (by kernel_rfl) (fun _ _ _ h => h) (Or.inl ⟨by rfl, fun w' _ => ?yP6⟩) HH.out ?_
        case yP6 => (go_simp; try with_reducible rfl)
        refine wpAnyH_take (i := 7) (v := ?vP7) rfl (by kernel_rfl) (by kernel_rfl) (by kernel_rfl) (fun _ _ _ h => h) (Or.inl ⟨by rfl, fun w' _ => ?yP7⟩) HH.out ?_
        case yP7 => (go_simp; try with_reducible rfl)
        try simp only [List.getElem_toArray, List.getElem_cons_succ, List.getElem_cons_zero, Act.put, List.setIfInBounds_toArray, List.set_cons_zero, List.set_cons_succ]
        refine wpAnyH_take (i := 8) (v := ?vP8) rfl (by kernel_rfl) (by kernel_rfl) (by kernel_rfl) (fun _ _ _ h => h) (Or.inl ⟨by rfl, fun w' _ => ?yP8⟩) HH.out ?_
        case yP8 => (go_simp; try with_reducible rfl)
        refine wpAnyH_take (i := 9) (v := .int .u8 (x.2.toNat : Int)) rfl (by kernel_rfl) (by kernel_rfl) (by kernel_rfl) (fun _ _ _ h => h) (Or.inl ⟨by rfl, fun w' hw' => ?yP9⟩) HH.out ?_
        case yP9 => (have hc := (HC1.out w' hw').2; go_simp; try with_reducible rfl)
        refine wpAnyH_take (i := 10) (v := .agg (bva u)) rfl (by kernel_rfl) (by kernel_rfl) (by kernel_rfl) (fun _ _ _ h => h) (Or.inl ⟨by rfl, fun w' hw' => ?yP10⟩) HH.out ?_
        case yP10 => exact exec_build 37 #[(0, .tmp 36), (1, .tmp 41)] rfl (by simp only [List.map_toArray, List.map_cons, List.map_nil]; exact HBU.out _)
        try simp only [List.getElem_toArray, List.getElem_cons_succ, List.getElem_cons_zero, Act.put, List.setIfInBounds_toArray, List.set_cons_zero, List.set_cons_succ]
        refine wpAnyH_take (i := 11) (v := ?vP11) rfl (by kernel_rfl) (by kernel_rfl) (by kernel_rfl) (fun _ _ _ h => h) (Or.inl ⟨by rfl, fun w' _ => ?yP11⟩) HH.out ?_
        case yP11 => (go_simp; try with_reducible rfl)
        refine wpAnyH_take (i := 12) (v := ?vP12) rfl (by kernel_rfl) (by kernel_rfl) (by kernel_rfl) (fun _ _ _ h => h) (Or.inl ⟨by rfl, fun w' _ => ?yP12⟩) HH.out ?_
        case yP12 => (go_simp; try with_reducible rfl)
        refine wpAnyH_take (i := 13) (v := ?vP13) rfl (by kernel_rfl) (by kernel_rfl) (by kernel_rfl) (fun _ _ _ h => h) (Or.inl ⟨by rfl, fun w' _ => ?yP13⟩) HH.out ?_
        case yP13 => (go_simp; try with_reducible rfl)
        try simp only [List.getElem_toArray, List.getElem_cons_succ, List.getElem_cons_zero, Act.put, List.setIfInBounds_toArray, List.set_cons_zero, List.set_cons_succ]
        refine wpAnyH_take (i := 14) (v := ?vP14) rfl (by kernel_rfl) (by kernel_rfl) (by kernel_rfl) (fun _ _ _ h => h) (Or.inl ⟨by rfl, fun w' _ => ?yP14⟩) HH.out ?_
        case yP14 => (go_simp; try with_reducible rfl)
        refine wpAnyH_take (i := 15) (v := .int .u8 (y.1.toNat : Int)) rfl (by kernel_rfl) (by kernel_rfl) (by kernel_rfl) (fun _ _ _ h => h) (Or.inl ⟨by rfl, fun w' hw' => ?yP15⟩) HH.out ?_
        case yP15 => (have hc := (HC2.out w' hw').1; go_simp; try with_reducible rfl)
        refine wpAnyH_take (i := 16) (v := ?vP16) rfl (by kernel_rfl) (by kernel_rfl) (by kernel_rfl) (fun _ _ _ h => h) (Or.inl ⟨by rfl, fun w' _ => ?yP16⟩) HH.out ?_
        case yP16 => (go_simp; try with_reducible rfl)
        try simp only [List.getElem_toArray, List.getElem_cons_succ, List.getElem_cons_zero, Act.put, List.setIfInBounds_toArray, List.set_cons_zero, List.set_cons_succ]
        refine wpAnyH_take (i := 17) (v := ?vP17) rfl (by kernel_rfl) (by kernel_rfl) (by kernel_rfl) (fun _ _ _ h => h) (Or.inl ⟨by rfl, fun w' _ => ?yP17⟩) HH.out ?_
        case yP17 => (go_simp; try with_reducible rfl)
        refine wpAnyH_take (i := 18) (v := ?vP18) rfl (by kernel_rfl) (by kernel_rfl) (by kernel_rfl) (fun _ _ _ h => h) (Or.inl ⟨by rfl, fun w' _ => ?yP18⟩) HH.out ?_
        case yP18 => (go_simp; try with_reducible rfl)
        refine wpAnyH_take (i := 19) (v := ?vP19) rfl (by kernel_rfl) (by kernel_rfl) (by kernel_rfl) (fun _ _ _ h => h) (Or.inl ⟨by rfl, fun w' _ => ?yP19⟩) HH.out ?_
        case yP19 => (go_simp; try with_reducible rfl)
        try simp only [List.getElem_toArray, List.getElem_cons_succ, List.getElem_cons_zero, Act.put, List.setIfInBounds_toArray, List.set_cons_zero, List.set_cons_succ]
        refine wpAnyH_take (i := 20) (v := .int .u8 (y.2.toNat : Int)) rfl (by kernel_rfl) (by kernel_rfl) (by kernel_rfl) (fun _ _ _ h => h) (Or.inl ⟨by rfl, fun w' hw' => ?yP20⟩) HH.out ?_
        case yP20 => (have hc := (HC2.out w' hw').2; go_simp; try with_reducible rfl)
        refine wpAnyH_take (i := 21) (v := .agg (bva v)) rfl (by kernel_rfl) (by kernel_rfl) (by kernel_rfl) (fun _ _ _ h => h) (Or.inl ⟨by rfl, fun w' hw' => ?yP21⟩) HH.out ?_
        case yP21 => exact exec_build 37 #[(0, .tmp 47), (1, .tmp 52)] rfl (by simp only [List.map_toArray, List.map_cons, List.map_nil]; exact HBV.out _)
        try simp only [List.getElem_toArray, List.getElem_cons_succ, List.getElem_cons_zero, Act.put, List.setIfInBounds_toArray, List.set_cons_zero, List.set_cons_succ]
        refine wpAnyH_ready (rs := [22, 23]) (by kernel_rfl) (by simp) (AllReadyH.cons rfl (fun K hK => ?_) (AllReadyH.cons rfl (fun K hK => ?_) AllReadyH.nil))
        · go_simp
          refine hK.out _ _ ((Below.refl wr.heap.size wr).drew.alloc (Nat.le_refl _) (.cells (bva z) 37)) (fun hh => ?_)
          have HH' := Lib.hid hh
          clear hh hK K HH
          have HH := Lib.hid HH'.out
          clear HH'
          refine wpAnyH_ready (rs := [23]) (by kernel_rfl) (by simp) (AllReadyH.cons rfl (fun K hK => ?_) AllReadyH.nil)
          go_simp
          refine hK.out _ _ (((Below.refl wr.heap.size wr).drew.alloc (Nat.le_refl _) (.cells (bva z) 37)).alloc ((Below.refl wr.heap.size wr).drew.alloc (Nat.le_refl _) (.cells (bva z) 37)).size (.cells (bva z) 37)) (fun hh => ?_)
          have HH' := Lib.hid hh
          clear hh hK K HH
          have HH := Lib.hid HH'.out
          clear HH'
          have hA : Blk ((wr.drew.alloc (.cells (bva z) 37)).alloc (.cells (bva z) 37)) wr.heap.size (bva z) 37 := Blk.below (w := (wr.drew.alloc (.cells (bva z) 37))) (heap_alloc_new _ _) ((Below.refl _ _).alloc (Nat.le_refl _) _)
          have hsz : (wr.drew.alloc (.cells (bva z) 37)).heap.size = wr.heap.size + 1 := Array.size_push _
          have hB : Blk ((wr.drew.alloc (.cells (bva z) 37)).alloc (.cells (bva z) 37)) (wr.heap.size + 1) (bva z) 37 := by rw [← hsz]; exact heap_alloc_new _ _
          have hne : wr.heap.size ≠ (wr.heap.size + 1) := by omega
          obtain ⟨h1, h2, h3, h4, h5⟩ := two_set (w := wr) (x := u) (y := v) hA hB hne (((Below.refl wr.heap.size wr).drew.alloc (Nat.le_refl _) (.cells (bva z) 37)).alloc ((Below.refl wr.heap.size wr).drew.alloc (Nat.le_refl _) (.cells (bva z) 37)).size (.cells (bva z) 37)) (Nat.le_refl _) (Nat.le_succ _)
          try simp only [List.getElem_toArray, List.getElem_cons_succ, List.getElem_cons_zero, Act.put, List.setIfInBounds_toArray, List.set_cons_zero, List.set_cons_succ]
          refine wpAnyH_ready (rs := [24]) (by kernel_rfl) (by simp) (AllReadyH.cons rfl (fun K hK => ?_) AllReadyH.nil)
          rw [if_pos (by rfl)]
          refine wp_store_row 37 (.tmp 14) (.tmp 42) rfl (wr.heap.size) (bva u) rfl rfl 37 (bva z) hA HIU.out (by rw [bva_size, bva_size, HU3.out, HZ3.out]) (bva_one _) ?_
          refine hK.out _ _ h4 (fun hh => ?_)
          have HH' := Lib.hid hh
          clear hh hK K HH
          have HH := Lib.hid HH'.out
          clear HH'
          try simp only [List.getElem_toArray, List.getElem_cons_succ, List.getElem_cons_zero, Act.put]
          refine wpAnyH_ready (rs := [25]) (by kernel_rfl) (by simp) (AllReadyH.cons rfl (fun K hK => ?_) AllReadyH.nil)
          rw [if_pos (by rfl)]
          refine wp_store_row 37 (.tmp 15) (.tmp 53) rfl ((wr.heap.size + 1)) (bva v) rfl rfl 37 (bva z) h1 HIV.out (by rw [bva_size, bva_size, HV3.out, HZ3.out]) (bva_one _) ?_
          refine hK.out _ _ h5 (fun hh => ?_)
          have HH' := Lib.hid hh
          clear hh hK K HH
          have HH := Lib.hid HH'.out
          clear HH'
          try simp only [List.getElem_toArray, List.getElem_cons_succ, List.getElem_cons_zero, Act.put]
          refine wpAnyH_done (by kernel_rfl) ?_ _
          go_wp2_with fail
          go_meet
          exact ⟨wr.heap.size, (wr.heap.size + 1), rfl, rfl, h2, h3, Nat.le_refl _, Nat.le_succ _, h5⟩
        · go_simp
          refine hK.out _ _ ((Below.refl wr.heap.size wr).drew.alloc (Nat.le_refl _) (.cells (bva z) 37)) (fun hh => ?_)
          have HH' := Lib.hid hh
          clear hh hK K HH
          have HH := Lib.hid HH'.out
          clear HH'
          refine wpAnyH_ready (rs := [22]) (by kernel_rfl) (by simp) (AllReadyH.cons rfl (fun K hK => ?_) AllReadyH.nil)
          go_simp
          refine hK.out _ _ (((Below.refl wr.heap.size wr).drew.alloc (Nat.le_refl _) (.cells (bva z) 37)).alloc ((Below.refl wr.heap.size wr).drew.alloc (Nat.le_refl _) (.cells (bva z) 37)).size (.cells (bva z) 37)) (fun hh => ?_)
          have HH' := Lib.hid hh
          clear hh hK K HH
          have HH := Lib.hid HH'.out
          clear HH'
          have hA : Blk ((wr.drew.alloc (.cells (bva z) 37)).alloc (.cells (bva z) 37)) wr.heap.size (bva z) 37 := Blk.below (w := (wr.drew.alloc (.cells (bva z) 37))) (heap_alloc_new _ _) ((Below.refl _ _).alloc (Nat.le_refl _) _)
          have hsz : (wr.drew.alloc (.cells (bva z) 37)).heap.size = wr.heap.size + 1 := Array.size_push _
          have hB : Blk ((wr.drew.alloc (.cells (bva z) 37)).alloc (.cells (bva z) 37)) (wr.heap.size + 1) (bva z) 37 := by rw [← hsz]; exact heap_alloc_new _ _
          have hne : wr.heap.size ≠ (wr.heap.size + 1) := by omega
          obtain ⟨h1, h2, h3, h4, h5⟩ := two_set (w := wr) (x := u) (y := v) hB hA (fun e => hne e.symm) (((Below.refl wr.heap.size wr).drew.alloc (Nat.le_refl _) (.cells (bva z) 37)).alloc ((Below.refl wr.heap.size wr).drew.alloc (Nat.le_refl _) (.cells (bva z) 37)).size (.cells (bva z) 37)) (Nat.le_succ _) (Nat.le_refl _)
          try simp only [List.getElem_toArray, List.getElem_cons_succ, List.getElem_cons_zero, Act.put, List.setIfInBounds_toArray, List.set_cons_zero, List.set_cons_succ]
          refine wpAnyH_ready (rs := [24]) (by kernel_rfl) (by simp) (AllReadyH.cons rfl (fun K hK => ?_) AllReadyH.nil)
          rw [if_pos (by rfl)]
          refine wp_store_row 37 (.tmp 14) (.tmp 42) rfl ((wr.heap.size + 1)) (bva u) rfl rfl 37 (bva z) hB HIU.out (by rw [bva_size, bva_size, HU3.out, HZ3.out]) (bva_one _) ?_
          refine hK.out _ _ h4 (fun hh => ?_)
          have HH' := Lib.hid hh
          clear hh hK K HH
          have HH := Lib.hid HH'.out
          clear HH'
          try simp only [List.getElem_toArray, List.getElem_cons_succ, List.getElem_cons_zero, Act.put]
          refine wpAnyH_ready (rs := [25]) (by kernel_rfl) (by simp) (AllReadyH.cons rfl (fun K hK => ?_) AllReadyH.nil)
          rw [if_pos (by rfl)]
          refine wp_store_row 37 (.tmp 15) (.tmp 53) rfl (wr.heap.size) (bva v) rfl rfl 37 (bva z) h1 HIV.out (by rw [bva_size, bva_size, HV3.out, HZ3.out]) (bva_one _) ?_
          refine hK.out _ _ h5 (fun hh => ?_)
          have HH' := Lib.hid hh
          clear hh hK K HH
          have HH := Lib.hid HH'.out
          clear HH'
          try simp only [List.getElem_toArray, List.getElem_cons_succ, List.getElem_cons_zero, Act.put]
          refine wpAnyH_done (by kernel_rfl) ?_ _
          go_wp2_with fail
          go_meet
          exact ⟨(wr.heap.size + 1), wr.heap.size, rfl, rfl, h2, h3, Nat.le_succ _, Nat.le_refl _, h5⟩
      case rest =>
        obtain ⟨q, q', rfl, rfl, hq, hq', hs, hs', hb⟩ := hcut
        have P1 := Lib.hid (P0.out.below hb)
        have HQU := Lib.hid (show (∀ x, (Value.slice U j cu).ownBlock = some x → x ≠ q ∧ x ≠ q') ∧ (∀ x, (Value.slice V j cv).ownBlock = some x → x ≠ q ∧ x ≠ q') ∧ q ≠ sb ∧ q' ≠ sb from
          ⟨fun x hx => by have := (P0.out.u.1.lt x hx).2; exact ⟨by omega, by omega⟩, fun x hx => by have := (P0.out.v.1.lt x hx).2; exact ⟨by omega, by omega⟩, by have := P0.out.bx.1.lt; omega, by have := P0.out.bx.1.lt; omega⟩)
        have hF := (SysL p [g1, g2] 2).lt P0.out.ld.live.at_
        have Q1 := Lib.hid (show Bx w1 wc F q (bva u) 37 from ⟨hq, Nat.le_trans P0.out.ld.live.bel.size hs, fun hf => by have := hF q hf; omega⟩)
        have Q1' := Lib.hid (show Bx w1 wc F q' (bva v) 37 from ⟨hq', Nat.le_trans P0.out.ld.live.bel.size hs', fun hf => by have := hF q' hf; omega⟩)
        clear hq hq' hs hs' hb hF P0 HC1 HC2 HW0
        go_wp2_with (first
          | (refine wpList_load_row rfl 37 (.tmp 14) rfl _ rfl 37 (bva u) (0, 0) _ Q1.out.1 Try.underlying37 rfl HIU.out ?_))
        refine (Mu.ld_write0 P1.out.ld j (by rw [ahead_length (by have := HLT.out; omega) HKN.out.1]; exact HLT.out) u HU3.out (by have := HLT.out; have := HKN.out; omega)).mono ?_
        rintro e w6 ⟨rfl, S6, F6, h6, hf6, hb6⟩
        rw [HSX.out] at h6
        have P6 := Lib.hid (P1.out.dev h6 hf6 hb6)
        have Q6 := Lib.hid (bx_dev Q1.out hf6 hb6)
        have Q6' := Lib.hid (bx_dev Q1'.out hf6 hb6)
        clear h6 hf6 hb6 P1 Q1 Q1'
        go_wp2_with (first
          | (refine wpList_load_row rfl 37 (.tmp 15) rfl _ rfl 37 (bva v) (0, 0) _ Q6'.out.1 Try.underlying37 rfl HIV.out ?_))
        refine (Mu.ld_write1 P6.out.ld j (by rw [ahead_length (by have := HLT.out; omega) HKN.out.2.1]; exact HLT.out) v HV3.out (by have := HLT.out; have := HKN.out; omega)).mono ?_
        rintro e w7 ⟨rfl, S7, F7, h7, hf7, hb7⟩
        rw [HSY.out] at h7
        have P7 := Lib.hid (P6.out.dev h7 hf7 hb7)
        have Q7 := Lib.hid (bx_dev Q6.out hf7 hb7)
        have Q7' := Lib.hid (bx_dev Q6'.out hf7 hb7)
        clear h7 hf7 hb7 P6 Q6 Q6'
        go_upto_region 11 with fail
        have G0 := Lib.hid (show RS p g1 g2 sb w w1 w7.drew S7 F7 (ahead l (j + 1) k) (ahead r (j + 1) k) (2 * j + 1 + 1) #[.slice U j cu, .slice V j cv] (.slice U j cu) (.slice V j cv) j j ((l.take j).map sec2) ((r.take j).map sec2) [(q, u), (q', v)] from
          ⟨P7.out.below (Below.refl _ _).drew, fun b hb => by
            rcases List.mem_cons.1 hb with rfl | hb
            · exact ⟨(Q7.out.below (Below.refl _ _).drew).1, HQU.out.2.2.1, fun x hx => (HQU.out.1 x hx).1, fun x hx => (HQU.out.2.1 x hx).1⟩
            · rw [List.mem_singleton] at hb; subst hb
              exact ⟨(Q7'.out.below (Below.refl _ _).drew).1, HQU.out.2.2.2, fun x hx => (HQU.out.1 x hx).2, fun x hx => (HQU.out.2.1 x hx).2⟩, HU.out, HV.out⟩)
        clear P7 Q7 Q7'
        have H0 := Lib.hid (show Blk w7.drew q (bva u) 37 ∧ Blk w7.drew q' (bva v) 37 from ⟨(G0.out.bx (q, u) (by simp)).1, (G0.out.bx (q', v) (by simp)).1⟩)
        have HSB := Lib.hid G0.out.ps.bx.1
        refine wp_region_late (S0 := fun w' => Blk w' q (bva u) 37 ∧ Blk w' q' (bva v) 37) (S := fun w' => Blk w' sb #[.slice U j cu, .slice V j cv] 27) (W := [11, 13]) (by kernel_rfl) ?_
        refine wpAnyL_take0 (i := 0) (v := ?vL0) rfl (by kernel_rfl) (by kernel_rfl) (by kernel_rfl) (fun _ _ _ h => h) (by rfl) (Or.inl ⟨by rfl, fun w' hw' => ?yL0⟩) H0.out (.inr HSB.out) ?_
        case yL0 => (go_simp; try with_reducible rfl)
        refine wpAnyL_take (i := 1) (v := .slice U j cu) rfl (by kernel_rfl) (by kernel_rfl) (by kernel_rfl) (fun _ _ _ h => h) (by kernel_rfl) (by rfl) (by rfl) (Or.inl ⟨by rfl, fun w' hw' => ?yL1⟩) ⟨H0.out, HSB.out⟩ ?_
        case yL1 => (have hc := hw'.2.cell 0; go_simp; try with_reducible rfl)
        refine wpAnyL_take0 (i := 2) (v := .agg (bva u)) rfl (by kernel_rfl) (by kernel_rfl) (by kernel_rfl) (fun _ _ _ h => h) (by rfl) (Or.inl ⟨by rfl, fun w' hw' => ?yL2⟩) H0.out (.inr HSB.out) ?_
        case yL2 => exact exec_load 37 (.tmp 14) rfl rfl hw'.1 Try.underlying37 rfl HIU.out
        refine wpAnyL_take0 (i := 5) (v := ?vL5) rfl (by kernel_rfl) (by kernel_rfl) (by kernel_rfl) (fun _ _ _ h => h) (by rfl) (Or.inl ⟨by rfl, fun w' hw' => ?yL5⟩) H0.out (.inr HSB.out) ?_
        case yL5 => (go_simp; try with_reducible rfl)
        refine wpAnyL_take (i := 6) (v := .slice V j cv) rfl (by kernel_rfl) (by kernel_rfl) (by kernel_rfl) (fun _ _ _ h => h) (by kernel_rfl) (by rfl) (by rfl) (Or.inl ⟨by rfl, fun w' hw' => ?yL6⟩) ⟨H0.out, HSB.out⟩ ?_
        case yL6 => (have hc := hw'.2.cell 1; go_simp; try with_reducible rfl)
        refine wpAnyL_take0 (i := 7) (v := .agg (bva v)) rfl (by kernel_rfl) (by kernel_rfl) (by kernel_rfl) (fun _ _ _ h => h) (by rfl) (Or.inl ⟨by rfl, fun w' hw' => ?yL7⟩) H0.out (.inr HSB.out) ?_
        case yL7 => exact exec_load 37 (.tmp 15) rfl rfl hw'.2 Try.underlying37 rfl HIV.out
        try simp only [List.getElem_toArray, List.getElem_cons_succ, List.getElem_cons_zero, Act.put, List.setIfInBounds_toArray, List.set_cons_zero, List.set_cons_succ]
        refine wpAnyL_ready (rs := [3, 8]) (by kernel_rfl) (by simp) (AllReadyL.cons rfl (fun K hK => ?_) (AllReadyL.cons rfl (fun K hK => ?_) AllReadyL.nil))
        · rw [if_pos (by rfl)]
          refine wp_buildSliceN 26 1 #[(0, .tmp 64)] rfl (by simp only [List.map_toArray, List.map_cons, List.map_nil]; exact run_oneN secsElt w7.drew (.agg (bva u)) (by show (bva u).size = 128; rw [bva_size, HU3.out]) (by omega)) ?_
          change K _ (w7.drew.alloc (.cells (bva u) 37))
          have G1' := G0.out.add u
          obtain ⟨v1, hv1⟩ : ∃ v1, v1 = w7.drew.alloc (.cells (bva u) 37) := ⟨_, rfl⟩
          rw [← hv1] at G1'
          rw [← hv1]
          obtain ⟨q1, hq1⟩ : ∃ q1, q1 = w7.drew.heap.size := ⟨_, rfl⟩
          rw [← hq1] at G1'
          rw [← hq1]
          have G1 := Lib.hid G1'
          clear G1' hv1 hq1 G0
          refine hK.out _ _ ⟨⟨(G1.out.bx (q, u) (by simp)).1, (G1.out.bx (q', v) (by simp)).1⟩, .inr G1.out.ps.bx.1⟩ ?_
          clear hK K
          try simp only [List.getElem_toArray, List.getElem_cons_succ, List.getElem_cons_zero, Act.put, List.setIfInBounds_toArray, List.set_cons_zero, List.set_cons_succ]
          refine wpAnyL_ready (rs := [4, 8]) (by kernel_rfl) (by simp) (AllReadyL.cons rfl (fun K hK => ?_) (AllReadyL.cons rfl (fun K hK => ?_) AllReadyL.nil))
          · rw [if_pos (by rfl)]
            refine wp_appN _ (.tmp 63) (.tmp 65) 26 rfl secsElt (base := w.heap.size) (v := .slice U j cu) (n := j) (xs := svs ((l.take j).map sec2)) rfl G1.out.ps.u.1 (m := 1) (A := some ⟨q1, 0, none⟩) rfl (rd_new (G1.out.bx (q1, u) (by simp)).1) (by rw [bv_length, HU3.out]) (bv_one _) (by have := HKN.out; have := HLT.out; omega) (Nat.le_trans B1.out.size G1.out.ps.ld.live.bel.size) ?_
            intro A2 c2 v2 ho hg hl
            have G2 := Lib.hid ((G1.out.app ho hg hl))
            clear ho hg hl G1
            refine hK.out _ _ ⟨⟨(G2.out.bx (q, u) (by simp)).1, (G2.out.bx (q', v) (by simp)).1⟩, .inr G2.out.ps.bx.1⟩ ?_
            clear hK K
            try simp only [List.getElem_toArray, List.getElem_cons_succ, List.getElem_cons_zero, Act.put, List.setIfInBounds_toArray, List.set_cons_zero, List.set_cons_succ]
            refine wpAnyL_take0 (i := 10) (v := ?vL10) rfl (by kernel_rfl) (by kernel_rfl) (by kernel_rfl) (fun _ _ _ h => h) (by rfl) (Or.inl ⟨by rfl, fun w' hw' => ?yL10⟩) ⟨(G2.out.bx (q, u) (by simp)).1, (G2.out.bx (q', v) (by simp)).1⟩ (.inr G2.out.ps.bx.1) ?_
            case yL10 => (go_simp; try with_reducible rfl)
            try simp only [List.getElem_toArray, List.getElem_cons_succ, List.getElem_cons_zero, Act.put, List.setIfInBounds_toArray, List.set_cons_zero, List.set_cons_succ]
            refine wpAnyL_ready (rs := [8]) (by kernel_rfl) (by simp) (AllReadyL.cons rfl (fun K hK => ?_) AllReadyL.nil)
            rw [if_pos (by rfl)]
            refine wp_buildSliceN 26 1 #[(0, .tmp 69)] rfl (by simp only [List.map_toArray, List.map_cons, List.map_nil]; exact run_oneN secsElt v2 (.agg (bva v)) (by show (bva v).size = 128; rw [bva_size, HV3.out]) (by omega)) ?_
            change K _ (v2.alloc (.cells (bva v) 37))
            have G3' := G2.out.add v
            obtain ⟨v3, hv3⟩ : ∃ v3, v3 = v2.alloc (.cells (bva v) 37) := ⟨_, rfl⟩
            rw [← hv3] at G3'
            rw [← hv3]
            obtain ⟨q3, hq3⟩ : ∃ q3, q3 = v2.heap.size := ⟨_, rfl⟩
            rw [← hq3] at G3'
            rw [← hq3]
            have G3 := Lib.hid G3'
            clear G3' hv3 hq3 G2
            refine hK.out _ _ ⟨⟨(G3.out.bx (q, u) (by simp)).1, (G3.out.bx (q', v) (by simp)).1⟩, .inr G3.out.ps.bx.1⟩ ?_
            clear hK K
            try simp only [List.getElem_toArray, List.getElem_cons_succ, List.getElem_cons_zero, Act.put, List.setIfInBounds_toArray, List.set_cons_zero, List.set_cons_succ]
            refine wpAnyL_ready (rs := [9]) (by kernel_rfl) (by simp) (AllReadyL.cons rfl (fun K hK => ?_) AllReadyL.nil)
            rw [if_pos (by rfl)]
            refine wp_appN _ (.tmp 68) (.tmp 70) 26 rfl secsElt (base := w.heap.size) (v := .slice V j cv) (n := j) (xs := svs ((r.take j).map sec2)) rfl G3.out.ps.v.1 (m := 1) (A := some ⟨q3, 0, none⟩) rfl (rd_new (G3.out.bx (q3, v) (by simp)).1) (by rw [bv_length, HV3.out]) (bv_one _) (by have := HKN.out; have := HLT.out; omega) (Nat.le_trans B1.out.size G3.out.ps.ld.live.bel.size) ?_
            intro A4 c4 v4 ho hg hl
            have G4 := Lib.hid ((G3.out.swap.app ho hg hl).swap)
            clear ho hg hl G3
            refine hK.out _ _ ⟨⟨(G4.out.bx (q, u) (by simp)).1, (G4.out.bx (q', v) (by simp)).1⟩, .inr G4.out.ps.bx.1⟩ ?_
            clear hK K
            try simp only [List.getElem_toArray, List.getElem_cons_succ, List.getElem_cons_zero, Act.put, List.setIfInBounds_toArray, List.set_cons_zero, List.set_cons_succ]
            try simp only [List.getElem_toArray, List.getElem_cons_succ, List.getElem_cons_zero, Act.put, List.setIfInBounds_toArray, List.set_cons_zero, List.set_cons_succ]
            refine wpAnyL_ready (rs := [11]) (by kernel_rfl) (by simp) (AllReadyL.cons rfl (fun K hK => ?_) AllReadyL.nil)
            have hc0 : v4.cell? ⟨sb, 0, none⟩ = some (.slice U j cu) := G4.out.ps.bx.1.cell 0
            have hf0 := G4.out.ps.bx.1.free 0
            rw [if_pos (by rfl)]
            go_simp
            have GL' := G4.out.set (cs' := #[.slice A2 (j + 1) c2, .slice V j cv]) 0 (.slice A2 (j + 1) c2) (by simp)
            obtain ⟨vl, hvl⟩ : ∃ vl, vl = v4.setCell ⟨sb, 0, none⟩ (.slice A2 (j + 1) c2) := ⟨_, rfl⟩
            rw [← hvl] at GL'
            rw [← hvl]
            have GL := Lib.hid GL'
            clear GL' hvl hc0 hf0 G4
            refine hK.out _ _ ⟨⟨(GL.out.bx (q, u) (by simp)).1, (GL.out.bx (q', v) (by simp)).1⟩, .inl ⟨11, by simp, by rfl⟩⟩ ?_
            clear hK K
            try simp only [List.getElem_toArray, List.getElem_cons_succ, List.getElem_cons_zero, Act.put, List.setIfInBounds_toArray, List.set_cons_zero, List.set_cons_succ]
            refine wpAnyL_take0 (i := 12) (v := ?vL12) rfl (by kernel_rfl) (by kernel_rfl) (by kernel_rfl) (fun _ _ _ h => h) (by rfl) (Or.inl ⟨by rfl, fun w' hw' => ?yL12⟩) ⟨(GL.out.bx (q, u) (by simp)).1, (GL.out.bx (q', v) (by simp)).1⟩ (.inl ⟨11, by simp, by rfl⟩) ?_
            case yL12 => (go_simp; try with_reducible rfl)
            try simp only [List.getElem_toArray, List.getElem_cons_succ, List.getElem_cons_zero, Act.put, List.setIfInBounds_toArray, List.set_cons_zero, List.set_cons_succ]
            refine wpAnyL_ready (rs := [13]) (by kernel_rfl) (by simp) (AllReadyL.cons rfl (fun K hK => ?_) AllReadyL.nil)
            have hc1 : vl.cell? ⟨sb, 1, none⟩ = some (.slice V j cv) := GL.out.ps.bx.1.cell 1
            have hf1 := GL.out.ps.bx.1.free 1
            rw [if_pos (by rfl)]
            go_simp
            have GM' := GL.out.set (cs' := #[.slice A2 (j + 1) c2, .slice A4 (j + 1) c4]) 1 (.slice A4 (j + 1) c4) (by simp)
            obtain ⟨vm, hvm⟩ : ∃ vm, vm = vl.setCell ⟨sb, 1, none⟩ (.slice A4 (j + 1) c4) := ⟨_, rfl⟩
            rw [← hvm] at GM'
            rw [← hvm]
            have GM := Lib.hid GM'
            clear GM' hvm hc1 hf1 GL
            refine hK.out _ _ ⟨⟨(GM.out.bx (q, u) (by simp)).1, (GM.out.bx (q', v) (by simp)).1⟩, .inl ⟨11, by simp, by rfl⟩⟩ ?_
            clear hK K
            try simp only [List.getElem_toArray, List.getElem_cons_succ, List.getElem_cons_zero, Act.put, List.setIfInBounds_toArray, List.set_cons_zero, List.set_cons_succ]
            refine wpAnyL_done (by kernel_rfl) ?_ _
            have hG := GM.out
            rw [HTX.out, HTY.out] at hG
            have GR := Lib.hid hG
            clear hG GM
            go_wp2_with fail
            go_roundw
            case rel => exact ⟨j + 1, S7, F7, A2, A4, c2, c4, HLT.out, by go_num, GR.out.ps, GR.out.uw, GR.out.vw⟩
            case measure => (have := HLT.out; simp [intOf]; omega)
          · rw [if_pos (by rfl)]
            refine wp_buildSliceN 26 1 #[(0, .tmp 69)] rfl (by simp only [List.map_toArray, List.map_cons, List.map_nil]; exact run_oneN secsElt v1 (.agg (bva v)) (by show (bva v).size = 128; rw [bva_size, HV3.out]) (by omega)) ?_
            change K _ (v1.alloc (.cells (bva v) 37))
            have G5' := G1.out.add v
            obtain ⟨v5, hv5⟩ : ∃ v5, v5 = v1.alloc (.cells (bva v) 37) := ⟨_, rfl⟩
            rw [← hv5] at G5'
            rw [← hv5]
            obtain ⟨q5, hq5⟩ : ∃ q5, q5 = v1.heap.size := ⟨_, rfl⟩
            rw [← hq5] at G5'
            rw [← hq5]
            have G5 := Lib.hid G5'
            clear G5' hv5 hq5 G1
            refine hK.out _ _ ⟨⟨(G5.out.bx (q, u) (by simp)).1, (G5.out.bx (q', v) (by simp)).1⟩, .inr G5.out.ps.bx.1⟩ ?_
            clear hK K
            try simp only [List.getElem_toArray, List.getElem_cons_succ, List.getElem_cons_zero, Act.put, List.setIfInBounds_toArray, List.set_cons_zero, List.set_cons_succ]
            refine wpAnyL_ready (rs := [4]) (by kernel_rfl) (by simp) (AllReadyL.cons rfl (fun K hK => ?_) AllReadyL.nil)
            rw [if_pos (by rfl)]
            refine wp_appN _ (.tmp 63) (.tmp 65) 26 rfl secsElt (base := w.heap.size) (v := .slice U j cu) (n := j) (xs := svs ((l.take j).map sec2)) rfl G5.out.ps.u.1 (m := 1) (A := some ⟨q1, 0, none⟩) rfl (rd_new (G5.out.bx (q1, u) (by simp)).1) (by rw [bv_length, HU3.out]) (bv_one _) (by have := HKN.out; have := HLT.out; omega) (Nat.le_trans B1.out.size G5.out.ps.ld.live.bel.size) ?_
            intro A6 c6 v6 ho hg hl
            have G6 := Lib.hid ((G5.out.app ho hg hl))
            clear ho hg hl G5
            refine hK.out _ _ ⟨⟨(G6.out.bx (q, u) (by simp)).1, (G6.out.bx (q', v) (by simp)).1⟩, .inr G6.out.ps.bx.1⟩ ?_
            clear hK K
            try simp only [List.getElem_toArray, List.getElem_cons_succ, List.getElem_cons_zero, Act.put, List.setIfInBounds_toArray, List.set_cons_zero, List.set_cons_succ]
            refine wpAnyL_take0 (i := 10) (v := ?vL10) rfl (by kernel_rfl) (by kernel_rfl) (by kernel_rfl) (fun _ _ _ h => h) (by rfl) (Or.inl ⟨by rfl, fun w' hw' => ?yL10⟩) ⟨(G6.out.bx (q, u) (by simp)).1, (G6.out.bx (q', v) (by simp)).1⟩ (.inr G6.out.ps.bx.1) ?_
            case yL10 => (go_simp; try with_reducible rfl)
            try simp only [List.getElem_toArray, List.getElem_cons_succ, List.getElem_cons_zero, Act.put, List.setIfInBounds_toArray, List.set_cons_zero, List.set_cons_succ]
            refine wpAnyL_ready (rs := [9]) (by kernel_rfl) (by simp) (AllReadyL.cons rfl (fun K hK => ?_) AllReadyL.nil)
            rw [if_pos (by rfl)]
            refine wp_appN _ (.tmp 68) (.tmp 70) 26 rfl secsElt (base := w.heap.size) (v := .slice V j cv) (n := j) (xs := svs ((r.take j).map sec2)) rfl G6.out.ps.v.1 (m := 1) (A := some ⟨q5, 0, none⟩) rfl (rd_new (G6.out.bx (q5, v) (by simp)).1) (by rw [bv_length, HV3.out]) (bv_one _) (by have := HKN.out; have := HLT.out; omega) (Nat.le_trans B1.out.size G6.out.ps.ld.live.bel.size) ?_
            intro A7 c7 v7 ho hg hl
            have G7 := Lib.hid ((G6.out.swap.app ho hg hl).swap)
            clear ho hg hl G6
            refine hK.out _ _ ⟨⟨(G7.out.bx (q, u) (by simp)).1, (G7.out.bx (q', v) (by simp)).1⟩, .inr G7.out.ps.bx.1⟩ ?_
            clear hK K
            try simp only [List.getElem_toArray, List.getElem_cons_succ, List.getElem_cons_zero, Act.put, List.setIfInBounds_toArray, List.set_cons_zero, List.set_cons_succ]
            try simp only [List.getElem_toArray, List.getElem_cons_succ, List.getElem_cons_zero, Act.put, List.setIfInBounds_toArray, List.set_cons_zero, List.set_cons_succ]
            refine wpAnyL_ready (rs := [11]) (by kernel_rfl) (by simp) (AllReadyL.cons rfl (fun K hK => ?_) AllReadyL.nil)
            have hc0 : v7.cell? ⟨sb, 0, none⟩ = some (.slice U j cu) := G7.out.ps.bx.1.cell 0
            have hf0 := G7.out.ps.bx.1.free 0
            rw [if_pos (by rfl)]
            go_simp
            have GL' := G7.out.set (cs' := #[.slice A6 (j + 1) c6, .slice V j cv]) 0 (.slice A6 (j + 1) c6) (by simp)
            obtain ⟨vl, hvl⟩ : ∃ vl, vl = v7.setCell ⟨sb, 0, none⟩ (.slice A6 (j + 1) c6) := ⟨_, rfl⟩
            rw [← hvl] at GL'
            rw [← hvl]
            have GL := Lib.hid GL'
            clear GL' hvl hc0 hf0 G7
            refine hK.out _ _ ⟨⟨(GL.out.bx (q, u) (by simp)).1, (GL.out.bx (q', v) (by simp)).1⟩, .inl ⟨11, by simp, by rfl⟩⟩ ?_
            clear hK K
            try simp only [List.getElem_toArray, List.getElem_cons_succ, List.getElem_cons_zero, Act.put, List.setIfInBounds_toArray, List.set_cons_zero, List.set_cons_succ]
            refine wpAnyL_take0 (i := 12) (v := ?vL12) rfl (by kernel_rfl) (by kernel_rfl) (by kernel_rfl) (fun _ _ _ h => h) (by rfl) (Or.inl ⟨by rfl, fun w' hw' => ?yL12⟩) ⟨(GL.out.bx (q, u) (by simp)).1, (GL.out.bx (q', v) (by simp)).1⟩ (.inl ⟨11, by simp, by rfl⟩) ?_
            case yL12 => (go_simp; try with_reducible rfl)
            try simp only [List.getElem_toArray, List.getElem_cons_succ, List.getElem_cons_zero, Act.put, List.setIfInBounds_toArray, List.set_cons_zero, List.set_cons_succ]
            refine wpAnyL_ready (rs := [13]) (by kernel_rfl) (by simp) (AllReadyL.cons rfl (fun K hK => ?_) AllReadyL.nil)
            have hc1 : vl.cell? ⟨sb, 1, none⟩ = some (.slice V j cv) := GL.out.ps.bx.1.cell 1
            have hf1 := GL.out.ps.bx.1.free 1
            rw [if_pos (by rfl)]
            go_simp
            have GM' := GL.out.set (cs' := #[.slice A6 (j + 1) c6, .slice A7 (j + 1) c7]) 1 (.slice A7 (j + 1) c7) (by simp)
            obtain ⟨vm, hvm⟩ : ∃ vm, vm = vl.setCell ⟨sb, 1, none⟩ (.slice A7 (j + 1) c7) := ⟨_, rfl⟩
            rw [← hvm] at GM'
            rw [← hvm]
            have GM := Lib.hid GM'
            clear GM' hvm hc1 hf1 GL
            refine hK.out _ _ ⟨⟨(GM.out.bx (q, u) (by simp)).1, (GM.out.bx (q', v) (by simp)).1⟩, .inl ⟨11, by simp, by rfl⟩⟩ ?_
            clear hK K
            try simp only [List.getElem_toArray, List.getElem_cons_succ, List.getElem_cons_zero, Act.put, List.setIfInBounds_toArray, List.set_cons_zero, List.set_cons_succ]
            refine wpAnyL_done (by kernel_rfl) ?_ _
            have hG := GM.out
            rw [HTX.out, HTY.out] at hG
            have GR := Lib.hid hG
            clear hG GM
            go_wp2_with fail
            go_roundw
            case rel => exact ⟨j + 1, S7, F7, A6, A7, c6, c7, HLT.out, by go_num, GR.out.ps, GR.out.uw, GR.out.vw⟩
            case measure => (have := HLT.out; simp [intOf]; omega)
        · rw [if_pos (by rfl)]
          refine wp_buildSliceN 26 1 #[(0, .tmp 69)] rfl (by simp only [List.map_toArray, List.map_cons, List.map_nil]; exact run_oneN secsElt w7.drew (.agg (bva v)) (by show (bva v).size = 128; rw [bva_size, HV3.out]) (by omega)) ?_
          change K _ (w7.drew.alloc (.cells (bva v) 37))
          have G8' := G0.out.add v
          obtain ⟨v8, hv8⟩ : ∃ v8, v8 = w7.drew.alloc (.cells (bva v) 37) := ⟨_, rfl⟩
          rw [← hv8] at G8'
          rw [← hv8]
          obtain ⟨q8, hq8⟩ : ∃ q8, q8 = w7.drew.heap.size := ⟨_, rfl⟩
          rw [← hq8] at G8'
          rw [← hq8]
          have G8 := Lib.hid G8'
          clear G8' hv8 hq8 G0
          refine hK.out _ _ ⟨⟨(G8.out.bx (q, u) (by simp)).1, (G8.out.bx (q', v) (by simp)).1⟩, .inr G8.out.ps.bx.1⟩ ?_
          clear hK K
          try simp only [List.getElem_toArray, List.getElem_cons_succ, List.getElem_cons_zero, Act.put, List.setIfInBounds_toArray, List.set_cons_zero, List.set_cons_succ]
          refine wpAnyL_ready (rs := [3]) (by kernel_rfl) (by simp) (AllReadyL.cons rfl (fun K hK => ?_) AllReadyL.nil)
          rw [if_pos (by rfl)]
          refine wp_buildSliceN 26 1 #[(0, .tmp 64)] rfl (by simp only [List.map_toArray, List.map_cons, List.map_nil]; exact run_oneN secsElt v8 (.agg (bva u)) (by show (bva u).size = 128; rw [bva_size, HU3.out]) (by omega)) ?_
          change K _ (v8.alloc (.cells (bva u) 37))
          have G9' := G8.out.add u
          obtain ⟨v9, hv9⟩ : ∃ v9, v9 = v8.alloc (.cells (bva u) 37) := ⟨_, rfl⟩
          rw [← hv9] at G9'
          rw [← hv9]
          obtain ⟨q9, hq9⟩ : ∃ q9, q9 = v8.heap.size := ⟨_, rfl⟩
          rw [← hq9] at G9'
          rw [← hq9]
          have G9 := Lib.hid G9'
          clear G9' hv9 hq9 G8
          refine hK.out _ _ ⟨⟨(G9.out.bx (q, u) (by simp)).1, (G9.out.bx (q', v) (by simp)).1⟩, .inr G9.out.ps.bx.1⟩ ?_
          clear hK K
          try simp only [List.getElem_toArray, List.getElem_cons_succ, List.getElem_cons_zero, Act.put, List.setIfInBounds_toArray, List.set_cons_zero, List.set_cons_succ]
          refine wpAnyL_ready (rs := [4]) (by kernel_rfl) (by simp) (AllReadyL.cons rfl (fun K hK => ?_) AllReadyL.nil)
          rw [if_pos (by rfl)]
          refine wp_appN _ (.tmp 63) (.tmp 65) 26 rfl secsElt (base := w.heap.size) (v := .slice U j cu) (n := j) (xs := svs ((l.take j).map sec2)) rfl G9.out.ps.u.1 (m := 1) (A := some ⟨q9, 0, none⟩) rfl (rd_new (G9.out.bx (q9, u) (by simp)).1) (by rw [bv_length, HU3.out]) (bv_one _) (by have := HKN.out; have := HLT.out; omega) (Nat.le_trans B1.out.size G9.out.ps.ld.live.bel.size) ?_
          intro A10 c10 v10 ho hg hl
          have G10 := Lib.hid ((G9.out.app ho hg hl))
          clear ho hg hl G9
          refine hK.out _ _ ⟨⟨(G10.out.bx (q, u) (by simp)).1, (G10.out.bx (q', v) (by simp)).1⟩, .inr G10.out.ps.bx.1⟩ ?_
          clear hK K
          try simp only [List.getElem_toArray, List.getElem_cons_succ, List.getElem_cons_zero, Act.put, List.setIfInBounds_toArray, List.set_cons_zero, List.set_cons_succ]
          refine wpAnyL_take0 (i := 10) (v := ?vL10) rfl (by kernel_rfl) (by kernel_rfl) (by kernel_rfl) (fun _ _ _ h => h) (by rfl) (Or.inl ⟨by rfl, fun w' hw' => ?yL10⟩) ⟨(G10.out.bx (q, u) (by simp)).1, (G10.out.bx (q', v) (by simp)).1⟩ (.inr G10.out.ps.bx.1) ?_
          case yL10 => (go_simp; try with_reducible rfl)
          try simp only [List.getElem_toArray, List.getElem_cons_succ, List.getElem_cons_zero, Act.put, List.setIfInBounds_toArray, List.set_cons_zero, List.set_cons_succ]
          refine wpAnyL_ready (rs := [9]) (by kernel_rfl) (by simp) (AllReadyL.cons rfl (fun K hK => ?_) AllReadyL.nil)
          rw [if_pos (by rfl)]
          refine wp_appN _ (.tmp 68) (.tmp 70) 26 rfl secsElt (base := w.heap.size) (v := .slice V j cv) (n := j) (xs := svs ((r.take j).map sec2)) rfl G10.out.ps.v.1 (m := 1) (A := some ⟨q8, 0, none⟩) rfl (rd_new (G10.out.bx (q8, v) (by simp)).1) (by rw [bv_length, HV3.out]) (bv_one _) (by have := HKN.out; have := HLT.out; omega) (Nat.le_trans B1.out.size G10.out.ps.ld.live.bel.size) ?_
          intro A11 c11 v11 ho hg hl
          have G11 := Lib.hid ((G10.out.swap.app ho hg hl).swap)
          clear ho hg hl G10
          refine hK.out _ _ ⟨⟨(G11.out.bx (q, u) (by simp)).1, (G11.out.bx (q', v) (by simp)).1⟩, .inr G11.out.ps.bx.1⟩ ?_
          clear hK K
          try simp only [List.getElem_toArray, List.getElem_cons_succ, List.getElem_cons_zero, Act.put, List.setIfInBounds_toArray, List.set_cons_zero, List.set_cons_succ]
          try simp only [List.getElem_toArray, List.getElem_cons_succ, List.getElem_cons_zero, Act.put, List.setIfInBounds_toArray, List.set_cons_zero, List.set_cons_succ]
          refine wpAnyL_ready (rs := [11]) (by kernel_rfl) (by simp) (AllReadyL.cons rfl (fun K hK => ?_) AllReadyL.nil)
          have hc0 : v11.cell? ⟨sb, 0, none⟩ = some (.slice U j cu) := G11.out.ps.bx.1.cell 0
          have hf0 := G11.out.ps.bx.1.free 0
          rw [if_pos (by rfl)]
          go_simp
          have GL' := G11.out.set (cs' := #[.slice A10 (j + 1) c10, .slice V j cv]) 0 (.slice A10 (j + 1) c10) (by simp)
          obtain ⟨vl, hvl⟩ : ∃ vl, vl = v11.setCell ⟨sb, 0, none⟩ (.slice A10 (j + 1) c10) := ⟨_, rfl⟩
          rw [← hvl] at GL'
          rw [← hvl]
          have GL := Lib.hid GL'
          clear GL' hvl hc0 hf0 G11
          refine hK.out _ _ ⟨⟨(GL.out.bx (q, u) (by simp)).1, (GL.out.bx (q', v) (by simp)).1⟩, .inl ⟨11, by simp, by rfl⟩⟩ ?_
          clear hK K
          try simp only [List.getElem_toArray, List.getElem_cons_succ, List.getElem_cons_zero, Act.put, List.setIfInBounds_toArray, List.set_cons_zero, List.set_cons_succ]
          refine wpAnyL_take0 (i := 12) (v := ?vL12) rfl (by kernel_rfl) (by kernel_rfl) (by kernel_rfl) (fun _ _ _ h => h) (by rfl) (Or.inl ⟨by rfl, fun w' hw' => ?yL12⟩) ⟨(GL.out.bx (q, u) (by simp)).1, (GL.out.bx (q', v) (by simp)).1⟩ (.inl ⟨11, by simp, by rfl⟩) ?_
          case yL12 => (go_simp; try with_reducible rfl)
          try simp only [List.getElem_toArray, List.getElem_cons_succ, List.getElem_cons_zero, Act.put, List.setIfInBounds_toArray, List.set_cons_zero, List.set_cons_succ]
          refine wpAnyL_ready (rs := [13]) (by kernel_rfl) (by simp) (AllReadyL.cons rfl (fun K hK => ?_) AllReadyL.nil)
          have hc1 : vl.cell? ⟨sb, 1, none⟩ = some (.slice V j cv) := GL.out.ps.bx.1.cell 1
          have hf1 := GL.out.ps.bx.1.free 1
          rw [if_pos (by rfl)]
          go_simp
          have GM' := GL.out.set (cs' := #[.slice A10 (j + 1) c10, .slice A11 (j + 1) c11]) 1 (.slice A11 (j + 1) c11) (by simp)
          obtain ⟨vm, hvm⟩ : ∃ vm, vm = vl.setCell ⟨sb, 1, none⟩ (.slice A11 (j + 1) c11) := ⟨_, rfl⟩
          rw [← hvm] at GM'
          rw [← hvm]
          have GM := Lib.hid GM'
          clear GM' hvm hc1 hf1 GL
          refine hK.out _ _ ⟨⟨(GM.out.bx (q, u) (by simp)).1, (GM.out.bx (q', v) (by simp)).1⟩, .inl ⟨11, by simp, by rfl⟩⟩ ?_
          clear hK K
          try simp only [List.getElem_toArray, List.getElem_cons_succ, List.getElem_cons_zero, Act.put, List.setIfInBounds_toArray, List.set_cons_zero, List.set_cons_succ]
          refine wpAnyL_done (by kernel_rfl) ?_ _
          have hG := GM.out
          rw [HTX.out, HTY.out] at hG
          have GR := Lib.hid hG
          clear hG GM
          go_wp2_with fail
          go_roundw
          case rel => exact ⟨j + 1, S7, F7, A10, A11, c10, c11, HLT.out, by go_num, GR.out.ps, GR.out.uw, GR.out.vw⟩
          case measure => (have := HLT.out; simp [intOf]; omega)
    · obtain rfl : j = k := by have := HJ.out; omega
      have j1 : ¬ (j : Int) < (j : Int) := by omega
      clear hlt
      go_wp2_with fail
      refine (Mu.ld_flush0' P0.out.ld).mono ?_
      rintro e w6 ⟨rfl, S6, F6, h6, hw6, hf6, hb6⟩
      have P6 := Lib.hid (P0.out.dev h6 hf6 hb6)
      have HW6 := Lib.hid hw6
      clear h6 hw6 hf6 hb6 P0
      go_wp2_with fail
      refine (Mu.ld_flush1 P6.out.ld HW6.out).mono ?_
      rintro e w7 ⟨rfl, S7, F7, h7, hf7, hb7⟩
      have P7 := Lib.hid (P6.out.dev h7 hf7 hb7)
      clear h7 hf7 hb7 P6 HW6
      go_upto_region 15 with fail
      have P8 := Lib.hid (P7.out.below (Below.refl _ _).drew)
      have R8 := Lib.hid (show Blk w7.drew b #[.slice none 0 0, .slice none 0 0] 27 from R1'.out.below (P8.out.ld.live.bel))
      clear P7
      refine wp_region_held_drew (S := fun w' => Blk w' sb #[.slice U j cu, .slice V j cv] 27) (by kernel_rfl) P8.out.bx.1 (fun hh => ?_)
      have HH := Lib.hid hh
      clear hh
      refine wpAnyH_take (i := 0) (v := ?vZ0) rfl (by kernel_rfl) (by kernel_rfl) (by kernel_rfl) (fun _ _ _ h => h) (Or.inl ⟨by rfl, fun w' _ => ?yZ0⟩) HH.out ?_
      case yZ0 => (go_simp; try with_reducible rfl)
      refine wpAnyH_take (i := 1) (v := ?vZ1) rfl (by kernel_rfl) (by kernel_rfl) (by kernel_rfl) (fun _ _ _ h => h) (Or.inl ⟨by rfl, fun w' _ => ?yZ1⟩) HH.out ?_
      case yZ1 => (go_simp; try with_reducible rfl)
      try simp only [List.getElem_toArray, List.getElem_cons_succ, List.getElem_cons_zero, Act.put, List.setIfInBounds_toArray, List.set_cons_zero, List.set_cons_succ]
      refine wpAnyH_take (i := 2) (v := ?vZ2) rfl (by kernel_rfl) (by kernel_rfl) (by kernel_rfl) (fun _ _ _ h => h) (Or.inl ⟨by rfl, fun w' _ => ?yZ2⟩) HH.out ?_
      case yZ2 => (go_simp; try with_reducible rfl)
      refine wpAnyH_take (i := 3) (v := ?vZ3) rfl (by kernel_rfl) (by kernel_rfl) (by kernel_rfl) (fun _ _ _ h => h) (Or.inl ⟨by rfl, fun w' _ => ?yZ3⟩) HH.out ?_
      case yZ3 => (go_simp; try with_reducible rfl)
      refine wpAnyH_take (i := 5) (v := .agg #[.slice U j cu, .slice V j cv]) rfl (by kernel_rfl) (by kernel_rfl) (by kernel_rfl) (fun _ _ _ h => h) (Or.inl ⟨by rfl, fun w' hw' => ?yZ5⟩) HH.out ?_
      case yZ5 => exact exec_load 27 (.tmp 12) rfl rfl hw' Try.underlying27 rfl secsAV_info
      try simp only [List.getElem_toArray, List.getElem_cons_succ, List.getElem_cons_zero, Act.put, List.setIfInBounds_toArray, List.set_cons_zero, List.set_cons_succ]
      refine wpAnyH_ready (rs := [4]) (by kernel_rfl) (by simp) (AllReadyH.cons rfl (fun K hK => ?_) AllReadyH.nil)
      go_simp
      refine (Mu.lm_new (G := gG) (fun _ _ _ _ _ _ => trivial) P8.out.ld (n := j) (ahead_length (Nat.le_refl _) HKN.out.1) (ahead_length (Nat.le_refl _) HKN.out.2.1)).mono ?_
      rintro e w8 ⟨g, s8, F8, rfl, hlm, hn8, hb8⟩
      have X8 := Lib.hid (bx_dev P8.out.bx hn8 hb8)
      have U8 := Lib.hid (P8.out.u.step hn8 hb8)
      have V8 := Lib.hid (P8.out.v.step hn8 hb8)
      have M8 := Lib.hid hlm
      have R9 := Lib.hid (R1'.out.below hlm.live.bel)
      have HNE := Lib.hid (show b ≠ sb by have := P8.out.bx.2.1; have := R1'.out.lt; omega)
      go_simp
      refine hK.out _ _ X8.out.1 (fun hh => ?_)
      have HH' := Lib.hid hh
      clear hh hK K HH hlm hn8 hb8 P8 R8
      have HH := Lib.hid HH'.out
      clear HH'
      refine wpAnyH_take (i := 6) (v := ?vZ6) rfl (by kernel_rfl) (by kernel_rfl) (by kernel_rfl) (fun _ _ _ h => h) (Or.inl ⟨by rfl, fun w' _ => ?yZ6⟩) HH.out ?_
      case yZ6 => (go_simp; try with_reducible rfl)
      refine wpAnyH_take (i := 7) (v := ?vZ7) rfl (by kernel_rfl) (by kernel_rfl) (by kernel_rfl) (fun _ _ _ h => h) (Or.inl ⟨by rfl, fun w' _ => ?yZ7⟩) HH.out ?_
      case yZ7 => (go_simp; try with_reducible rfl)
      try simp only [List.getElem_toArray, List.getElem_cons_succ, List.getElem_cons_zero, Act.put, List.setIfInBounds_toArray, List.set_cons_zero, List.set_cons_succ]
      refine wpAnyH_take (i := 8) (v := ?vZ8) rfl (by kernel_rfl) (by kernel_rfl) (by kernel_rfl) (fun _ _ _ h => h) (Or.inl ⟨by rfl, fun w' _ => ?yZ8⟩) HH.out ?_
      case yZ8 => (go_simp; try with_reducible rfl)
      try simp only [List.getElem_toArray, List.getElem_cons_succ, List.getElem_cons_zero, Act.put, List.setIfInBounds_toArray, List.set_cons_zero, List.set_cons_succ]
      refine wpAnyH_ready (rs := [9]) (by kernel_rfl) (by simp) (AllReadyH.cons rfl (fun K hK => ?_) AllReadyH.nil)
      rw [if_pos (by rfl)]
      refine wp_store_row 27 (.tmp 7) (.tmp 84) rfl b #[.slice U j cu, .slice V j cv] rfl rfl 27 #[.slice none 0 0, .slice none 0 0] R9.out secsAV_info rfl (by simp [Value.oneCell']) ?_
      have hb9 : But (fun y => y = b) w8 (w8.setRow b #[.slice U j cu, .slice V j cv]) := (But.refl _).setRow (S := fun y => y = b) (.inl rfl) _
      have R10 := Lib.hid (show Blk (w8.setRow b #[.slice U j cu, .slice V j cv]) b #[.slice U j cu, .slice V j cv] 27 from setRow_heap _ _ _ _ _ _ R9.out)
      have hbf : ∀ q, F8 q → q = b → False := fun q hq e => by have := M8.out.live.new q hq; have := R1'.out.lt; omega
      have M9 := Lib.hid (show Mu.LM p g1 g2 gG g w (w8.setRow b #[.slice U j cu, .slice V j cv]) s8 F8 ⟨ahead l j j, ahead r j j, false, false, List.replicate j false, List.replicate j false⟩ 0 from ⟨⟨(ML (Mu.one p g1 g2) gG g).but M8.out.live.at_ hb9 hbf, fun q hq => Nat.le_trans B1.out.size (M8.out.live.new q hq), (B1.out.trans (M8.out.live.bel.mono B1.out.size)).trans (hb9.below (fun k hk e => by have := HBB.out; omega) (Nat.le_trans B1.out.size M8.out.live.bel.size))⟩, M8.out.sees, M8.out.dry⟩)
      have U9 := Lib.hid (show RowN w (w8.setRow b #[.slice U j cu, .slice V j cv]) F8 (.slice U j cu) j ((l.take j).map sec2) from ⟨Own.but U8.out.1 hb9 (fun q hq e => by have := HU.out q hq; have := R1'.out.lt; omega), U8.out.2⟩)
      have V9 := Lib.hid (show RowN w (w8.setRow b #[.slice U j cu, .slice V j cv]) F8 (.slice V j cv) j ((r.take j).map sec2) from ⟨Own.but V8.out.1 hb9 (fun q hq e => by have := HV.out q hq; have := R1'.out.lt; omega), V8.out.2⟩)
      have X9 := Lib.hid (X8.out.1.but hb9 (fun e => HNE.out e.symm))
      refine hK.out _ _ X9.out (fun hh => ?_)
      clear hK K hb9 hbf hh
      refine wpAnyH_done (by kernel_rfl) ?_ _
      go_wp2_with fail
      rw [ahead_all, ahead_all] at M9
      exact bodyPost_ret (v := .tuple #[.pointer (some ⟨g1, 0, none⟩), .pointer (some ⟨g2, 0, none⟩), .pointer (some ⟨g, 0, none⟩), .agg #[.slice U j cu, .slice V j cv]]) (results_pair Try.results18 _ _ b #[.slice U j cu, .slice V j cv] rfl rfl rfl rfl R10.out Try.underlying27 rfl secsAV_info) rfl ⟨p, g1, g2, g, s8, F8, U, V, cu, cv, rfl, M9.out, U9.out, V9.out⟩
end Go.Proofs.Ytniamllcoemikaa.Sc
/-
  Scrubbing in the laws: All, and a walk, of a mirror of two devices of one power; what a report is.
-/
namespace Go.Proofs.Ytniamllcoemikaa.Sc
open Go.RowKit Kd Mi
attribute [local go_sem ↓] Go.wp_at_zero Go.wp_at_succ
section
variable {pw g1 g2 g q : Nat} {G : Gd} {w0 w w1 w' : World} {F F' : Nat → Prop} {m : Nat} {s : Mr (Mu.one pw g1 g2)} {x x' : Md} {y : Wk}
theorem lm_all (h : Mu.LM pw g1 g2 G g w0 w s F x m) (hn : x.a.length ≤ 5000) (hm : m < 700000) :
    Calls Try.prog 20 #[.pointer (some ⟨g, 0, none⟩)] w (Mu.RetM (.agg (mdRun G.f (x, Wk.zero) x.a.length).2.rep) pw g1 g2 G g w0 (mdRun G.f (x, Wk.zero) x.a.length).1 (m + x.a.length) F w) := by
  obtain ⟨h1, h2, h3⟩ := sees_run (G := G) h.sees h.dry Wk.zero x.a.length
  have hc := sall_any h.live.at_ h.sees.ok hn (by have := h.sees.most; omega)
  rw [show (allN G s x.a.length).2 = _ from h1] at hc
  exact hc.mono fun _ _ hr => h.ret hr h2 h3
/-- A walk through a mirror. -/
structure LW (pw g1 g2 : Nat) (G : Gd) (g q : Nat) (w0 w : World) (s : Mr (Mu.one pw g1 g2)) (y : Wk) (F : Nat → Prop) (x : Md) (m : Nat) : Prop where
  live : LiveA (WL (ML (Mu.one pw g1 g2) G g) (some ⟨g, 0, none⟩) q) w0 w (s, y) F
  sees : Mu.Sees s x m
  dry : Mu.Dry s x
/-- It returns v; the mirror is x, the walk y now. -/
def RetW (v : Value) (pw g1 g2 : Nat) (G : Gd) (g q : Nat) (w0 : World) (y : Wk) (x : Md) (m : Nat) (F : Nat → Prop) (w : World) (e : Ending) (w' : World) : Prop :=
  e = .returned v ∧ ∃ (s : Mr (Mu.one pw g1 g2)) (F' : Nat → Prop), LW pw g1 g2 G g q w0 w' s y F' x m ∧ (∀ q, F' q → F q ∨ w.heap.size ≤ q) ∧ But F w w'
theorem lw_new (h : Mu.LM pw g1 g2 G g w0 w s F x m) :
    Calls Try.prog 24 #[.pointer (some ⟨g, 0, none⟩)] w (fun e w' => ∃ q F', e = .returned (.pointer (some ⟨q, 0, none⟩)) ∧ LW pw g1 g2 G g q w0 w' s Wk.zero F' x m ∧ (∀ y, F' y → F y ∨ w.heap.size ≤ y) ∧ Below w.heap.size w w') := by
  refine (snew_any w (some ⟨g, 0, none⟩)).mono ?_
  rintro e w' ⟨q, rfl, hq, hx, hb⟩
  refine ⟨q, fun y => F y ∨ y = q, rfl, ⟨⟨wl_start (L := ML (Mu.one pw g1 g2) G g) (s := (s, Wk.zero)) h.live.at_ hb hx hq, fun y hy => ?_, h.live.bel.trans (hb.mono h.live.bel.size)⟩, h.sees, h.dry⟩, fun y hy => hy.imp id (fun e => by rw [e]; exact hq), hb⟩
  rcases hy with hy | rfl
  · exact h.live.new y hy
  · exact Nat.le_trans h.live.bel.size hq
theorem LW.below (h : LW pw g1 g2 G g q w0 w s y F x m) (hb : Below w.heap.size w w') : LW pw g1 g2 G g q w0 w' s y F x m := ⟨h.live.below hb, h.sees, h.dry⟩
theorem lw_step (h : LW pw g1 g2 G g q w0 w s y F x m) (hy : y.small) (hm : m < 700000) :
    Calls Try.prog 26 #[.pointer (some ⟨q, 0, none⟩)] w (RetW (tupS (mdStep G.f (x, y)).1) pw g1 g2 G g q w0 (mdStep G.f (x, y)).2.2 (mdStep G.f (x, y)).2.1 (m + 1) F w) := by
  obtain ⟨h1, h2, h3, h4⟩ := sees_step (G := G) h.sees h.dry y
  have hc := sstep_any h.live.at_ h.sees.ok (by have := h.sees.most; show (Mu.one pw g1 g2).most s.d < 900000; omega) hy
  refine hc.mono ?_
  rintro e w' ⟨he, F', hmv⟩
  have hl := h.live.step hmv
  refine ⟨he.trans (congrArg (fun t => Ending.returned (tupS t)) h1), (stepN G (s, y)).2.1, F', ⟨?_, h3, h4⟩, hmv.new, hmv.but⟩
  rw [← h2]
  exact hl
theorem lw_report (h : LW pw g1 g2 G g q w0 w s y F x m) : Calls Try.prog 25 #[.pointer (some ⟨q, 0, none⟩)] w (RetB (.agg y.rep) w) := sreport_any (wl_blk h.live.at_)
/-- All, while a walk is under way. -/
theorem lw_all (h : LW pw g1 g2 G g q w0 w s y F x m) (hn : x.a.length ≤ 5000) (hm : m < 700000) :
    Calls Try.prog 20 #[.pointer (some ⟨g, 0, none⟩)] w (RetW (.agg (mdRun G.f (x, Wk.zero) x.a.length).2.rep) pw g1 g2 G g q w0 y (mdRun G.f (x, Wk.zero) x.a.length).1 (m + x.a.length) F w) := by
  obtain ⟨F1, h1, _, hl⟩ := wl_in h.live.at_
  obtain ⟨h2, h3, h4⟩ := sees_run (G := G) h.sees h.dry Wk.zero x.a.length
  have hc := sall_any h1 h.sees.ok hn (by have := h.sees.most; show (Mu.one pw g1 g2).most s.d < 800000; omega)
  rw [show (allN G (s, y).1 x.a.length).2 = _ from h2] at hc
  refine hc.mono ?_
  rintro e w' ⟨rfl, F', hmv⟩
  have hm2 := hl hmv
  exact ⟨rfl, _, _, ⟨h.live.step hm2, h3, h4⟩, hm2.new, hm2.but⟩
end
theorem add_le_n (x : Wk) {k : Nat} : ∀ r : Int, (x.n ≤ k ∧ x.r ≤ k ∧ x.h ≤ k ∧ x.l ≤ k) → (x.add r).n ≤ k + 1 ∧ (x.add r).r ≤ k + 1 ∧ (x.add r).h ≤ k + 1 ∧ (x.add r).l ≤ k + 1 := fun r h => add_few x r ⟨by omega, h.2⟩
/-! ### Reports that are the same -/
theorem rep_form (y : Wk) : y.rep = #[.int .i64 y.r, .int .i64 y.h, .int .i64 y.l] := rfl
theorem rep_fields : (Try.prog.fieldsOf 32).toList.map (fun f => (f.name == "_", f.type, f.offset)) = [(false, 3, 0), (false, 3, 1), (false, 3, 2)] := by kernel_rfl
theorem rep_under : Try.prog.underlying 32 = some (.struct (Try.prog.fieldsOf 32)) := by kernel_rfl
theorem eq_rep (a b c d e f : Int) (W : World) : (Op.equalIn 10000 32 (.agg #[.int .i64 a, .int .i64 b, .int .i64 c]) (.agg #[.int .i64 d, .int .i64 e, .int .i64 f])).run Try.prog W = .ok ((a == d) && ((b == e) && (c == f))) W := by
  rw [show (10000 : Nat) = 9999 + 1 from rfl, run_equalIn_struct W 9999 32 #[.int .i64 a, .int .i64 b, .int .i64 c] #[.int .i64 d, .int .i64 e, .int .i64 f] rep_under (by kernel_rfl)]
  have h1 := run_equalIn_int (P := Try.prog) W 9998 3 .i64 .i64 a d Try.underlying3
  have h2 := run_equalIn_int (P := Try.prog) W 9998 3 .i64 .i64 b e Try.underlying3
  have h3 := run_equalIn_int (P := Try.prog) W 9998 3 .i64 .i64 c f Try.underlying3
  have p0 : ∀ a b c : Int, (part 3 #[.int .i64 a, .int .i64 b, .int .i64 c] 0).run Try.prog W = .ok (.int .i64 a) W := fun _ _ _ => run_part_plain W (by kernel_rfl) rfl
  have p1 : ∀ a b c : Int, (part 3 #[.int .i64 a, .int .i64 b, .int .i64 c] 1).run Try.prog W = .ok (.int .i64 b) W := fun _ _ _ => run_part_plain W (by kernel_rfl) rfl
  have p2 : ∀ a b c : Int, (part 3 #[.int .i64 a, .int .i64 b, .int .i64 c] 2).run Try.prog W = .ok (.int .i64 c) W := fun _ _ _ => run_part_plain W (by kernel_rfl) rfl
  have hf := rep_fields
  generalize (Try.prog.fieldsOf 32).toList = fs at hf
  rcases fs with _ | ⟨f0, _ | ⟨f1, _ | ⟨f2, _ | ⟨f3, fs⟩⟩⟩⟩
  · simp at hf
  · simp at hf
  · simp at hf
  · simp only [List.map_cons, List.map_nil, List.cons.injEq, Prod.mk.injEq, and_true, beq_eq_false_iff_ne] at hf
    obtain ⟨⟨n0, t0, o0⟩, ⟨n1, t1, o1⟩, ⟨n2, t2, o2⟩⟩ := hf
    rw [Op.eqFields, if_pos n0, Sem.run_bind, t0, o0, p0, Result.andThen_ok, Sem.run_bind, p0, Result.andThen_ok, Sem.run_bind, h1, Result.andThen_ok]
    cases a == d
    · rfl
    · rw [Bool.true_and, if_neg (by simp), Op.eqFields, if_pos n1, Sem.run_bind, t1, o1, p1, Result.andThen_ok, Sem.run_bind, p1, Result.andThen_ok, Sem.run_bind, h2, Result.andThen_ok]
      cases b == e
      · rfl
      · rw [Bool.true_and, if_neg (by simp), Op.eqFields, if_pos n2, Sem.run_bind, t2, o2, p2, Result.andThen_ok, Sem.run_bind, p2, Result.andThen_ok, Sem.run_bind, h3, Result.andThen_ok]
        cases c == f
        · rfl
        · rfl
  · simp at hf
theorem build_rep0 : ∀ W, (Instr.build 32 #[]).run Try.prog W = .ok (.agg #[.int .i64 0, .int .i64 0, .int .i64 0]) W := fun _ => by kernel_rfl
/-! ### The laws' is -/
set_option maxRecDepth 100000 in
set_option maxHeartbeats 6400000 in
theorem is_any (w : World) (a b c d e f : Int) : Calls Try.prog 19 #[.agg #[.int .i64 a, .int .i64 b, .int .i64 c], .agg #[.int .i64 d, .int .i64 e, .int .i64 f]] w (RetB (.int .i64 (if a = d ∧ b = e ∧ c = f then 1 else 0)) w) := by
  have BB : Below w.heap.size w ((w.alloc (.cells #[.int .i64 a, .int .i64 b, .int .i64 c] 32)).alloc (.cells #[.int .i64 d, .int .i64 e, .int .i64 f] 34)) := (((Below.refl w.heap.size w).alloc (Nat.le_refl _) _).alloc ((Below.refl w.heap.size w).alloc (Nat.le_refl _) _).size _)
  by_cases h1 : a = d
  · subst h1
    by_cases h2 : b = e
    · subst h2
      by_cases h3 : c = f
      · subst h3
        rw [if_pos ⟨rfl, rfl, rfl⟩]
        go_enter Try.func19, Try.ntmps19
        go_wp2_with fail
        go_ret
        exact ⟨rfl, BB⟩
      · rw [if_neg (fun h => h3 h.2.2)]
        go_enter Try.func19, Try.ntmps19
        go_wp2_with fail
        go_ret
        exact ⟨rfl, BB⟩
    · rw [if_neg (fun h => h2 h.2.1)]
      go_enter Try.func19, Try.ntmps19
      go_wp2_with fail
      go_ret
      exact ⟨rfl, BB⟩
  · rw [if_neg (fun h => h1 h.1)]
    go_enter Try.func19, Try.ntmps19
    go_wp2_with fail
    go_ret
    exact ⟨rfl, BB⟩
end Go.Proofs.Ytniamllcoemikaa.Sc
/-
  The laws' example, awake.
-/
namespace Go.Proofs.Ytniamllcoemikaa.Sc
open Go.RowKit Kd Mi
attribute [local go_sem ↓] Go.wp_at_zero Go.wp_at_succ
def aw0 : List (UInt8 × UInt8) := [(0, 0), (2, 0), (0, 1)]
def aw1 : List (UInt8 × UInt8) := [(0, 0), (0, 0), (0, 1)]
def awX : Md := ⟨aw0.map sec2, aw1.map sec2, false, false, List.replicate 3 false, List.replicate 3 false⟩
def awY : Md := (mdRun goodN (awX, Wk.zero) 3).1
theorem aw_facts : ((mdRun goodN (awX, Wk.zero) 3).2.r = 1 ∧ (mdRun goodN (awX, Wk.zero) 3).2.h = 1 ∧ (mdRun goodN (awX, Wk.zero) 3).2.l = 1) ∧ ((mdRun goodN (awY, Wk.zero) 3).2.r = 2 ∧ (mdRun goodN (awY, Wk.zero) 3).2.h = 0 ∧ (mdRun goodN (awY, Wk.zero) 3).2.l = 1) ∧ awX.a.length = 3 ∧ awY.a.length = 3 := by decide +kernel
theorem rd_pairs {w1 : World} {l : List (UInt8 × UInt8)} {g : Nat} {t : TypeId} (h : Blk w1 g (prs l).toArray t) : Rd w1.heap.size w1 (some ⟨g, 0, none⟩) (prs l) := fun j v hv => ⟨_, rfl, h.lt, by rw [Addr.add_mid, h.cell, Nat.zero_add]; simpa using hv⟩
set_option maxRecDepth 100000 in
set_option maxHeartbeats 6400000 in
theorem awake_any (w : World) : Calls Try.prog 17 #[] w (RetB (.bool true) w) := by
  obtain ⟨f1, f2, f3, f4⟩ := aw_facts
  have HR1 := Lib.hid (show (mdRun gG.f (awX, Wk.zero) awX.a.length).2.rep = #[.int .i64 1, .int .i64 1, .int .i64 1] by
    rw [f3, rep_form, show (mdRun gG.f (awX, Wk.zero) 3).2.r = 1 from f1.1, show (mdRun gG.f (awX, Wk.zero) 3).2.h = 1 from f1.2.1, show (mdRun gG.f (awX, Wk.zero) 3).2.l = 1 from f1.2.2]; rfl)
  have HR2 := Lib.hid (show (mdRun gG.f (awY, Wk.zero) awY.a.length).2.rep = #[.int .i64 2, .int .i64 0, .int .i64 1] by
    rw [f4, rep_form, show (mdRun gG.f (awY, Wk.zero) 3).2.r = 2 from f2.1, show (mdRun gG.f (awY, Wk.zero) 3).2.h = 0 from f2.2.1, show (mdRun gG.f (awY, Wk.zero) 3).2.l = 1 from f2.2.2]; rfl)
  have HX1 := Lib.hid (show (mdRun gG.f (awX, Wk.zero) awX.a.length).1 = awY by rw [f3]; rfl)
  have HLX := Lib.hid f3
  have HLY := Lib.hid f4
  clear f1 f2 f3 f4
  obtain ⟨w1, hw1⟩ : ∃ w1, w1 = (w.alloc (.cells (prs aw0).toArray 54)).alloc (.cells (prs aw1).toArray 54) := ⟨_, rfl⟩
  have b1 : Below w.heap.size w (w.alloc (.cells (prs aw0).toArray 54)) := (Below.refl _ _).alloc (Nat.le_refl _) _
  have B1 := Lib.hid (show Below w.heap.size w w1 by rw [hw1]; exact b1.alloc b1.size _)
  have X1 := Lib.hid (show Blk w1 w.heap.size (prs aw0).toArray 54 by rw [hw1]; exact Blk.below (w := w.alloc (.cells (prs aw0).toArray 54)) (heap_alloc_new _ _) ((Below.refl _ _).alloc (Nat.le_refl _) _))
  have X2 := Lib.hid (show Blk w1 (w.heap.size + 1) (prs aw1).toArray 54 by rw [hw1, show w.heap.size + 1 = (w.alloc (.cells (prs aw0).toArray 54)).heap.size from (Array.size_push _).symm]; exact heap_alloc_new _ _)
  clear b1
  go_enter Try.func17, Try.ntmps17
  go_wp2_with fail
  rw [show (w.alloc (.cells #[.int .u8 0, .int .u8 0, .int .u8 2, .int .u8 0, .int .u8 0, .int .u8 1] 54)).alloc (.cells #[.int .u8 0, .int .u8 0, .int .u8 0, .int .u8 0, .int .u8 0, .int .u8 1] 54) = w1 from hw1.symm]
  clear hw1
  have hc := pair_any w1 (Nat.le_refl _) (l := aw0) (r := aw1) (n := 3) (m := 3) (c := 3) (d := 3) rfl rfl (rd_pairs X1.out) (rd_pairs X2.out) (by omega) (by omega)
  refine hc.mono ?_
  clear hc
  rintro e w2 ⟨pw, g1, g2, g, s2, F2, U, V, cu, cv, rfl, h, hu, hv⟩
  have H2 := Lib.hid (show Mu.LM pw g1 g2 gG g w1 w2 s2 F2 awX 0 from h)
  have RU2 := Lib.hid hu
  have RV2 := Lib.hid hv
  clear h hu hv
  clear X1 X2
  go_wp2_with (show wpList _ _ _ ({ dst := none, op := .store 27 (.tmp 4) (.tmp 20), type := _, pos := _, after := _, guard := _ } :: _) _ _; apply Classical.byContradiction; intro hneg)
  refine hneg ?_
  clear hneg
  refine wpList_store_row rfl 27 (.tmp 4) (.tmp 20) rfl w2.heap.size #[.slice U 3 cu, .slice V 3 cv] rfl rfl 27 #[.slice none 0 0, .slice none 0 0] (heap_alloc_new _ _) secsAV_info rfl (by simp [Value.oneCell']) ?_
  obtain ⟨w3, hw3⟩ : ∃ w3, w3 = (w2.alloc (.cells #[.slice none 0 0, .slice none 0 0] 27)).setRow w2.heap.size #[.slice U 3 cu, .slice V 3 cv] := ⟨_, rfl⟩
  have bw : Below w2.heap.size w2 w3 := by rw [hw3]; exact below_setRow ((Below.refl _ _).alloc (Nat.le_refl _) _) (Nat.le_refl _) _
  have hbx : Blk w3 w2.heap.size #[.slice U 3 cu, .slice V 3 cv] 27 := by rw [hw3]; exact setRow_heap _ _ _ _ _ _ (heap_alloc_new _ _)
  rw [← hw3]
  clear hw3
  obtain ⟨b3, hb3⟩ : ∃ b3, b3 = w2.heap.size := ⟨_, rfl⟩
  rw [← hb3] at hbx
  rw [← hb3]
  have BS3 := Lib.hid (show Bx w1 w3 F2 b3 #[.slice U 3 cu, .slice V 3 cv] 27 from ⟨hbx, by rw [hb3]; exact H2.out.live.bel.size, fun hf => by have := (ML (Mu.one pw g1 g2) gG g).lt H2.out.live.at_ _ hf; omega⟩)
  clear hb3 hbx
  have RU3 := Lib.hid (RU2.out.below bw)
  have RV3 := Lib.hid (RV2.out.below bw)
  clear RU2 RV2
  have H3 := Lib.hid (H2.out.below bw)
  clear bw H2
  go_wp2_with fail
  have hc := lm_all H3.out (by rw [HLX.out]; omega) (by omega)
  rw [HR1.out, HX1.out] at hc
  refine hc.mono ?_
  clear hc
  rintro e w4 ⟨rfl, s4, F4, h, hm4⟩
  have H4 := Lib.hid (show Mu.LM pw g1 g2 gG g w1 w4 s4 F4 awY (0 + awX.a.length) from h)
  have RU4 := Lib.hid (RU3.out.step hm4.new hm4.but)
  have RV4 := Lib.hid (RV3.out.step hm4.new hm4.but)
  have BS4 := Lib.hid (bx_dev BS3.out hm4.new hm4.but)
  clear h hm4 H3 RU3 RV3 BS3
  go_wp2_with (show wpList _ _ _ ({ dst := none, op := .store 32 (.tmp 5) (.tmp 22), type := _, pos := _, after := _, guard := _ } :: _) _ _; apply Classical.byContradiction; intro hneg)
  refine hneg ?_
  clear hneg
  refine wpList_store_row rfl 32 (.tmp 5) (.tmp 22) rfl w4.heap.size #[.int .i64 1, .int .i64 1, .int .i64 1] rfl rfl 32 #[.int .i64 0, .int .i64 0, .int .i64 0] (heap_alloc_new _ _) wk_info rfl (by simp [Value.oneCell']) ?_
  obtain ⟨w5, hw5⟩ : ∃ w5, w5 = (w4.alloc (.cells #[.int .i64 0, .int .i64 0, .int .i64 0] 32)).setRow w4.heap.size #[.int .i64 1, .int .i64 1, .int .i64 1] := ⟨_, rfl⟩
  have bw : Below w4.heap.size w4 w5 := by rw [hw5]; exact below_setRow ((Below.refl _ _).alloc (Nat.le_refl _) _) (Nat.le_refl _) _
  have hbx : Blk w5 w4.heap.size #[.int .i64 1, .int .i64 1, .int .i64 1] 32 := by rw [hw5]; exact setRow_heap _ _ _ _ _ _ (heap_alloc_new _ _)
  rw [← hw5]
  clear hw5
  obtain ⟨b5, hb5⟩ : ∃ b5, b5 = w4.heap.size := ⟨_, rfl⟩
  rw [← hb5] at hbx
  rw [← hb5]
  have BA5 := Lib.hid (show Bx w1 w5 F4 b5 #[.int .i64 1, .int .i64 1, .int .i64 1] 32 from ⟨hbx, by rw [hb5]; exact H4.out.live.bel.size, fun hf => by have := (ML (Mu.one pw g1 g2) gG g).lt H4.out.live.at_ _ hf; omega⟩)
  clear hb5 hbx
  have RU5 := Lib.hid (RU4.out.below bw)
  have RV5 := Lib.hid (RV4.out.below bw)
  clear RU4 RV4
  have H5 := Lib.hid (H4.out.below bw)
  have BS5 := Lib.hid (BS4.out.below bw)
  clear bw H4 BS4
  obtain ⟨xz, hxz⟩ : ∃ xz, xz = (mdRun gG.f (awY, Wk.zero) awY.a.length).1 := ⟨_, rfl⟩
  go_wp2_with fail
  have hc := lm_all H5.out (by rw [HLY.out]; omega) (by rw [HLX.out]; omega)
  rw [HR2.out, ← hxz] at hc
  refine hc.mono ?_
  clear hc
  rintro e w6 ⟨rfl, s6, F6, h, hm6⟩
  have H6 := Lib.hid (show Mu.LM pw g1 g2 gG g w1 w6 s6 F6 xz (0 + awX.a.length + awY.a.length) from h)
  have RU6 := Lib.hid (RU5.out.step hm6.new hm6.but)
  have RV6 := Lib.hid (RV5.out.step hm6.new hm6.but)
  have BS6 := Lib.hid (bx_dev BS5.out hm6.new hm6.but)
  have BA6 := Lib.hid (bx_dev BA5.out hm6.new hm6.but)
  clear h hm6 H5 RU5 RV5 BS5 BA5
  go_wp2_with (show wpList _ _ _ ({ dst := none, op := .store 32 (.tmp 6) (.tmp 24), type := _, pos := _, after := _, guard := _ } :: _) _ _; apply Classical.byContradiction; intro hneg)
  refine hneg ?_
  clear hneg
  refine wpList_store_row rfl 32 (.tmp 6) (.tmp 24) rfl w6.heap.size #[.int .i64 2, .int .i64 0, .int .i64 1] rfl rfl 32 #[.int .i64 0, .int .i64 0, .int .i64 0] (heap_alloc_new _ _) wk_info rfl (by simp [Value.oneCell']) ?_
  obtain ⟨w7, hw7⟩ : ∃ w7, w7 = (w6.alloc (.cells #[.int .i64 0, .int .i64 0, .int .i64 0] 32)).setRow w6.heap.size #[.int .i64 2, .int .i64 0, .int .i64 1] := ⟨_, rfl⟩
  have bw : Below w6.heap.size w6 w7 := by rw [hw7]; exact below_setRow ((Below.refl _ _).alloc (Nat.le_refl _) _) (Nat.le_refl _) _
  have hbx : Blk w7 w6.heap.size #[.int .i64 2, .int .i64 0, .int .i64 1] 32 := by rw [hw7]; exact setRow_heap _ _ _ _ _ _ (heap_alloc_new _ _)
  rw [← hw7]
  clear hw7
  obtain ⟨b7, hb7⟩ : ∃ b7, b7 = w6.heap.size := ⟨_, rfl⟩
  rw [← hb7] at hbx
  rw [← hb7]
  have BB7 := Lib.hid (show Bx w1 w7 F6 b7 #[.int .i64 2, .int .i64 0, .int .i64 1] 32 from ⟨hbx, by rw [hb7]; exact H6.out.live.bel.size, fun hf => by have := (ML (Mu.one pw g1 g2) gG g).lt H6.out.live.at_ _ hf; omega⟩)
  clear hb7 hbx
  have RU7 := Lib.hid (RU6.out.below bw)
  have RV7 := Lib.hid (RV6.out.below bw)
  clear RU6 RV6
  have H7 := Lib.hid (H6.out.below bw)
  have BS7 := Lib.hid (BS6.out.below bw)
  have BA7 := Lib.hid (BA6.out.below bw)
  clear bw H6 BS6 BA6
  have HQ1 := Lib.hid (eq_rep 1 1 1 1 1 1)
  have HQ2 := Lib.hid (eq_rep 2 0 1 2 0 1)
  have hq1 := HQ1.out
  have hq2 := HQ2.out
  go_wp2_with (first
    | (refine wpList_load_row rfl 32 (.tmp 5) rfl _ rfl 32 _ (0, 0) _ BA7.out.1 Try.underlying32 rfl wk_info ?_)
    | (refine wpList_load_if (by rfl) 32 (.tmp 6) rfl rfl BB7.out.1 Try.underlying32 rfl wk_info ?_))
  go_ret
  exact ⟨rfl, B1.out.trans (H7.out.live.bel.mono B1.out.size)⟩
end Go.Proofs.Ytniamllcoemikaa.Sc
/-
  How an array of numbers that came in by value is opened: its numbers, as a list.
-/
namespace Go.Proofs.Ytniamllcoemikaa
open Go.RowKit Go.ChangeShapes Go.WideShapes

section
variable {H : Type} {enc : TypeId × Value → H} {P : Program} {w : World} {r : Reach} {b0 base : Nat} {spare : Nat → Bool} {held : Bool}

theorem open_arr {t e n : Nat} {k : IntKind} {v : Value} {d : DataW H} {ps : List MemPlace} (ht : P.underlying t = some (.array n e)) (he : P.underlying e = some (.int k)) (hc : P.cellsOf e = 1) (hn : P.cellsOf t = n)
    (hval : Value.okWide P w r b0 t v) (h : DataW.Trod enc P w base spare held t v d ps) :
    ∃ zs : List Int, zs.length = n ∧ v = .agg (zs.map (Value.int k)).toArray ∧ ∀ z ∈ zs, (Lit.int k z).wf = true := by
  obtain ⟨cs, rfl, hsz⟩ : ∃ cs, v = .agg cs ∧ cs.size = n := by
    have h1 := hval
    simp only [Value.okWide, ht] at h1
    obtain ⟨cs, e1, e2, _⟩ := h1
    exact ⟨cs, e1, by rw [e2, hn]⟩
  obtain ⟨fuel, hf⟩ := h
  obtain ⟨xs, m, _, _, hl, hx, hel⟩ := DataW.trod_array ht hf
  have each : ∀ i (hi : i < cs.size), ∃ z, cs[i] = .int k z ∧ (Lit.int k z).wf = true := by
    intro i hi
    have h1 := hel i (by omega)
    have hxi : i < xs.length := by omega
    rw [List.getElem?_eq_getElem hxi, hc, Nat.mul_one] at h1
    obtain ⟨z, e1, _, hw⟩ := DataW.trod_int he h1
    have e2 : ((Value.agg cs).cells.toList.drop i).take 1 = [cs[i]] := by
      show (cs.toList.drop i).take 1 = [cs[i]]
      rw [List.drop_eq_getElem_cons (by simpa using hi)]
      simp
    rw [e2] at e1
    injection e1 with e1
    exact ⟨z, e1, hw⟩
  refine ⟨cs.toList.map (fun v => match v with | .int _ z => z | _ => 0), by simpa using hsz, ?_, ?_⟩
  · congr 1
    apply Array.ext
    · simp
    · intro i h1 h2
      obtain ⟨z, hz, _⟩ := each i h1
      simp [hz]
  · intro z hz
    simp only [List.mem_map] at hz
    obtain ⟨v, hv, rfl⟩ := hz
    obtain ⟨i, hi, rfl⟩ := List.getElem_of_mem hv
    obtain ⟨z, hz, hw⟩ := each i (by simpa using hi)
    have : cs.toList[i] = .int k z := by simpa using hz
    rw [this]
    exact hw

theorem open_u32s {t e n : Nat} {v : Value} {d : DataW H} {ps : List MemPlace} (ht : P.underlying t = some (.array n e)) (he : P.underlying e = some (.int .u32)) (hc : P.cellsOf e = 1) (hn : P.cellsOf t = n)
    (hval : Value.okWide P w r b0 t v) (h : DataW.Trod enc P w base spare held t v d ps) : ∃ s : List UInt32, s.length = n ∧ v = .agg (uv s) := by
  obtain ⟨zs, hl, rfl, hw⟩ := open_arr ht he hc hn hval h
  refine ⟨zs.map fun z => UInt32.ofNat z.toNat, by simpa using hl, ?_⟩
  unfold uv
  rw [List.map_map]
  congr 2
  apply List.map_congr_left
  intro z hz
  have hb := bounds_u32 (hw z hz)
  simp only [Function.comp]
  exact int_eq (by rw [UInt32.toNat_ofNat']; omega)
theorem open_u8s {t e n : Nat} {v : Value} {d : DataW H} {ps : List MemPlace} (ht : P.underlying t = some (.array n e)) (he : P.underlying e = some (.int .u8)) (hc : P.cellsOf e = 1) (hn : P.cellsOf t = n)
    (hval : Value.okWide P w r b0 t v) (h : DataW.Trod enc P w base spare held t v d ps) : ∃ l : List UInt8, l.length = n ∧ v = .agg (bva l) := by
  obtain ⟨zs, hl, rfl, hw⟩ := open_arr ht he hc hn hval h
  refine ⟨zs.map fun z => UInt8.ofNat z.toNat, by simpa using hl, ?_⟩
  unfold bva bv
  rw [List.map_map]
  congr 2
  apply List.map_congr_left
  intro z hz
  have hb := bounds_u8 (hw z hz)
  simp only [Function.comp]
  exact int_eq (by rw [UInt8.toNat_ofNat']; omega)
end
end Go.Proofs.Ytniamllcoemikaa
