/-
  Texts of this seat, one behind the other: KdDeed, KdLieP, MiBoth, MiRepeat, MiNew, SuNew, KcCat, SuEnc, MiUno, KdRotP, MiSee, MuSee, MiMend, MiReach, MiWrite, MiChoose, MiHeal, MiFlush, MiSync, MiRead, MiMd, MiMd2, MiMd3, MuMd, MuMd2, MuMd3.
-/
import Derived.Laws.Bits64b
import Derived.OrdersHeld
import Derived.Deep.RegionHeld
import Derived.Lib.AppendZerosOnto
import Derived.Test.YtnplhagfmfggcaaSa2
/-
  Deeds: how a row of them that came in is opened, and how one is read.
-/
namespace Go.Proofs.Ytnplhagfmfggcaa.Kd
open Go.RowKit
/-- A deed: On, Kind, N, M, C. -/
structure Dd where
  on : Int
  kind : Int
  n : Int
  m : Int
  c : UInt8
def ddV (x : Dd) : List Value := [.int .i64 x.on, .int .i64 x.kind, .int .i64 x.n, .int .i64 x.m, .int .u8 (x.c.toNat : Int)]
def ddN : Dd := ⟨0, 0, 0, 0, 0⟩
def dds : List Dd → List Value
  | [] => []
  | x :: l => ddV x ++ dds l
theorem dds_append (a b : List Dd) : dds (a ++ b) = dds a ++ dds b := by
  induction a with
  | nil => rfl
  | cons x l ih => simp [dds, ih]
theorem ddV_length (x : Dd) : (ddV x).length = 5 := rfl
theorem dds_length (l : List Dd) : (dds l).length = l.length * 5 := by
  induction l with
  | nil => rfl
  | cons x l ih => rw [dds, List.length_append, ddV_length, ih, List.length_cons]; omega
theorem dds_get {l : List Dd} {k : Nat} (hk : k < l.length) {j : Nat} {v : Value} (hv : (ddV l[k])[j]? = some v) : (dds l)[5 * k + j]? = some v := by
  induction l generalizing k with
  | nil => simp at hk
  | cons x l ih =>
    cases k with
    | zero =>
      have hj : j < 5 := (List.getElem?_eq_some_iff.1 hv).1
      rw [dds, Nat.mul_zero, Nat.zero_add, List.getElem?_append_left (by rw [ddV_length]; omega)]
      exact hv
    | succ k =>
      rw [dds, List.getElem?_append_right (by rw [ddV_length]; omega), ddV_length, show 5 * (k + 1) + j - 5 = 5 * k + j by omega]
      exact ih (by simpa using hk) (by simpa using hv)
/-- All of a deed's numbers are numbers. -/
def Dd.ok (x : Dd) : Prop := (-9223372036854775808 ≤ x.on ∧ x.on ≤ 9223372036854775807) ∧ (-9223372036854775808 ≤ x.kind ∧ x.kind ≤ 9223372036854775807) ∧ (-9223372036854775808 ≤ x.n ∧ x.n ≤ 9223372036854775807) ∧ (-9223372036854775808 ≤ x.m ∧ x.m ≤ 9223372036854775807)
/-- A deed of a row, read. -/
theorem rd_deed {B : Nat} {w : World} {A : Option Addr} {l : List Dd} (h : Rd B w A (dds l)) {k : Nat} (hk : k < l.length) :
    ∃ ad, A = some ad ∧ ad.block < B ∧ ∀ j v, (ddV l[k])[j]? = some v → w.cell? ((ad.add (k * 5)).add j) = some v := by
  obtain ⟨ad, hA, hb, _⟩ := h _ _ (dds_get hk (j := 0) (v := .int .i64 l[k].on) rfl)
  refine ⟨ad, hA, hb, fun j v hv => ?_⟩
  obtain ⟨ad', hA', _, hc⟩ := h _ _ (dds_get hk hv)
  rw [hA] at hA'; injection hA' with hA'
  rw [hA', add_twice8, Nat.mul_comm k 5]
  exact hc
section
open Go.ChangeShapes Go.WideShapes
variable {H : Type} {enc : TypeId × Value → H} {w : World} {base : Nat} {spare : Nat → Bool} {held : Bool}
theorem deed_fields : (Try.prog.fieldsOf 36).toList.map (fun f => (f.name == "_", f.type, f.offset)) = [(false, 3, 0), (false, 3, 1), (false, 3, 2), (false, 3, 3), (false, 5, 4)] := by kernel_rfl
theorem deed_under : Try.prog.underlying 36 = some (.struct (Try.prog.fieldsOf 36)) := by kernel_rfl
set_option maxRecDepth 100000 in
theorem deed_of_trod {fuel : Nat} {cs : List Value} {x : DataW H × List MemPlace} (h : DataW.trod enc Try.prog w base spare held fuel 36 cs = some x) :
    ∃ y : Dd, cs = ddV y ∧ y.ok := by
  obtain ⟨xs, n, _, _, hl, hlen, hf⟩ := DataW.trod_struct deed_under h
  have hfs := deed_fields
  have hcn : Try.prog.cellsOf 36 = 5 := by kernel_rfl
  have hci : Try.prog.cellsOf 3 = 1 := by kernel_rfl
  have hcb : Try.prog.cellsOf 5 = 1 := by kernel_rfl
  generalize Try.prog.fieldsOf 36 = fs at hfs hlen hf
  rw [hcn] at hl
  obtain ⟨L⟩ := fs
  have hL5 : L.length = 5 := by simpa using congrArg List.length hfs
  match L, hL5, hfs, hf, hlen with
  | [f0, f1, f2, f3, f4], _, hfs, hf, hlen =>
    simp only [List.map_cons, List.map_nil, List.cons.injEq, Prod.mk.injEq, and_true] at hfs
    obtain ⟨⟨_, t0, o0⟩, ⟨_, t1, o1⟩, ⟨_, t2, o2⟩, ⟨_, t3, o3⟩, ⟨_, t4, o4⟩⟩ := hfs
    have h5 : xs.length = 5 := hlen
    have g0 := hf 0 f0 rfl
    have g1 := hf 1 f1 rfl
    have g2 := hf 2 f2 rfl
    have g3 := hf 3 f3 rfl
    have g4 := hf 4 f4 rfl
    rw [t0, o0, hci, List.getElem?_eq_getElem (by omega)] at g0
    rw [t1, o1, hci, List.getElem?_eq_getElem (by omega)] at g1
    rw [t2, o2, hci, List.getElem?_eq_getElem (by omega)] at g2
    rw [t3, o3, hci, List.getElem?_eq_getElem (by omega)] at g3
    rw [t4, o4, hcb, List.getElem?_eq_getElem (by omega)] at g4
    obtain ⟨a0, e0, _, w0⟩ := DataW.trod_int Try.underlying3 g0
    obtain ⟨a1, e1, _, w1⟩ := DataW.trod_int Try.underlying3 g1
    obtain ⟨a2, e2, _, w2⟩ := DataW.trod_int Try.underlying3 g2
    obtain ⟨a3, e3, _, w3⟩ := DataW.trod_int Try.underlying3 g3
    obtain ⟨a4, e4, _, w4⟩ := DataW.trod_int Try.underlying5 g4
    match cs, hl with
    | [u0, u1, u2, u3, u4], _ =>
      simp at e0 e1 e2 e3 e4
      exact ⟨⟨a0, a1, a2, a3, byteOf a4⟩, by rw [e0, e1, e2, e3, e4]; unfold ddV; rw [byteOf_val w4], bounds_i64 w0, bounds_i64 w1, bounds_i64 w2, bounds_i64 w3⟩
/-- A row of deeds that came in. -/
theorem open_deeds {a : Option Addr} {len cap : Nat} {d : DataW H} {ps : List MemPlace} (h : DataW.Trod enc Try.prog w base spare held 22 (.slice a len cap) d ps) :
    ∃ l : List Dd, l.length = len ∧ len ≤ cap ∧ cap ≤ maxLen ∧ Rd w.heap.size w a (dds l) ∧ ∀ y ∈ l, y.ok := by
  obtain ⟨fuel, hf⟩ := h
  have hf' : DataW.trod enc Try.prog w base spare held fuel 22 [Value.slice a len cap] = some (d, ps) := hf
  have hcn : Try.prog.cellsOf 36 = 5 := by kernel_rfl
  rcases Go.Deep.open_slice Try.underlying22 hf' with ⟨hcs, _⟩ | ⟨a', len', cap', m, n, D, Pl, hcs, _, hl, hm, hmm, _, hx⟩
  · simp only [List.cons.injEq, and_true] at hcs
    injection hcs with e1 e2 e3
    subst e1; subst e2; subst e3
    exact ⟨[], rfl, Nat.le_refl _, Nat.zero_le _, Rd.none, fun y hy => by simp at hy⟩
  · simp only [List.cons.injEq, and_true] at hcs
    injection hcs with e1 e2 e3
    subst e1; subst e2; subst e3
    have hlm : len ≤ m := by rw [hmm]; split <;> omega
    rw [hcn] at hx
    have hall : ∀ j, j ≤ len → ∃ l : List Dd, l.length = j ∧ (∀ y ∈ l, y.ok) ∧ ∀ k u, (dds l)[k]? = some u → w.cell? (a'.add k) = some u := by
      intro j
      induction j with
      | zero => exact fun _ => ⟨[], rfl, fun y hy => by simp at hy, fun k u hu => by simp [dds] at hu⟩
      | succ j ih =>
        intro hj
        obtain ⟨l, hl', hb, hc⟩ := ih (by omega)
        obtain ⟨cs', h1, h2⟩ := hx j (by omega)
        obtain ⟨y, hy, hyb⟩ := deed_of_trod h2
        obtain ⟨_, _, hcl⟩ := World.cells?_some h1
        have hnl : (dds l).length = j * 5 := by rw [dds_length, hl']
        refine ⟨l ++ [y], by simp [hl'], fun z hz => ?_, fun k u hu => ?_⟩
        · rcases List.mem_append.1 hz with hz | hz
          · exact hb z hz
          · rw [List.mem_singleton] at hz; rw [hz]; exact hyb
        · rw [dds_append] at hu
          rcases Nat.lt_or_ge k (dds l).length with hk | hk
          · rw [List.getElem?_append_left hk] at hu
            exact hc k u hu
          · rw [List.getElem?_append_right hk, dds, dds, List.append_nil, ← hy, hnl] at hu
            have hk5 : k - j * 5 < 5 := by
              have := (List.getElem?_eq_some_iff.1 hu).1
              rw [hy, ddV_length] at this; exact this
            have h3 := hcl (k - j * 5) hk5
            rw [add_twice8, show j * 5 + (k - j * 5) = k by omega, hu] at h3
            exact h3
    obtain ⟨l, hl', hb, hc⟩ := hall len (Nat.le_refl _)
    refine ⟨l, hl', hl, hm, fun k u hu => ⟨a', rfl, ?_, hc k u hu⟩, hb⟩
    have := World.block_lt_of_cell? _ _ (hc k u hu)
    rw [add_block] at this
    exact this
end
end Go.Proofs.Ytnplhagfmfggcaa.Kd
/-
  A device that lies; a row of sectors that is appended to. The rows of deeds in the laws.
-/
namespace Go.Proofs.Ytnplhagfmfggcaa.Kd
open Go.RowKit Go.Maps
/-- One device of L empty sectors, of which these writes wait; does it lie? -/
def lieS (L : Nat) (b : Bool) (wt : List (Nat × List UInt8)) : Sy := ⟨⟨false, -1⟩, [⟨List.replicate L zeroS, wt, 0, 0, b, false⟩]⟩
variable {L : Nat} {b : Bool} {wt : List (Nat × List UInt8)} {i : Int} {s : List UInt8}
theorem lie_refuse (h : 0 ≤ i ∧ i < (L : Int)) : refuseN (lieS L b wt).p ((lieS L b wt).at 0) i = 0 := by
  show (if (false || false) = true then (13 : Int) else if i < 0 ∨ ((List.replicate L zeroS).length : Int) ≤ i then 2 else 0) = 0
  rw [if_neg (by simp), if_neg (by rw [List.length_replicate]; omega)]
theorem lie_wy (h : 0 ≤ i ∧ i < (L : Int)) : (lieS L b wt).write 0 i s = (0, lieS L b (wt ++ [(i.toNat, s)])) := by
  obtain ⟨n, rfl⟩ := Int.eq_ofNat_of_zero_le h.1
  rw [write_yes (lie_refuse h)]; rfl
theorem lie_wn (h : ¬ (0 ≤ i ∧ i < (L : Int))) : (lieS L b wt).write 0 i s = (2, lieS L b wt) := by
  have hr : refuseN (lieS L b wt).p ((lieS L b wt).at 0) i = 2 := by
    show (if (false || false) = true then (13 : Int) else if i < 0 ∨ ((List.replicate L zeroS).length : Int) ≤ i then 2 else 0) = 2
    rw [if_neg (by simp), if_pos (by rw [List.length_replicate]; omega)]
  rw [write_no (by rw [hr]; decide), hr]
theorem lie_f : (lieS L true wt).flush 0 = (0, lieS L true wt) := rfl
theorem lie_off : (lieS L true wt).put 0 (((lieS L true wt).at 0).lie false) = lieS L false wt := rfl
theorem lie_on : (S0.new (20 : Int)).put 0 (((S0.new 20).at 0).lie true) = lieS 20 true [] := by kernel_rfl
/-- .. when all is flushed. -/
def lieE (L : Nat) (wt : List (Nat × List UInt8)) : Sy := ⟨⟨false, -1⟩, [⟨flushL (List.replicate L zeroS) wt, [], 0, 0, false, false⟩]⟩
theorem lie_e : (lieS L false wt).flush 0 = (0, lieE L wt) := rfl
theorem lie_len : ((lieS L b wt).at 0).st.length = L := by show (List.replicate L zeroS).length = L; rw [List.length_replicate]
theorem lie_secs : ∀ x ∈ List.replicate L zeroS, x.length = 128 := fun x hx => by rw [List.eq_of_mem_replicate hx]; exact zeroS_length
theorem lie_wait : (((lieS L b wt).at 0).wt.length : Int) = (wt.length : Int) := rfl
theorem lieE_st : ((lieE L wt).at 0).st = (List.range L).map (nowL (List.replicate L zeroS) wt) := by
  show flushL (List.replicate L zeroS) wt = _
  rw [flush_now, List.length_replicate]
theorem lieE_wait : (((lieE L wt).at 0).wt.length : Int) = 0 := rfl
theorem lie_read {k : Nat} (h : k < L) : readV (lieS L b wt).p ((lieS L b wt).at 0) (k : Int) = .tuple #[.agg (bva (nowL (List.replicate L zeroS) wt k)), .int .i64 0] := by
  rw [readV_yes (lie_refuse (by omega))]; rfl
/-- A row of sectors in new memory that is none of the devices'. -/
def RowN (w0 w : World) (F : Nat → Prop) (v : Value) (n : Nat) (l : List (List UInt8)) : Prop := w.ownsRow w0.heap.size 38 128 v n (svs l) ∧ ∀ q, v.ownBlock = some q → ¬ F q
section
variable {w0 w w' : World} {F F' : Nat → Prop} {v : Value} {n : Nat} {l : List (List UInt8)}
theorem RowN.step (h : RowN w0 w F v n l) (h1 : ∀ q, F' q → F q ∨ w.heap.size ≤ q) (h2 : But F w w') : RowN w0 w' F' v n l :=
  ⟨Own.but h.1 h2 h.2, fun q hq hf => by
    rcases h1 q hf with h3 | h3
    · exact h.2 q hq h3
    · have := (h.1.lt q hq).2; omega⟩
theorem RowN.below (h : RowN w0 w F v n l) (hb : Below w.heap.size w w') : RowN w0 w' F v n l := ⟨own_belowN h.1 hb, h.2⟩
theorem RowN.app {A' : Option Addr} {m c' : Nat} {y : List UInt8} (h : RowN w0 w F v n l) (hF : ∀ q, F q → q < w.heap.size) (ho : w'.ownsRow w0.heap.size 38 128 (.slice A' m c') m (svs l ++ bv y))
    (hor : (Value.slice A' m c').ownBlock = v.ownBlock ∨ (Value.slice A' m c').ownBlock = some w.heap.size) : RowN w0 w' F (.slice A' m c') m (l ++ [y]) :=
  ⟨by rw [svs_append, svs, svs, List.append_nil]; exact ho, fun q hq hf => by
    rcases hor with h1 | h1
    · exact h.2 q (h1 ▸ hq) hf
    · rw [h1] at hq; injection hq with hq; have := hF q hf; omega⟩
theorem rowN_nil : RowN w0 w F (.slice none 0 0) 0 [] := ⟨World.ownsRow_nil _ _ _ _, fun q hq => by cases hq⟩
/-- The devices behind an append to such a row. -/
theorem Live.app8 {p : Nat} {gs : List Nat} {S : Sy} (h : Live w0 w p gs S F) (hr : RowN w0 w F v n l) (hg : w.grownBy w' v.ownBlock) : Live w0 w' p gs S F :=
  h.but8 (T := fun q => v.ownBlock = some q) ((But.refl w).grown hg (fun _ hq => .inl hq)) (fun q hf hq => hr.2 q hq hf) (fun q hq => (hr.1.lt q hq).1)
end
end Go.Proofs.Ytnplhagfmfggcaa.Kd
/-
  The contract of the mirror's Both.
-/
namespace Go.Proofs.Ytnplhagfmfggcaa.Mi
open Go.RowKit Kd
attribute [local go_sem ↓] Go.wp_at_zero Go.wp_at_succ
section
variable {C : Duo} {G : Gd} {g : Nat} {w : World} {s : Mr C} {F : Nat → Prop}
/-- What the first p devices read of a place, as far as it may stand. -/
def bothTo (C : Duo) (G : Gd) (d : C.L.St) (n : Int) : Nat → List (List UInt8)
  | 0 => []
  | p + 1 => bothTo C G d n p ++ if rdOk C G d p n then [(C.rd d p n).2] else []
def bothL (G : Gd) (s : Mr C) (n : Int) : List (List UInt8) := if has s n then bothTo C G s.d n 2 else []
theorem bothTo_len (h : (ML C G g).At w s F) (n : Int) : ∀ p, p ≤ 2 → ∀ x ∈ bothTo C G s.d n p, x.length = 128
  | 0, _ => fun x hx => by cases hx
  | p + 1, hp => fun x hx => by
    rw [bothTo, List.mem_append] at hx
    rcases hx with hx | hx
    · exact bothTo_len h n p (by omega) x hx
    · split at hx
      · rw [List.mem_singleton] at hx
        subst hx
        obtain ⟨F1, hd, _⟩ := ml_dev h
        exact C.rd_len hd (by omega)
      · cases hx
theorem bothTo_few (d : C.L.St) (n : Int) : ∀ p, (bothTo C G d n p).length ≤ p
  | 0 => Nat.le_refl _
  | p + 1 => by
    rw [bothTo, List.length_append]
    have := bothTo_few d n p
    split <;> simp <;> omega
/-- It returns a new row of sectors. -/
def RetSec (l : List (List UInt8)) (w : World) (e : Ending) (w' : World) : Prop :=
  ∃ A n c, e = .returned (.slice A n c) ∧ l.length = n ∧ w'.ownsRow w.heap.size 38 128 (.slice A n c) n (svs l) ∧ Below w.heap.size w w'
set_option maxRecDepth 100000 in
set_option maxHeartbeats 3200000 in
theorem both_no {p : Option Addr} {n : Int} (hc : Calls Try.prog 121 #[.pointer p, .int .i64 n] w (RetB (.bool false) w)) : Calls Try.prog 129 #[.pointer p, .int .i64 n] w (RetSec [] w) := by
  have HC := Lib.hid hc
  clear hc
  go_enter Try.func129, Try.ntmps129
  go_wp2_with fail
  refine HC.out.mono ?_
  rintro e w1 ⟨rfl, bw⟩
  have B1 := Lib.hid bw
  clear bw
  go_wp2_with fail
  go_ret
  exact ⟨none, 0, 0, rfl, rfl, World.ownsRow_nil _ _ _ _, B1.out⟩
theorem both_nil (n : Int) : Calls Try.prog 129 #[.pointer none, .int .i64 n] w (RetSec [] w) := both_no (has_nil w n)
set_option maxRecDepth 100000 in
set_option maxHeartbeats 12800000 in
theorem both_any (h : (ML C G g).At w s F) (n : Int) : Calls Try.prog 129 #[.pointer (some ⟨g, 0, none⟩), .int .i64 n] w (RetSec (bothL G s n) w) := by
  cases hh : has s n with
  | false =>
    rw [bothL, hh, if_neg (by simp)]
    have := has_any h n
    rw [hh] at this
    exact both_no this
  | true =>
    obtain ⟨z, hz0⟩ : ∃ z : List UInt8, z = zeroS := ⟨_, rfl⟩
    have hz : ∀ W, (zeroValue 38).run Try.prog W = .ok (.agg (bva z)) W := fun _ => by rw [hz0]; kernel_rfl
    have HZ3 := Lib.hid (show z.length = 128 by rw [hz0]; exact zeroS_length)
    have hcc := has_any h n
    rw [hh] at hcc
    have HC := Lib.hid hcc
    have H := Lib.hid h
    rw [bothL, hh, if_pos rfl]
    clear hz0 hcc hh h
    go_enter Try.func129, Try.ntmps129
    go_wp2_with fail
    refine HC.out.mono ?_
    rintro e w1 ⟨rfl, bw⟩
    have B1 := Lib.hid bw
    clear bw HC
    go_wp2_with fail
    go_loopw [4, 12] (fun l x wr => ∃ (p : Nat) (A : Option Addr) (k c : Nat), p ≤ 2 ∧ x = .int .i64 p ∧ l = .slice A k c ∧ (bothTo C G s.d n p).length = k ∧ wr.ownsRow w.heap.size 38 128 (.slice A k c) k (svs (bothTo C G s.d n p)) ∧ Below w.heap.size w wr) (fun _ x _ => 2 - (intOf x).toNat)
    case atStart => exact ⟨0, none, 0, 0, by omega, rfl, rfl, rfl, World.ownsRow_nil _ _ _ _, B1.out⟩
    case round =>
      clear B1
      obtain ⟨p, A, k, c, hp, rfl, rfl, hk, ho, hb⟩ := hrel
      have HP := Lib.hid hp
      have HK := Lib.hid hk
      have O := Lib.hid ho
      have B := Lib.hid hb
      clear hp hk ho hb
      by_cases hlt : p < 2
      · have HPL := Lib.hid hlt
        have HR := Lib.hid (reads_any ((ML C G g).below H.out B.out) hlt n)
        have HS := Lib.hid (show bothTo C G s.d n (p + 1) = bothTo C G s.d n p ++ if rdOk C G s.d p n then [rdVal C G s.d p n] else [] by rw [bothTo, rdVal]; split <;> rfl)
        obtain ⟨y, hy⟩ : ∃ y, y = rdVal C G s.d p n := ⟨_, rfl⟩
        have HY3 := Lib.hid (show y.length = 128 by rw [hy, rdVal]; split; exact (ml_dev H.out).elim (fun F1 h => C.rd_len h.1 hlt); exact zeroS_length)
        have HIY : Hid ((Try.prog.info? 38).map (·.size) = some (bva y).size) := by rw [bva_size, HY3.out]; exact info_sec
        obtain ⟨o, ho⟩ : ∃ o, o = rdOk C G s.d p n := ⟨_, rfl⟩
        have HF := Lib.hid (bothTo_few (G := G) s.d n p)
        rw [← hy, ← ho] at HR HS
        have p0 : (0 : Int) ≤ (p : Int) := by omega
        have p1 : (p : Int) < 2 := by omega
        clear hy ho hlt
        go_wp2_with fail
        refine HR.out.mono ?_
        rintro e w2 ⟨rfl, bw⟩
        have O2 := Lib.hid (own_belowN O.out bw)
        have B2 := Lib.hid (B.out.trans (bw.mono B.out.size))
        clear bw O B HR
        go_wp2_with (show wpList _ _ _ ({ dst := none, op := .store 38 (.tmp 6) (.tmp 20), type := _, pos := _, after := _, guard := _ } :: _) _ _; apply Classical.byContradiction; intro hneg)
        refine hneg ?_
        clear hneg
        refine wpList_store_row rfl 38 (.tmp 6) (.tmp 20) rfl w2.heap.size (bva y) rfl rfl 38 (bva z) (heap_alloc_new _ _) HIY.out (by rw [bva_size, bva_size, HY3.out, HZ3.out]) (bva_one _) ?_
        obtain ⟨w3, hw3⟩ : ∃ w3, w3 = (w2.alloc (.cells (bva z) 38)).setRow w2.heap.size (bva y) := ⟨_, rfl⟩
        have hbw3 : Below w2.heap.size w2 w3 := by rw [hw3]; exact below_setRow ((Below.refl _ _).alloc (Nat.le_refl _) _) (Nat.le_refl _) _
        have BXw3 := Lib.hid (show Blk w3 w2.heap.size (bva y) 38 from by rw [hw3]; exact setRow_heap _ _ _ _ _ _ (heap_alloc_new _ _))
        rw [← hw3]
        clear hw3
        have O3 := Lib.hid (own_belowN O2.out hbw3)
        have B3 := Lib.hid (B2.out.trans (hbw3.mono B2.out.size))
        clear hbw3 O2 B2
        cases o
        · have HE := Lib.hid (show bothTo C G s.d n (p + 1) = bothTo C G s.d n p by rw [HS.out, if_neg (by simp), List.append_nil])
          go_wp2_with fail
          go_roundw
          case rel => exact ⟨p + 1, A, k, c, HPL.out, by go_num, rfl, by rw [HE.out]; exact HK.out, by rw [HE.out]; exact O3.out, B3.out⟩
          case measure => (have := HPL.out; simp [intOf]; omega)
        · have HE := Lib.hid (show bothTo C G s.d n (p + 1) = bothTo C G s.d n p ++ [y] by rw [HS.out, if_pos rfl])
          obtain ⟨L, hL⟩ : ∃ L, L = bothTo C G s.d n p := ⟨_, rfl⟩
          rw [← hL] at HE HK O3 HF
          have BA := Lib.hid (show Below w3.heap.size w3 (w3.alloc (.cells (bva y) 38)) from (Below.refl _ _).alloc (Nat.le_refl _) _)
          have RA := Lib.hid (show Rd (w3.alloc (.cells (bva y) 38)).heap.size (w3.alloc (.cells (bva y) 38)) (some ⟨w3.heap.size, 0, none⟩) (bv y) from by
            have hb5 : Blk (w3.alloc (.cells (bva y) 38)) w3.heap.size (bva y) 38 := heap_alloc_new _ _
            intro j v hv
            exact ⟨_, rfl, hb5.lt, by rw [Addr.add_mid, hb5.cell, Nat.zero_add]; simpa [bva] using hv⟩)
          clear hL HS
          go_wp2_with (show wpList _ _ _ ({ dst := some 24, op := .load 38 (.tmp 6), type := _, pos := _, after := _, guard := _ } :: _) _ _; apply Classical.byContradiction; intro hneg)
          refine hneg ?_
          clear hneg
          refine wpList_load_row rfl 38 (.tmp 6) rfl w2.heap.size rfl 38 (bva y) (0, 0) _ BXw3.out Try.underlying38 rfl HIY.out ?_
          go_wp2_with (show wpList _ _ _ ({ dst := some 25, op := .buildSlice 43 1 #[(0, .tmp 24)], type := _, pos := _, after := _, guard := _ } :: _) _ _; apply Classical.byContradiction; intro hneg)
          refine hneg ?_
          clear hneg
          refine wpList_execg8 (v := .slice (some ⟨w3.heap.size, 0, none⟩) 1 1) (w' := w3.alloc (.cells (bva y) 38)) rfl (exec_buildSlice 43 1 #[(0, .tmp 24)] rfl ?hbld) ?_
          case hbld =>
            simp only [List.map_toArray, List.map_cons, List.map_nil]
            exact run_oneN secsElt _ (.agg (bva y)) (by show (bva y).size = 128; rw [bva_size, HY3.out]) (by omega)
          go_wp2_with (at_builtin; apply Classical.byContradiction; intro hneg)
          refine hneg ?_
          clear hneg
          refine wpList_appN _ rfl (.tmp 23) (.tmp 25) 43 rfl secsElt (base := w.heap.size) (v := .slice A k c) (n := k) (xs := svs L) rfl (own_belowN O3.out BA.out) (m := 1) rfl RA.out (by rw [bv_length, HY3.out]) (bv_one _) (by have := HF.out; have := HK.out; omega) (Nat.le_trans B3.out.size BA.out.size) ?_
          intro A6 c6 w6 ho6 hg6 hl6
          have B6 := Lib.hid (app_belowN (B3.out.trans (BA.out.mono B3.out.size)) (own_belowN O3.out BA.out) hg6 (Nat.le_refl _) (Nat.le_trans B3.out.size BA.out.size))
          have O6 := Lib.hid (show World.ownsRow w6 w.heap.size 38 128 (.slice A6 (k + 1) c6) (k + 1) (svs (L ++ [y])) from by rw [svs_append, svs, svs, List.append_nil]; exact ho6)
          clear ho6 hg6 hl6 BXw3 O3 B3 BA RA
          go_wp2_with fail
          go_roundw
          case rel => exact ⟨p + 1, A6, k + 1, c6, HPL.out, by go_num, rfl, by rw [HE.out, List.length_append, HK.out]; rfl, by rw [HE.out]; exact O6.out, B6.out⟩
          case measure => (have := HPL.out; simp [intOf]; omega)
      · obtain rfl : p = 2 := by have := HP.out; omega
        clear hlt
        go_wp2_with fail
        go_ret
        exact ⟨A, k, c, rfl, HK.out, O.out, B.out⟩
end
end Go.Proofs.Ytnplhagfmfggcaa.Mi
/-
  The contract of slices.Repeat of one bool.
-/
namespace Go.Proofs.Ytnplhagfmfggcaa.Mi
open Go.RowKit Kd
attribute [local go_sem ↓] Go.wp_at_zero Go.wp_at_succ
theorem mask_small (a : Nat) (ha : a < 4294967296) : bits .and .u64 (a : Int) 4294967295 = (a : Int) := by
  have h := bits_and_u64_nat a 4294967295 (by omega) (by omega)
  rw [show a &&& 4294967295 = a % 4294967296 from Nat.and_two_pow_sub_one_eq_mod a 32, Nat.mod_eq_of_lt ha] at h
  exact h
theorem mul_one (w : World) (N : Nat) (hN : N ≤ 4096) : Calls Try.prog 137 #[.int .u64 1, .int .u64 N] w (Ret0 (.tuple #[.int .u64 0, .int .u64 N]) w) := by
  have a1 : bits .and .u64 1 4294967295 = 1 := by decide
  have a0 : bits .and .u64 0 4294967295 = 0 := by decide
  have aN : bits .and .u64 (N : Int) 4294967295 = N := mask_small N (by omega)
  have dN : (N : Int) / 4294967296 = 0 := by omega
  have wN : IntKind.u64.wrap (N : Int) = N := IntWalk.u64_in _ (by omega)
  have w0 : IntKind.u64.wrap 0 = 0 := by decide
  clear hN
  go_enter Try.func137, Try.ntmps137
  go_wp2_with fail
  exact bodyPost_ret (results_tmp2 Try.results137 _ _ _) rfl ⟨by rfl, rfl⟩
theorem mul_u (w : World) (N : Nat) (hN : N ≤ 4096) : Calls Try.prog 131 #[.int .u64 1, .int .u64 N] w (Ret0 (.tuple #[.int .u64 0, .int .u64 N]) w) := by
  have HN := Lib.hid hN
  clear hN
  go_enter Try.func131, Try.ntmps131
  go_wp2_with fail
  refine (mul_one _ N HN.out).mono ?_
  rintro e _ ⟨rfl, rfl⟩
  go_wp2_with fail
  exact bodyPost_ret (results_tmp2 Try.results131 _ _ _) rfl ⟨rfl, rfl⟩
theorem info_boolW : (Try.prog.info? 4).map (fun i => (i.zero, i.size, i.bytes)) = some (some (.bool false), 1, 1) := by kernel_rfl
theorem info_bool : (Try.prog.info? 4).map (·.size) = some 1 := by kernel_rfl
/-- A row whose first n cells are b. -/
structure Fst (w0 w : World) (g N n : Nat) (b : Bool) : Prop where
  cells : ∃ cur : Array Value, w.heap[g]? = some (.cells cur 4 (0, 0)) ∧ cur.size = N ∧ ∀ i, i < n → cur[i]? = some (.bool b)
  le : n ≤ N
  bel : Below w0.heap.size w0 w
theorem splice_get {α : Type} (L : List α) (o : Nat) (cs : List α) (h : o + cs.length ≤ L.length) (i : Nat) : (splice L o cs)[i]? = if i < o then L[i]? else if i < o + cs.length then cs[i - o]? else L[i]? := by
  unfold splice
  have ht : (L.take o).length = o := by rw [List.length_take]; omega
  by_cases h1 : i < o
  · rw [if_pos h1, List.getElem?_append_left (by omega), List.getElem?_take, if_pos h1]
  · rw [if_neg h1, List.getElem?_append_right (by omega), ht]
    by_cases h2 : i < o + cs.length
    · rw [if_pos h2, List.getElem?_append_left (by omega)]
    · rw [if_neg h2, List.getElem?_append_right (by omega), List.getElem?_drop]
      congr 1; omega
/-- A copy of the first cells behind them. -/
theorem Fst.copy {w0 w : World} {g N n : Nat} {b : Bool} (h : Fst w0 w g N n b) (hg : w0.heap.size ≤ g) (m : Nat) (hm : m = Nat.min n (N - n)) (k1 k2 : Nat) :
    ∃ w', (Builtin.copy_ #[191, 191] 3 #[.slice (some ⟨g, n, none⟩) (N - n) k1, .slice (some ⟨g, 0, none⟩) n k2]).run Try.prog w = .ok (goInt m) w' ∧ Fst w0 w' g N (n + m) b := by
  obtain ⟨cur, hc, hs, hb⟩ := h.cells
  have hle := h.le
  have hmn : m ≤ n ∧ m ≤ N - n := by rw [hm]; exact ⟨Nat.min_le_left _ _, Nat.min_le_right _ _⟩
  have hr := run_copyN (P := Try.prog) w 191 191 3 4 1 Try.underlying191 info_bool g n (N - n) k1 ⟨g, 0, none⟩ n k2 cur 4 (List.replicate m (.bool b)) hc
    (by rw [List.length_replicate, Nat.mul_one, hm]) (fun j v hv => by
      have hj : j < m := by have := (List.getElem?_eq_some_iff.1 hv).1; rwa [List.length_replicate] at this
      rw [List.getElem?_replicate, if_pos hj] at hv
      rw [Addr.add_mid, Nat.zero_add, ← hv, ← hb j (by omega)]
      exact Blk.cell (show Blk w g cur 4 from hc) j) (by rw [List.length_replicate]; omega) (fun v hv => by rw [List.eq_of_mem_replicate hv]; rfl)
  rw [← hm] at hr
  refine ⟨_, hr, ⟨⟨_, setRow_heap _ _ _ _ _ _ hc, ?_, fun i hi => ?_⟩, by omega, below_setRow h.bel hg _⟩⟩
  · rw [List.size_toArray, length_splice _ _ _ (by rw [List.length_replicate, Array.length_toList]; omega), Array.length_toList]; exact hs
  · rw [List.getElem?_toArray, splice_get _ _ _ (by rw [List.length_replicate, Array.length_toList]; omega), List.length_replicate]
    split
    · rw [Array.getElem?_toList]; exact hb i (by omega)
    · rw [List.getElem?_replicate, if_pos (by omega)]
theorem Fst.row {w0 w : World} {g N : Nat} {b : Bool} (h : Fst w0 w g N N b) (hg : w0.heap.size ≤ g) (hN : N ≤ maxLen) : w.ownsRow w0.heap.size 4 1 (.slice (some ⟨g, 0, none⟩) N N) N (bs (List.replicate N b)) := by
  obtain ⟨cur, hc, hs, hb⟩ := h.cells
  refine ⟨by rw [bs_length, List.length_replicate, Nat.mul_one], .inr ⟨g, N, cur, rfl, hg, hc, Nat.le_refl _, hN, by rw [hs, Nat.mul_one], ?_⟩⟩
  apply List.ext_getElem?
  intro i
  rw [List.getElem?_take, Nat.mul_one, bs, List.getElem?_map, List.getElem?_replicate]
  split
  · rw [Array.getElem?_toList, hb i (by assumption)]; rfl
  · rfl
set_option maxRecDepth 100000 in
set_option maxHeartbeats 6400000 in
theorem repeat_any {w : World} {a : Addr} {b : Bool} {c : Nat} (hb : w.cell? a = some (.bool b)) (N : Nat) (hN : N ≤ 4096) :
    Calls Try.prog 115 #[.slice (some a) 1 c, .int .i64 N] w (fun e w' => ∃ g, e = .returned (.slice (some ⟨g, 0, none⟩) N N) ∧ w'.ownsRow w.heap.size 4 1 (.slice (some ⟨g, 0, none⟩) N N) N (bs (List.replicate N b)) ∧ Below w.heap.size w w') := by
  have HN := Lib.hid hN
  have HB := Lib.hid hb
  obtain ⟨i0, hi, hz0, hz1, hz2⟩ := info_parts info_boolW
  have n0 : (0 : Int) ≤ (N : Int) := by omega
  have n1 : (N : Int) ≤ 4096 := by omega
  have wu : IntKind.u64.wrap (N : Int) = N := IntWalk.u64_in _ (by omega)
  have wi : IntKind.i64.wrap (N : Int) = N := IntWalk.i64_in _ (by omega)
  have w1 : IntKind.u64.wrap 1 = 1 := by decide
  clear hN
  go_enter Try.func115, Try.ntmps115
  go_wp2_with fail
  refine (mul_u _ N HN.out).mono ?_
  rintro e _ ⟨rfl, rfl⟩
  go_wp2_with (at_make; apply Classical.byContradiction; intro hneg)
  refine hneg ?_
  clear hneg
  refine wpList_make_full _ rfl _ _ _ rfl w.heap.size 4 i0 _ 1 Try.underlying191 hi hz0 hz1 .i64 .i64 _ _ N rfl rfl rfl rfl (by rw [hz2]; have := HN.out; omega) (by have := HN.out; unfold maxLen; omega) (Nat.le_refl _) ?_
  intro w1 hown hg
  have HO1 := Lib.hid hown
  have HG1 := Lib.hid (below_of_grown8 hg)
  have HMC := Lib.hid hg
  clear hown hg
  obtain ⟨g, hge⟩ : ∃ g, g = w.heap.size := ⟨_, rfl⟩
  rw [← hge]
  rw [← hge] at HO1
  have HGE := Lib.hid (show w.heap.size ≤ g by omega)
  have F0 := Lib.hid (show Fst w w1 g N 0 b from by
    rcases HO1.out.2 with ⟨h0, _⟩ | ⟨g', cap, cur, h0, _, h2, _, _, h5, _⟩
    · cases h0
    · injection h0 with h0 _ h7
      injection h0 with h0
      injection h0 with h0
      subst h0 h7
      exact ⟨⟨cur, h2, by rw [h5, Nat.mul_one], fun i hi => absurd hi (Nat.not_lt_zero _)⟩, Nat.zero_le _, HG1.out⟩)
  have hab : a.block < w.heap.size := block_lt_of_cell HB.out
  have HB1 := Lib.hid (show w1.cell? a = some (.bool b) from by rw [HG1.out.cell hab]; exact HB.out)
  clear hge HO1 hab
  have HCP := Lib.hid (show ∃ w2, (Builtin.copy_ #[191, 191] 3 #[.slice (some ⟨g, 0, none⟩) N N, .slice (some a) 1 c]).run Try.prog w1 = .ok (goInt (Nat.min 1 N)) w2 ∧ Fst w w2 g N (Nat.min 1 N) b from by
    obtain ⟨cur, hc, hs, _⟩ := F0.out.cells
    have hm1 : Nat.min 1 N ≤ 1 ∧ Nat.min 1 N ≤ N := ⟨Nat.min_le_left _ _, Nat.min_le_right _ _⟩
    have hr := run_copyN (P := Try.prog) w1 191 191 3 4 1 Try.underlying191 info_bool g 0 N N a 1 c cur 4 (List.replicate (Nat.min 1 N) (.bool b)) hc
      (by rw [List.length_replicate, Nat.mul_one]) (fun j v hv => by
        have hj : j < Nat.min 1 N := by have := (List.getElem?_eq_some_iff.1 hv).1; rwa [List.length_replicate] at this
        rw [List.getElem?_replicate, if_pos hj] at hv
        obtain rfl : j = 0 := by omega
        rw [show a.add 0 = a by rw [add_zero], ← hv]
        exact HB1.out) (by rw [List.length_replicate]; omega) (fun v hv => by rw [List.eq_of_mem_replicate hv]; rfl)
    refine ⟨_, hr, ⟨⟨_, setRow_heap _ _ _ _ _ _ hc, ?_, fun i hi => ?_⟩, hm1.2, below_setRow F0.out.bel HGE.out _⟩⟩
    · rw [List.size_toArray, length_splice _ _ _ (by rw [List.length_replicate, Array.length_toList]; omega), Array.length_toList]; exact hs
    · rw [List.getElem?_toArray, splice_get _ _ _ (by rw [List.length_replicate, Array.length_toList]; omega), List.length_replicate, if_neg (Nat.not_lt_zero _), if_pos (by omega), List.getElem?_replicate, if_pos (by omega)])
  obtain ⟨m0, hm0⟩ : ∃ m0, m0 = Nat.min 1 N := ⟨_, rfl⟩
  rw [← hm0] at HCP
  have HM0 := Lib.hid hm0
  obtain ⟨w2, hcp, hf2⟩ := HCP.out
  have F2 := Lib.hid hf2
  have hcq : (Builtin.copy_ #[191, 191] 3 #[.slice (some ⟨g, 0, none⟩) N N, .slice (some a) 1 c]).run Try.prog w1 = .ok (.int .i64 m0) w2 := hcp
  clear hm0 hcp hf2 HCP F0 HMC HG1 HB1
  go_wp2_with fail
  go_loopw [8] (fun x wr => ∃ n : Nat, x = .int .i64 n ∧ Fst w wr g N n b ∧ (n = 0 → N = 0)) (fun x _ => N - (intOf x).toNat)
  case atStart => exact ⟨m0, rfl, F2.out, fun h => by have h1 := HM0.out; rw [h] at h1; have : Nat.min 1 N = min 1 N := rfl; omega⟩
  case round =>
    clear F2 HM0 hcq
    obtain ⟨n, rfl, hf, hnz⟩ := hrel
    have FF := Lib.hid hf
    have HNZ := Lib.hid hnz
    clear hf hnz
    by_cases hlt : n < N
    · have HLT := Lib.hid hlt
      have m0 : (0 : Int) ≤ (n : Int) := by omega
      have m1 : (n : Int) < (N : Int) := by omega
      have m2 : (n : Int) ≤ (N : Int) := by omega
      have m3 : ¬ N = n := by omega
      have e1 : (N : Int) - (n : Int) = ((N - n : Nat) : Int) := by omega
      obtain ⟨k, hk⟩ : ∃ k, k = Nat.min n (N - n) := ⟨_, rfl⟩
      have HK := Lib.hid hk
      have HKB := Lib.hid (show k ≤ n ∧ k ≤ N - n by rw [hk]; exact ⟨Nat.min_le_left _ _, Nat.min_le_right _ _⟩)
      have HK0 := Lib.hid (show 0 < k by
        have h1 : n ≠ 0 := fun h => by have := HNZ.out h; omega
        have : Nat.min n (N - n) = min n (N - n) := rfl
        omega)
      have wk : IntKind.i64.wrap ((n : Int) + (k : Int)) = ((n + k : Nat) : Int) := by rw [show (n : Int) + (k : Int) = ((n + k : Nat) : Int) by omega]; exact IntWalk.i64_in _ (by have := HKB.out; have := HN.out; omega)
      have HCP := Lib.hid (show ∀ W, W = wr.drew → ∃ w', (Builtin.copy_ #[191, 191] 3 #[.slice (some ⟨g, n, none⟩) (N - n) (N - n), .slice (some ⟨g, 0, none⟩) n N]).run Try.prog W = .ok (goInt k) w' ∧ Fst w w' g N (n + k) b from fun W hW => by
        subst hW
        have hf : Fst w wr.drew g N n b := ⟨FF.out.cells, FF.out.le, FF.out.bel.drew⟩
        exact hf.copy HGE.out k HK.out _ _)
      clear hlt hk
      go_wp2_with fail
      refine wp_region_held_drew (S := fun _ => True) (by kernel_rfl) trivial (fun hh => ?_)
      have HH := Lib.hid hh
      clear hh
      refine wpAnyH_take (i := 0) (v := ?vR0) rfl (by kernel_rfl) (by kernel_rfl) (by kernel_rfl) (fun _ _ _ h => h) (Or.inl ⟨by rfl, fun w' _ => ?yR0⟩) HH.out ?_
      case yR0 => (go_simp; try with_reducible rfl)
      refine wpAnyH_take (i := 1) (v := ?vR1) rfl (by kernel_rfl) (by kernel_rfl) (by kernel_rfl) (fun _ _ _ h => h) (Or.inl ⟨by rfl, fun w' _ => ?yR1⟩) HH.out ?_
      case yR1 => (go_simp; try with_reducible rfl)
      try simp only [List.getElem_toArray, List.getElem_cons_succ, List.getElem_cons_zero, Act.put, List.setIfInBounds_toArray, List.set_cons_zero, List.set_cons_succ]
      refine wpAnyH_take (i := 2) (v := ?vR2) rfl (by kernel_rfl) (by kernel_rfl) (by kernel_rfl) (fun _ _ _ h => h) (Or.inl ⟨by rfl, fun w' _ => ?yR2⟩) HH.out ?_
      case yR2 => (go_simp; try with_reducible rfl)
      refine wpAnyH_take (i := 3) (v := ?vR3) rfl (by kernel_rfl) (by kernel_rfl) (by kernel_rfl) (fun _ _ _ h => h) (Or.inl ⟨by rfl, fun w' _ => ?yR3⟩) HH.out ?_
      case yR3 => (go_simp; try with_reducible rfl)
      refine wpAnyH_take (i := 4) (v := ?vR4) rfl (by kernel_rfl) (by kernel_rfl) (by kernel_rfl) (fun _ _ _ h => h) (Or.inl ⟨by rfl, fun w' _ => ?yR4⟩) HH.out ?_
      case yR4 => (go_simp; try with_reducible rfl)
      try simp only [List.getElem_toArray, List.getElem_cons_succ, List.getElem_cons_zero, Act.put, List.setIfInBounds_toArray, List.set_cons_zero, List.set_cons_succ]
      refine wpAnyH_take (i := 5) (v := ?vR5) rfl (by kernel_rfl) (by kernel_rfl) (by kernel_rfl) (fun _ _ _ h => h) (Or.inl ⟨by rfl, fun w' _ => ?yR5⟩) HH.out ?_
      case yR5 => (go_simp; try with_reducible rfl)
      refine wpAnyH_take (i := 6) (v := ?vR6) rfl (by kernel_rfl) (by kernel_rfl) (by kernel_rfl) (fun _ _ _ h => h) (Or.inl ⟨by rfl, fun w' _ => ?yR6⟩) HH.out ?_
      case yR6 => (go_simp; try with_reducible rfl)
      try simp only [List.getElem_toArray, List.getElem_cons_succ, List.getElem_cons_zero, Act.put, List.setIfInBounds_toArray, List.set_cons_zero, List.set_cons_succ]
      refine wpAnyH_ready (rs := [7]) (by kernel_rfl) (by simp) (AllReadyH.cons rfl (fun K hK => ?_) AllReadyH.nil)
      obtain ⟨w3, hcp, hf3⟩ := HCP.out _ rfl
      have F3 := Lib.hid hf3
      have HC3 := Lib.hid hcp
      clear hcp hf3 HCP
      refine step_copyR (by rfl) (.tmp 41) (.tmp 44) 191 191 rfl _ _ rfl rfl HC3.out ?_
      refine hK.out _ _ trivial (fun hh => ?_)
      have HH' := Lib.hid hh
      clear hh hK K HH FF HC3
      have HH := Lib.hid HH'.out
      clear HH'
      refine wpAnyH_take (i := 8) (v := ?vR8) rfl (by kernel_rfl) (by kernel_rfl) (by kernel_rfl) (fun _ _ _ h => h) (Or.inl ⟨by rfl, fun w' _ => ?yR8⟩) HH.out ?_
      case yR8 => (go_simp; try with_reducible rfl)
      refine wpAnyH_take (i := 9) (v := ?vR9) rfl (by kernel_rfl) (by kernel_rfl) (by kernel_rfl) (fun _ _ _ h => h) (Or.inl ⟨by rfl, fun w' _ => ?yR9⟩) HH.out ?_
      case yR9 => (go_simp; try with_reducible rfl)
      try simp only [List.getElem_toArray, List.getElem_cons_succ, List.getElem_cons_zero, Act.put, List.setIfInBounds_toArray, List.set_cons_zero, List.set_cons_succ]
      refine wpAnyH_done (by kernel_rfl) ?_ _
      go_wp2_with fail
      go_roundw
      case rel => exact ⟨n + k, by go_num, F3.out, fun h => by have := HK0.out; omega⟩
      case measure => (have := HLT.out; have := HK0.out; simp [intOf]; omega)
    · obtain rfl : n = N := by have := FF.out.le; omega
      clear hlt
      go_wp2_with fail
      go_ret
      exact ⟨g, rfl, FF.out.row HGE.out (by have := HN.out; unfold maxLen; omega), FF.out.bel⟩
end Go.Proofs.Ytnplhagfmfggcaa.Mi
/-
  The contract of mirror.New.
-/
namespace Go.Proofs.Ytnplhagfmfggcaa.Mi
open Go.RowKit Kd
attribute [local go_sem ↓] Go.wp_at_zero Go.wp_at_succ
section
variable {C : Duo} {G : Gd} {g : Nat} {w w1 w' : World} {s : Mr C} {A B : Option Addr} {n c m e : Nat} {F1 F : Nat → Prop}
def Mr.row (s : Mr C) (i : Nat) (l : List Bool) : Mr C := if i = 0 then ⟨s.d, l, s.b⟩ else ⟨s.d, s.a, l⟩
/-- A new row of what is stale. -/
theorem ml_setrow (hR : ∀ A n c B m e, G.R A n c B m e) (h : (ML C G g).At w s F) (hb : Below w.heap.size w w1) {q k i : Nat} {l : List Bool} (ho : w1.ownsRow w.heap.size 4 1 (.slice (some ⟨q, 0, none⟩) k k) k (bs l)) (hl : l.length = k) (hi : i < 2) :
    Mv (ML C G g) w F (w1.setCell ⟨g, 2 + i, none⟩ (.slice (some ⟨q, 0, none⟩) k k)) (s.row i l) (fun x => F x ∨ x = q) := by
  obtain ⟨A, n, c, B, m, e, F1, h, h1, h2⟩ := h
  have hlt := h.lt
  have hq := (ho.lt q rfl)
  have h0 : MrR C G g w1 s A n c B m e F1 := h.but (T := fun _ => False) (but_below hb) (fun _ _ h => h)
  have hT : But (fun x => x = g) w1 (w1.setCell ⟨g, 2 + i, none⟩ (.slice (some ⟨q, 0, none⟩) k k)) := but_one _
  have hgw : g < w.heap.size := h.blk.lt
  have ho0 : w1.ownsRow 0 4 1 (.slice (some ⟨q, 0, none⟩) k k) k (bs l) := ⟨ho.1, by
    rcases ho.2 with h3 | ⟨g', cap, cur, h3, _, h4⟩
    · exact .inl h3
    · exact .inr ⟨g', cap, cur, h3, Nat.zero_le _, h4⟩⟩
  have hfin : ∀ x, (F x ∨ x = q) → x < (w1.setCell ⟨g, 2 + i, none⟩ (.slice (some ⟨q, 0, none⟩) k k)).heap.size := by
    rintro x (hx | rfl)
    · exact Nat.lt_of_lt_of_le (h2 x hx) (Nat.le_trans hb.size hT.size)
    · exact Nat.lt_of_lt_of_le hq.2 hT.size
  have hnew : ∀ x, (F x ∨ x = q) → F x ∨ w.heap.size ≤ x := by
    rintro x (hx | rfl)
    · exact .inl hx
    · exact .inr hq.1
  have hbt : But F w (w1.setCell ⟨g, 2 + i, none⟩ (.slice (some ⟨q, 0, none⟩) k k)) := (but_below hb).trans (hT.mono (fun x hx => h1 x (.inl hx)))
  have hoT := Own.but ho0 hT (fun x hx hx' => by injection hx with hx; replace hx : q = x := hx; omega)
  have hdT := C.L.but h0.d hT (fun x hx hx' => h.ag (hx' ▸ hx))
  have hgb : ∀ x ∈ G.l, Blk (w1.setCell ⟨g, 2 + i, none⟩ (.slice (some ⟨q, 0, none⟩) k k)) x.1 x.2.1 x.2.2 ∧ ¬ F1 x.1 := fun x hx => ⟨(h0.gb x hx).1.but hT (fun hx' => h0.box_ne hx h0.blk (.inr rfl) hx'), (h0.gb x hx).2⟩
  rcases two hi with rfl | rfl
  · refine ⟨⟨some ⟨q, 0, none⟩, k, k, B, m, e, F1, ⟨blk_setN8 h0.blk 2 _, hoT, Own.but h0.b hT (fun x hx hx' => h.rows.2 x hx hx'), hl, h.bn, hdT, h.ag, ?_, h.ab, ?_, hR _ _ _ _ _ _, hgb⟩, ?_, hfin⟩, hnew, hbt⟩
    · intro x hx hf
      injection hx with hx; replace hx : q = x := hx
      have := C.L.lt h.d x hf; omega
    · intro x hx hx'
      injection hx with hx; replace hx : q = x := hx
      have := hlt x (.inr (.inr (.inl hx'))); omega
    · rintro x (hx | hx | hx | hx)
      · exact .inl (h1 x (.inl hx))
      · injection hx with hx; exact .inr hx.symm
      · exact .inl (h1 x (.inr (.inr (.inl hx))))
      · exact .inl (h1 x (.inr (.inr (.inr hx))))
  · refine ⟨⟨A, n, c, some ⟨q, 0, none⟩, k, k, F1, ⟨blk_setN8 h0.blk 3 _, Own.but h0.a hT (fun x hx hx' => h.rows.1 x hx hx'), hoT, h.an, hl, hdT, h.ag, h.aa, ?_, ?_, hR _ _ _ _ _ _, hgb⟩, ?_, hfin⟩, hnew, hbt⟩
    · intro x hx hf
      injection hx with hx; replace hx : q = x := hx
      have := C.L.lt h.d x hf; omega
    · intro x hx hx'
      injection hx' with hx'; replace hx' : q = x := hx'
      have := hlt x (.inr (.inl hx)); omega
    · rintro x (hx | hx | hx | hx)
      · exact .inl (h1 x (.inl hx))
      · exact .inl (h1 x (.inr (.inl hx)))
      · injection hx with hx; exact .inr hx.symm
      · exact .inl (h1 x (.inr (.inr (.inr hx))))
/-- How many places a mirror has; a new one. -/
def Duo.places (C : Duo) (d : C.L.St) : Nat := min (C.len d 0) (C.len d 1)
def newM (C : Duo) (d : C.L.St) : Mr C := ⟨d, List.replicate (C.places d) (!(C.there d 0)), List.replicate (C.places d) (!(C.there d 1))⟩
theorem ml_new (hR : ∀ A n c B m e, G.R A n c B m e) {d : C.L.St} (h : C.L.At w d F1) (hG : ∀ x ∈ G.l, Blk w x.1 x.2.1 x.2.2 ∧ ¬ F1 x.1) (hw1 : w1 = w.alloc (.cells (mrC C G none 0 0 none 0 0) 194)) : (ML C G w.heap.size).At w1 ⟨d, [], []⟩ (fun x => (F1 x ∨ ∃ y ∈ G.l, x = y.1) ∨ x = w.heap.size) := by
  have hb : Below w.heap.size w w1 := by rw [hw1]; exact (Below.refl _ _).alloc (Nat.le_refl _) _
  refine ⟨none, 0, 0, none, 0, 0, F1, ⟨by rw [hw1]; exact heap_alloc_new _ _, ⟨rfl, .inl ⟨rfl, rfl⟩⟩, ⟨rfl, .inl ⟨rfl, rfl⟩⟩, rfl, rfl, C.L.below h hb, fun hf => by have := C.L.lt h _ hf; omega, fun q hq => (by cases hq), fun q hq => (by cases hq), fun q hq => (by cases hq), hR _ _ _ _ _ _, fun x hx => ⟨(hG x hx).1.below hb, (hG x hx).2⟩⟩, ?_, ?_⟩
  · rintro x (hx | hx | hx | hx | hx)
    · exact .inr hx
    · cases hx
    · cases hx
    · exact .inl (.inl hx)
    · exact .inl (.inr hx)
  · rintro x ((hx | ⟨y, hy, rfl⟩) | rfl)
    · exact Nat.lt_of_lt_of_le (C.L.lt h x hx) hb.size
    · exact Nat.lt_of_lt_of_le (hG y hy).1.lt hb.size
    · rw [hw1]; simp
theorem ml_len (h : (ML C G g).At w s F) {i : Nat} (hi : i < 2) : Calls Try.prog 20 #[.pointer (C.ptr i)] w (RetB (.int .i64 (C.len s.d i : Int)) w) := by
  obtain ⟨F1, hd, _⟩ := ml_dev h
  exact C.clen hd hi
theorem ml_lenle (h : (ML C G g).At w s F) {i : Nat} (hi : i < 2) : C.len s.d i ≤ 4096 := by
  obtain ⟨F1, hd, _⟩ := ml_dev h
  exact C.len_le hd hi
theorem ml_rowcell (h : (ML C G g).At w s F) {i : Nat} (hi : i < 2) : (∃ v, w.cell? ⟨g, 2 + i, none⟩ = some v) ∧ w.frozen? ⟨g, 2 + i, none⟩ = false ∧ g < w.heap.size := by
  obtain ⟨A, n, c, B, m, e, F1, h, _⟩ := h
  rcases two hi with rfl | rfl
  · exact ⟨⟨_, h.blk.cell 2⟩, h.blk.free 2, h.blk.lt⟩
  · exact ⟨⟨_, h.blk.cell 3⟩, h.blk.free 3, h.blk.lt⟩
theorem own_moreN {w : World} {base base' n size : Nat} {e : TypeId} {v : Value} {xs : List Value} (h : w.ownsRow base e size v n xs) (hb : base' ≤ base) : w.ownsRow base' e size v n xs :=
  ⟨h.1, h.2.imp id (fun ⟨g, cap, cur, h1, h2, h3⟩ => ⟨g, cap, cur, h1, Nat.le_trans hb h2, h3⟩)⟩
theorem gd_cell (G : Gd) : G.v.oneCell' = true := by unfold Gd.v; split <;> rfl
theorem gd_form (G : Gd) : G.v = .nilFunc ∨ ∃ k c, G.v = .func (.func k) #[] c := by
  unfold Gd.v; split
  · exact .inl rfl
  · exact .inr ⟨_, _, rfl⟩
theorem build_mir (p q : Option Addr) (gv : Value) (hg : gv = .nilFunc ∨ ∃ k c, gv = .func (.func k) #[] c) (W : World) : (Instr.build 194 #[(0, .agg #[.pointer p, .pointer q]), (2, gv)]).run Try.prog W = .ok (.agg #[.pointer p, .pointer q, .slice none 0 0, .slice none 0 0, gv]) W := by
  rcases hg with rfl | ⟨k, c, rfl⟩ <;> kernel_rfl
theorem build_two (p q : Option Addr) (W : World) : (Instr.build 190 #[(0, .pointer p), (1, .pointer q)]).run Try.prog W = .ok (.agg #[.pointer p, .pointer q]) W := by kernel_rfl
set_option maxRecDepth 100000 in
set_option maxHeartbeats 12800000 in
theorem new_anyG (hR : ∀ A n c B m e, G.R A n c B m e) {d : C.L.St} (h : C.L.At w d F1) (hG : ∀ x ∈ G.l, Blk w x.1 x.2.1 x.2.2 ∧ ¬ F1 x.1) {FF : Nat → Prop} (hFF : FF = fun x => F1 x ∨ ∃ y ∈ G.l, x = y.1) :
    Calls Try.prog 74 #[.pointer (C.ptr 0), .pointer (C.ptr 1), G.v] w (fun e w' => ∃ g F', e = .returned (.pointer (some ⟨g, 0, none⟩)) ∧ (ML C G g).At w' (newM C d) F' ∧ (∀ q, F' q → FF q ∨ w.heap.size ≤ q) ∧ But FF w w') := by
  obtain ⟨w1, hw1⟩ : ∃ w1, w1 = w.alloc (.cells (mrC C G none 0 0 none 0 0) 194) := ⟨_, rfl⟩
  have H := Lib.hid h
  have HA := Lib.hid (show (ML C G w.heap.size).At w1 ⟨d, [], []⟩ (fun x => FF x ∨ x = w.heap.size) from by rw [hFF]; exact ml_new hR h hG hw1)
  have HR := Lib.hid hR
  obtain ⟨p, hp⟩ : ∃ p, p = C.ptr 0 := ⟨_, rfl⟩
  obtain ⟨q, hq⟩ : ∃ q, q = C.ptr 1 := ⟨_, rfl⟩
  have hgf := gd_form G
  obtain ⟨gv, hgv⟩ : ∃ gv, gv = G.v := ⟨_, rfl⟩
  have HL0 := Lib.hid (show ∀ W s' F', (ML C G w.heap.size).At W s' F' → s'.d = d → Calls Try.prog 20 #[.pointer p] W (RetB (.int .i64 (C.len d 0 : Int)) W) from fun W s' F' h hd => by rw [hp, ← hd]; exact ml_len h (by omega))
  have HL1 := Lib.hid (show ∀ W s' F', (ML C G w.heap.size).At W s' F' → s'.d = d → Calls Try.prog 20 #[.pointer q] W (RetB (.int .i64 (C.len d 1 : Int)) W) from fun W s' F' h hd => by rw [hq, ← hd]; exact ml_len h (by omega))
  have HLE := Lib.hid (show C.places d ≤ 4096 from Nat.le_trans (Nat.min_le_left _ _) (C.len_le h (i := 0) (by omega)))
  have HBM := Lib.hid (build_mir p q gv (by rw [hgv]; exact hgf))
  have HB2 := Lib.hid (build_two p q)
  have HMC : mrC C G none 0 0 none 0 0 = #[.pointer p, .pointer q, .slice none 0 0, .slice none 0 0, gv] := by rw [mrC, hp, hq, hgv]
  rw [HMC] at hw1
  rw [← hp, ← hq, ← hgv]
  have BW1 := Lib.hid (show Below w.heap.size w w1 from by rw [hw1]; exact (Below.refl _ _).alloc (Nat.le_refl _) _)
  obtain ⟨g, hg⟩ : ∃ g, g = w.heap.size := ⟨_, rfl⟩
  rw [← hg] at HA HL0 HL1
  have HG := Lib.hid hg
  obtain ⟨x, hx⟩ : ∃ x, x = C.there d 0 := ⟨_, rfl⟩
  obtain ⟨y, hy⟩ : ∃ y, y = C.there d 1 := ⟨_, rfl⟩
  obtain ⟨k, hk⟩ : ∃ k, k = C.places d := ⟨_, rfl⟩
  have HN := Lib.hid (show newM C d = ⟨d, List.replicate k (!x), List.replicate k (!y)⟩ by rw [newM, hx, hy, hk])
  obtain ⟨la, hla⟩ : ∃ la, la = C.len d 0 := ⟨_, rfl⟩
  obtain ⟨lb, hlb⟩ : ∃ lb, lb = C.len d 1 := ⟨_, rfl⟩
  rw [← hla] at HL0
  rw [← hlb] at HL1
  have HKM := Lib.hid (show (if lb < la then (lb : Int) else (la : Int)) = (k : Int) by rw [hk, Duo.places, ← hla, ← hlb]; split <;> omega)
  rw [← hk] at HLE
  have HET := Lib.hid (each_there HA.out)
  rw [show (Mr.d (⟨d, [], []⟩ : Mr C)) = d from rfl, ← hx, ← hy] at HET
  rw [HN.out]
  clear hp hq hgf hgv HMC h hG hFF hR hx hy hk hla hlb HN
  go_enter Try.func74, Try.ntmps74
  go_wp2_with (first
    | (refine wpList_build rfl 190 #[(0, .tmp 10), (1, .tmp 11)] rfl (v := .agg #[.pointer p, .pointer q]) ?hbld ?_; case hbld => (simp only [List.map_toArray, List.map_cons, List.map_nil]; exact HB2.out _))
    | (refine wpList_build rfl 194 #[(0, .tmp 12), (2, .tmp 13)] rfl (v := .agg #[.pointer p, .pointer q, .slice none 0 0, .slice none 0 0, gv]) ?hbld ?_; case hbld => (simp only [List.map_toArray, List.map_cons, List.map_nil]; exact HBM.out _)))
  rw [← hw1, ← hg]
  clear hw1 hg
  refine HET.out.mono ?_
  rintro e w2 ⟨rfl, F2, hm2⟩
  have M2 := Lib.hid hm2
  clear hm2 HET HB2 HBM
  go_wp2_with fail
  go_loopw [19] (fun i wr => ∃ (j : Nat) (F' : Nat → Prop) (s' : Mr C), i = .int .i64 j ∧ Mv (ML C G g) w1 (fun x => FF x ∨ x = g) wr s' F' ∧ s'.d = d ∧ ((j = 0 ∧ s' = ⟨d, [], []⟩) ∨ (j = 1 ∧ s' = ⟨d, List.replicate k (!x), []⟩) ∨ (j = 2 ∧ s' = ⟨d, List.replicate k (!x), List.replicate k (!y)⟩))) (fun i _ => 2 - (intOf i).toNat)
  case atStart => exact ⟨0, F2, _, rfl, M2.out, rfl, .inl ⟨rfl, rfl⟩⟩
  case round =>
    clear M2
    obtain ⟨j, F', s', rfl, hm, hsd, hj⟩ := hrel
    have M := Lib.hid hm
    have HSD := Lib.hid hsd
    clear hm hsd
    rcases hj with ⟨rfl, hs⟩ | ⟨rfl, hs⟩ | ⟨rfl, hs⟩
    · skip
      have HS := Lib.hid hs
      clear hs
      go_wp2_with (refine wpList_execg8 (o := { dst := some 22, op := .index 185 (.tmp 18) (.tmp 19), type := _, pos := _, after := _, guard := _ }) (v := .bool x) (w' := wr) rfl ?hix ?_; case hix => kernel_rfl)
      refine wp_region_held_drew (S := fun _ => True) (by kernel_rfl) trivial (fun hh => ?_)
      have HH := Lib.hid hh
      clear hh
      refine wpAnyH_take (i := 0) (v := ?vN00) rfl (by kernel_rfl) (by kernel_rfl) (by kernel_rfl) (fun _ _ _ h => h) (Or.inl ⟨by rfl, fun w' _ => ?yN00⟩) HH.out ?_
      case yN00 => (go_simp; try with_reducible rfl)
      refine wpAnyH_take (i := 1) (v := ?vN01) rfl (by kernel_rfl) (by kernel_rfl) (by kernel_rfl) (fun _ _ _ h => h) (Or.inl ⟨by rfl, fun w' _ => ?yN01⟩) HH.out ?_
      case yN01 => (go_simp; try with_reducible rfl)
      try simp only [List.getElem_toArray, List.getElem_cons_succ, List.getElem_cons_zero, Act.put, List.setIfInBounds_toArray, List.set_cons_zero, List.set_cons_succ]
      refine wpAnyH_take (i := 2) (v := ?vN02) rfl (by kernel_rfl) (by kernel_rfl) (by kernel_rfl) (fun _ _ _ h => h) (Or.inl ⟨by rfl, fun w' _ => ?yN02⟩) HH.out ?_
      case yN02 => (go_simp; try with_reducible rfl)
      refine wpAnyH_take (i := 3) (v := ?vN03) rfl (by kernel_rfl) (by kernel_rfl) (by kernel_rfl) (fun _ _ _ h => h) (Or.inl ⟨by rfl, fun w' _ => ?yN03⟩) HH.out ?_
      case yN03 => (go_simp; try with_reducible rfl)
      refine wpAnyH_take (i := 5) (v := ?vN05) rfl (by kernel_rfl) (by kernel_rfl) (by kernel_rfl) (fun _ _ _ h => h) (Or.inl ⟨by rfl, fun w' _ => ?yN05⟩) HH.out ?_
      case yN05 => (go_simp; try with_reducible rfl)
      try simp only [List.getElem_toArray, List.getElem_cons_succ, List.getElem_cons_zero, Act.put, List.setIfInBounds_toArray, List.set_cons_zero, List.set_cons_succ]
      refine wpAnyH_take (i := 7) (v := ?vN07) rfl (by kernel_rfl) (by kernel_rfl) (by kernel_rfl) (fun _ _ _ h => h) (Or.inl ⟨by rfl, fun w' _ => ?yN07⟩) HH.out ?_
      case yN07 => (go_simp; try with_reducible rfl)
      refine wpAnyH_take (i := 11) (v := ?vN011) rfl (by kernel_rfl) (by kernel_rfl) (by kernel_rfl) (fun _ _ _ h => h) (Or.inl ⟨by rfl, fun w' _ => ?yN011⟩) HH.out ?_
      case yN011 => (go_simp; try with_reducible rfl)
      refine wpAnyH_take (i := 12) (v := ?vN012) rfl (by kernel_rfl) (by kernel_rfl) (by kernel_rfl) (fun _ _ _ h => h) (Or.inl ⟨by rfl, fun w' _ => ?yN012⟩) HH.out ?_
      case yN012 => (go_simp; try with_reducible rfl)
      try simp only [List.getElem_toArray, List.getElem_cons_succ, List.getElem_cons_zero, Act.put, List.setIfInBounds_toArray, List.set_cons_zero, List.set_cons_succ]
      refine wpAnyH_ready (rs := [4, 6]) (by kernel_rfl) (by simp) (AllReadyH.cons rfl (fun K hK => ?_) (AllReadyH.cons rfl (fun K hK => ?_) AllReadyH.nil))
      · skip
        go_simp
        refine hK.out _ _ trivial (fun hh => ?_)
        have HH' := Lib.hid hh
        clear hh hK K HH
        have HH := Lib.hid HH'.out
        clear HH'
        have B1 := Lib.hid (show Below wr.heap.size wr (World.alloc wr.drew (.cells #[.bool (!x)] 4)) from ((Below.refl wr.heap.size wr).drew).alloc ((Below.refl wr.heap.size wr).drew).size _)
        have X1 := Lib.hid (show Blk (World.alloc wr.drew (.cells #[.bool (!x)] 4)) wr.drew.heap.size #[.bool (!x)] 4 from heap_alloc_new _ _)
        try simp only [List.getElem_toArray, List.getElem_cons_succ, List.getElem_cons_zero, Act.put, List.setIfInBounds_toArray, List.set_cons_zero, List.set_cons_succ]
        refine wpAnyH_ready (rs := [6]) (by kernel_rfl) (by simp) (AllReadyH.cons rfl (fun K hK => ?_) AllReadyH.nil)
        go_simp
        refine (HL0.out _ _ _ ((ML C G g).below M.out.at_ (B1.out)) HSD.out).mono ?_
        rintro e v2 ⟨rfl, bw⟩
        have B2 := Lib.hid ((B1.out).trans (bw.mono (B1.out).size))
        have X2 := Lib.hid (Blk.below (X1.out) bw)
        clear bw
        go_simp
        refine hK.out _ _ trivial (fun hh => ?_)
        have HH' := Lib.hid hh
        clear hh hK K HH
        have HH := Lib.hid HH'.out
        clear HH'
        try simp only [List.getElem_toArray, List.getElem_cons_succ, List.getElem_cons_zero, Act.put, List.setIfInBounds_toArray, List.set_cons_zero, List.set_cons_succ]
        refine wpAnyH_ready (rs := [8]) (by kernel_rfl) (by simp) (AllReadyH.cons rfl (fun K hK => ?_) AllReadyH.nil)
        go_simp
        refine (HL1.out _ _ _ ((ML C G g).below M.out.at_ (B2.out)) HSD.out).mono ?_
        rintro e v3 ⟨rfl, bw⟩
        have B3 := Lib.hid ((B2.out).trans (bw.mono (B2.out).size))
        have X3 := Lib.hid (Blk.below (X2.out) bw)
        clear bw
        go_simp
        refine hK.out _ _ trivial (fun hh => ?_)
        have HH' := Lib.hid hh
        clear hh hK K HH
        have HH := Lib.hid HH'.out
        clear HH'
        try simp only [List.getElem_toArray, List.getElem_cons_succ, List.getElem_cons_zero, Act.put, List.setIfInBounds_toArray, List.set_cons_zero, List.set_cons_succ]
        refine wpAnyH_take (i := 9) (v := .int .i64 (k : Int)) rfl (by kernel_rfl) (by kernel_rfl) (by kernel_rfl) (fun _ _ _ h => h) (Or.inl ⟨by rfl, fun w' hw' => ?ym39⟩) HH.out ?_
        case ym39 => (go_simp; exact HKM.out)
        try simp only [List.getElem_toArray, List.getElem_cons_succ, List.getElem_cons_zero, Act.put, List.setIfInBounds_toArray, List.set_cons_zero, List.set_cons_succ]
        refine wpAnyH_ready (rs := [10]) (by kernel_rfl) (by simp) (AllReadyH.cons rfl (fun K hK => ?_) AllReadyH.nil)
        go_simp
        refine (repeat_any (a := ⟨wr.drew.heap.size, 0, none⟩) ((X3.out).cell 0) k HLE.out).mono ?_
        rintro e v9 ⟨q9, rfl, ho9, bw9⟩
        have HS9 := Lib.hid (ml_setrow HR.out M.out.at_ ((B3.out).trans (bw9.mono (B3.out).size)) (own_moreN ho9 (B3.out).size) (List.length_replicate ..) (i := 0) (by omega))
        obtain ⟨⟨u9, c9⟩, f9, _⟩ := ml_rowcell ((ML C G g).below M.out.at_ ((B3.out).trans (bw9.mono (B3.out).size))) (i := 0) (by omega)
        have c9' : v9.cell? ⟨g, 2, none⟩ = some u9 := c9
        have f9' : v9.frozen? ⟨g, 2, none⟩ = false := f9
        clear bw9 ho9 c9 f9
        go_simp
        refine hK.out _ _ trivial (fun hh => ?_)
        have HH' := Lib.hid hh
        clear hh hK K HH
        have HH := Lib.hid HH'.out
        clear HH'
        try simp only [List.getElem_toArray, List.getElem_cons_succ, List.getElem_cons_zero, Act.put, List.setIfInBounds_toArray, List.set_cons_zero, List.set_cons_succ]
        refine wpAnyH_take (i := 13) (v := ?vz313) rfl (by kernel_rfl) (by kernel_rfl) (by kernel_rfl) (fun _ _ _ h => h) (Or.inl ⟨by rfl, fun w' _ => ?yz313⟩) HH.out ?_
        case yz313 => (go_simp; try with_reducible rfl)
        try simp only [List.getElem_toArray, List.getElem_cons_succ, List.getElem_cons_zero, Act.put, List.setIfInBounds_toArray, List.set_cons_zero, List.set_cons_succ]
        refine wpAnyH_ready (rs := [14]) (by kernel_rfl) (by simp) (AllReadyH.cons rfl (fun K hK => ?_) AllReadyH.nil)
        go_simp
        refine hK.out _ _ trivial (fun hh => ?_)
        have HH' := Lib.hid hh
        clear hh hK K HH
        have HH := Lib.hid HH'.out
        clear HH'
        refine wpAnyH_done (by kernel_rfl) ?_ _
        go_wp2_with fail
        go_roundw
        case rel => exact ⟨1, _, _, rfl, M.out.trans HS9.out, HSD.out, .inr (.inl ⟨rfl, by rw [HS.out]; rfl⟩)⟩
        case measure => simp [intOf]
      · skip
        go_simp
        refine (HL0.out _ _ _ ((ML C G g).below M.out.at_ ((Below.refl wr.heap.size wr).drew)) HSD.out).mono ?_
        rintro e v4 ⟨rfl, bw⟩
        have B4 := Lib.hid (((Below.refl wr.heap.size wr).drew).trans (bw.mono ((Below.refl wr.heap.size wr).drew).size))
        clear bw
        go_simp
        refine hK.out _ _ trivial (fun hh => ?_)
        have HH' := Lib.hid hh
        clear hh hK K HH
        have HH := Lib.hid HH'.out
        clear HH'
        try simp only [List.getElem_toArray, List.getElem_cons_succ, List.getElem_cons_zero, Act.put, List.setIfInBounds_toArray, List.set_cons_zero, List.set_cons_succ]
        refine wpAnyH_ready (rs := [4, 8]) (by kernel_rfl) (by simp) (AllReadyH.cons rfl (fun K hK => ?_) (AllReadyH.cons rfl (fun K hK => ?_) AllReadyH.nil))
        · skip
          go_simp
          refine hK.out _ _ trivial (fun hh => ?_)
          have HH' := Lib.hid hh
          clear hh hK K HH
          have HH := Lib.hid HH'.out
          clear HH'
          have B5 := Lib.hid (show Below wr.heap.size wr (World.alloc v4 (.cells #[.bool (!x)] 4)) from (B4.out).alloc (B4.out).size _)
          have X5 := Lib.hid (show Blk (World.alloc v4 (.cells #[.bool (!x)] 4)) v4.heap.size #[.bool (!x)] 4 from heap_alloc_new _ _)
          try simp only [List.getElem_toArray, List.getElem_cons_succ, List.getElem_cons_zero, Act.put, List.setIfInBounds_toArray, List.set_cons_zero, List.set_cons_succ]
          refine wpAnyH_ready (rs := [8]) (by kernel_rfl) (by simp) (AllReadyH.cons rfl (fun K hK => ?_) AllReadyH.nil)
          go_simp
          refine (HL1.out _ _ _ ((ML C G g).below M.out.at_ (B5.out)) HSD.out).mono ?_
          rintro e v6 ⟨rfl, bw⟩
          have B6 := Lib.hid ((B5.out).trans (bw.mono (B5.out).size))
          have X6 := Lib.hid (Blk.below (X5.out) bw)
          clear bw
          go_simp
          refine hK.out _ _ trivial (fun hh => ?_)
          have HH' := Lib.hid hh
          clear hh hK K HH
          have HH := Lib.hid HH'.out
          clear HH'
          try simp only [List.getElem_toArray, List.getElem_cons_succ, List.getElem_cons_zero, Act.put, List.setIfInBounds_toArray, List.set_cons_zero, List.set_cons_succ]
          refine wpAnyH_take (i := 9) (v := .int .i64 (k : Int)) rfl (by kernel_rfl) (by kernel_rfl) (by kernel_rfl) (fun _ _ _ h => h) (Or.inl ⟨by rfl, fun w' hw' => ?ym69⟩) HH.out ?_
          case ym69 => (go_simp; exact HKM.out)
          try simp only [List.getElem_toArray, List.getElem_cons_succ, List.getElem_cons_zero, Act.put, List.setIfInBounds_toArray, List.set_cons_zero, List.set_cons_succ]
          refine wpAnyH_ready (rs := [10]) (by kernel_rfl) (by simp) (AllReadyH.cons rfl (fun K hK => ?_) AllReadyH.nil)
          go_simp
          refine (repeat_any (a := ⟨v4.heap.size, 0, none⟩) ((X6.out).cell 0) k HLE.out).mono ?_
          rintro e v9 ⟨q9, rfl, ho9, bw9⟩
          have HS9 := Lib.hid (ml_setrow HR.out M.out.at_ ((B6.out).trans (bw9.mono (B6.out).size)) (own_moreN ho9 (B6.out).size) (List.length_replicate ..) (i := 0) (by omega))
          obtain ⟨⟨u9, c9⟩, f9, _⟩ := ml_rowcell ((ML C G g).below M.out.at_ ((B6.out).trans (bw9.mono (B6.out).size))) (i := 0) (by omega)
          have c9' : v9.cell? ⟨g, 2, none⟩ = some u9 := c9
          have f9' : v9.frozen? ⟨g, 2, none⟩ = false := f9
          clear bw9 ho9 c9 f9
          go_simp
          refine hK.out _ _ trivial (fun hh => ?_)
          have HH' := Lib.hid hh
          clear hh hK K HH
          have HH := Lib.hid HH'.out
          clear HH'
          try simp only [List.getElem_toArray, List.getElem_cons_succ, List.getElem_cons_zero, Act.put, List.setIfInBounds_toArray, List.set_cons_zero, List.set_cons_succ]
          refine wpAnyH_take (i := 13) (v := ?vz613) rfl (by kernel_rfl) (by kernel_rfl) (by kernel_rfl) (fun _ _ _ h => h) (Or.inl ⟨by rfl, fun w' _ => ?yz613⟩) HH.out ?_
          case yz613 => (go_simp; try with_reducible rfl)
          try simp only [List.getElem_toArray, List.getElem_cons_succ, List.getElem_cons_zero, Act.put, List.setIfInBounds_toArray, List.set_cons_zero, List.set_cons_succ]
          refine wpAnyH_ready (rs := [14]) (by kernel_rfl) (by simp) (AllReadyH.cons rfl (fun K hK => ?_) AllReadyH.nil)
          go_simp
          refine hK.out _ _ trivial (fun hh => ?_)
          have HH' := Lib.hid hh
          clear hh hK K HH
          have HH := Lib.hid HH'.out
          clear HH'
          refine wpAnyH_done (by kernel_rfl) ?_ _
          go_wp2_with fail
          go_roundw
          case rel => exact ⟨1, _, _, rfl, M.out.trans HS9.out, HSD.out, .inr (.inl ⟨rfl, by rw [HS.out]; rfl⟩)⟩
          case measure => simp [intOf]
        · skip
          go_simp
          refine (HL1.out _ _ _ ((ML C G g).below M.out.at_ (B4.out)) HSD.out).mono ?_
          rintro e v7 ⟨rfl, bw⟩
          have B7 := Lib.hid ((B4.out).trans (bw.mono (B4.out).size))
          clear bw
          go_simp
          refine hK.out _ _ trivial (fun hh => ?_)
          have HH' := Lib.hid hh
          clear hh hK K HH
          have HH := Lib.hid HH'.out
          clear HH'
          try simp only [List.getElem_toArray, List.getElem_cons_succ, List.getElem_cons_zero, Act.put, List.setIfInBounds_toArray, List.set_cons_zero, List.set_cons_succ]
          refine wpAnyH_take (i := 9) (v := .int .i64 (k : Int)) rfl (by kernel_rfl) (by kernel_rfl) (by kernel_rfl) (fun _ _ _ h => h) (Or.inl ⟨by rfl, fun w' hw' => ?ym79⟩) HH.out ?_
          case ym79 => (go_simp; exact HKM.out)
          try simp only [List.getElem_toArray, List.getElem_cons_succ, List.getElem_cons_zero, Act.put, List.setIfInBounds_toArray, List.set_cons_zero, List.set_cons_succ]
          refine wpAnyH_ready (rs := [4]) (by kernel_rfl) (by simp) (AllReadyH.cons rfl (fun K hK => ?_) AllReadyH.nil)
          go_simp
          refine hK.out _ _ trivial (fun hh => ?_)
          have HH' := Lib.hid hh
          clear hh hK K HH
          have HH := Lib.hid HH'.out
          clear HH'
          have B8 := Lib.hid (show Below wr.heap.size wr (World.alloc v7 (.cells #[.bool (!x)] 4)) from (B7.out).alloc (B7.out).size _)
          have X8 := Lib.hid (show Blk (World.alloc v7 (.cells #[.bool (!x)] 4)) v7.heap.size #[.bool (!x)] 4 from heap_alloc_new _ _)
          try simp only [List.getElem_toArray, List.getElem_cons_succ, List.getElem_cons_zero, Act.put, List.setIfInBounds_toArray, List.set_cons_zero, List.set_cons_succ]
          refine wpAnyH_ready (rs := [10]) (by kernel_rfl) (by simp) (AllReadyH.cons rfl (fun K hK => ?_) AllReadyH.nil)
          go_simp
          refine (repeat_any (a := ⟨v7.heap.size, 0, none⟩) ((X8.out).cell 0) k HLE.out).mono ?_
          rintro e v9 ⟨q9, rfl, ho9, bw9⟩
          have HS9 := Lib.hid (ml_setrow HR.out M.out.at_ ((B8.out).trans (bw9.mono (B8.out).size)) (own_moreN ho9 (B8.out).size) (List.length_replicate ..) (i := 0) (by omega))
          obtain ⟨⟨u9, c9⟩, f9, _⟩ := ml_rowcell ((ML C G g).below M.out.at_ ((B8.out).trans (bw9.mono (B8.out).size))) (i := 0) (by omega)
          have c9' : v9.cell? ⟨g, 2, none⟩ = some u9 := c9
          have f9' : v9.frozen? ⟨g, 2, none⟩ = false := f9
          clear bw9 ho9 c9 f9
          go_simp
          refine hK.out _ _ trivial (fun hh => ?_)
          have HH' := Lib.hid hh
          clear hh hK K HH
          have HH := Lib.hid HH'.out
          clear HH'
          try simp only [List.getElem_toArray, List.getElem_cons_succ, List.getElem_cons_zero, Act.put, List.setIfInBounds_toArray, List.set_cons_zero, List.set_cons_succ]
          refine wpAnyH_take (i := 13) (v := ?vz813) rfl (by kernel_rfl) (by kernel_rfl) (by kernel_rfl) (fun _ _ _ h => h) (Or.inl ⟨by rfl, fun w' _ => ?yz813⟩) HH.out ?_
          case yz813 => (go_simp; try with_reducible rfl)
          try simp only [List.getElem_toArray, List.getElem_cons_succ, List.getElem_cons_zero, Act.put, List.setIfInBounds_toArray, List.set_cons_zero, List.set_cons_succ]
          refine wpAnyH_ready (rs := [14]) (by kernel_rfl) (by simp) (AllReadyH.cons rfl (fun K hK => ?_) AllReadyH.nil)
          go_simp
          refine hK.out _ _ trivial (fun hh => ?_)
          have HH' := Lib.hid hh
          clear hh hK K HH
          have HH := Lib.hid HH'.out
          clear HH'
          refine wpAnyH_done (by kernel_rfl) ?_ _
          go_wp2_with fail
          go_roundw
          case rel => exact ⟨1, _, _, rfl, M.out.trans HS9.out, HSD.out, .inr (.inl ⟨rfl, by rw [HS.out]; rfl⟩)⟩
          case measure => simp [intOf]
    · skip
      have HS := Lib.hid hs
      clear hs
      go_wp2_with (refine wpList_execg8 (o := { dst := some 22, op := .index 185 (.tmp 18) (.tmp 19), type := _, pos := _, after := _, guard := _ }) (v := .bool y) (w' := wr) rfl ?hix ?_; case hix => kernel_rfl)
      refine wp_region_held_drew (S := fun _ => True) (by kernel_rfl) trivial (fun hh => ?_)
      have HH := Lib.hid hh
      clear hh
      refine wpAnyH_take (i := 0) (v := ?vN10) rfl (by kernel_rfl) (by kernel_rfl) (by kernel_rfl) (fun _ _ _ h => h) (Or.inl ⟨by rfl, fun w' _ => ?yN10⟩) HH.out ?_
      case yN10 => (go_simp; try with_reducible rfl)
      refine wpAnyH_take (i := 1) (v := ?vN11) rfl (by kernel_rfl) (by kernel_rfl) (by kernel_rfl) (fun _ _ _ h => h) (Or.inl ⟨by rfl, fun w' _ => ?yN11⟩) HH.out ?_
      case yN11 => (go_simp; try with_reducible rfl)
      try simp only [List.getElem_toArray, List.getElem_cons_succ, List.getElem_cons_zero, Act.put, List.setIfInBounds_toArray, List.set_cons_zero, List.set_cons_succ]
      refine wpAnyH_take (i := 2) (v := ?vN12) rfl (by kernel_rfl) (by kernel_rfl) (by kernel_rfl) (fun _ _ _ h => h) (Or.inl ⟨by rfl, fun w' _ => ?yN12⟩) HH.out ?_
      case yN12 => (go_simp; try with_reducible rfl)
      refine wpAnyH_take (i := 3) (v := ?vN13) rfl (by kernel_rfl) (by kernel_rfl) (by kernel_rfl) (fun _ _ _ h => h) (Or.inl ⟨by rfl, fun w' _ => ?yN13⟩) HH.out ?_
      case yN13 => (go_simp; try with_reducible rfl)
      refine wpAnyH_take (i := 5) (v := ?vN15) rfl (by kernel_rfl) (by kernel_rfl) (by kernel_rfl) (fun _ _ _ h => h) (Or.inl ⟨by rfl, fun w' _ => ?yN15⟩) HH.out ?_
      case yN15 => (go_simp; try with_reducible rfl)
      try simp only [List.getElem_toArray, List.getElem_cons_succ, List.getElem_cons_zero, Act.put, List.setIfInBounds_toArray, List.set_cons_zero, List.set_cons_succ]
      refine wpAnyH_take (i := 7) (v := ?vN17) rfl (by kernel_rfl) (by kernel_rfl) (by kernel_rfl) (fun _ _ _ h => h) (Or.inl ⟨by rfl, fun w' _ => ?yN17⟩) HH.out ?_
      case yN17 => (go_simp; try with_reducible rfl)
      refine wpAnyH_take (i := 11) (v := ?vN111) rfl (by kernel_rfl) (by kernel_rfl) (by kernel_rfl) (fun _ _ _ h => h) (Or.inl ⟨by rfl, fun w' _ => ?yN111⟩) HH.out ?_
      case yN111 => (go_simp; try with_reducible rfl)
      refine wpAnyH_take (i := 12) (v := ?vN112) rfl (by kernel_rfl) (by kernel_rfl) (by kernel_rfl) (fun _ _ _ h => h) (Or.inl ⟨by rfl, fun w' _ => ?yN112⟩) HH.out ?_
      case yN112 => (go_simp; try with_reducible rfl)
      try simp only [List.getElem_toArray, List.getElem_cons_succ, List.getElem_cons_zero, Act.put, List.setIfInBounds_toArray, List.set_cons_zero, List.set_cons_succ]
      refine wpAnyH_ready (rs := [4, 6]) (by kernel_rfl) (by simp) (AllReadyH.cons rfl (fun K hK => ?_) (AllReadyH.cons rfl (fun K hK => ?_) AllReadyH.nil))
      · skip
        go_simp
        refine hK.out _ _ trivial (fun hh => ?_)
        have HH' := Lib.hid hh
        clear hh hK K HH
        have HH := Lib.hid HH'.out
        clear HH'
        have B9 := Lib.hid (show Below wr.heap.size wr (World.alloc wr.drew (.cells #[.bool (!y)] 4)) from ((Below.refl wr.heap.size wr).drew).alloc ((Below.refl wr.heap.size wr).drew).size _)
        have X9 := Lib.hid (show Blk (World.alloc wr.drew (.cells #[.bool (!y)] 4)) wr.drew.heap.size #[.bool (!y)] 4 from heap_alloc_new _ _)
        try simp only [List.getElem_toArray, List.getElem_cons_succ, List.getElem_cons_zero, Act.put, List.setIfInBounds_toArray, List.set_cons_zero, List.set_cons_succ]
        refine wpAnyH_ready (rs := [6]) (by kernel_rfl) (by simp) (AllReadyH.cons rfl (fun K hK => ?_) AllReadyH.nil)
        go_simp
        refine (HL0.out _ _ _ ((ML C G g).below M.out.at_ (B9.out)) HSD.out).mono ?_
        rintro e v10 ⟨rfl, bw⟩
        have B10 := Lib.hid ((B9.out).trans (bw.mono (B9.out).size))
        have X10 := Lib.hid (Blk.below (X9.out) bw)
        clear bw
        go_simp
        refine hK.out _ _ trivial (fun hh => ?_)
        have HH' := Lib.hid hh
        clear hh hK K HH
        have HH := Lib.hid HH'.out
        clear HH'
        try simp only [List.getElem_toArray, List.getElem_cons_succ, List.getElem_cons_zero, Act.put, List.setIfInBounds_toArray, List.set_cons_zero, List.set_cons_succ]
        refine wpAnyH_ready (rs := [8]) (by kernel_rfl) (by simp) (AllReadyH.cons rfl (fun K hK => ?_) AllReadyH.nil)
        go_simp
        refine (HL1.out _ _ _ ((ML C G g).below M.out.at_ (B10.out)) HSD.out).mono ?_
        rintro e v11 ⟨rfl, bw⟩
        have B11 := Lib.hid ((B10.out).trans (bw.mono (B10.out).size))
        have X11 := Lib.hid (Blk.below (X10.out) bw)
        clear bw
        go_simp
        refine hK.out _ _ trivial (fun hh => ?_)
        have HH' := Lib.hid hh
        clear hh hK K HH
        have HH := Lib.hid HH'.out
        clear HH'
        try simp only [List.getElem_toArray, List.getElem_cons_succ, List.getElem_cons_zero, Act.put, List.setIfInBounds_toArray, List.set_cons_zero, List.set_cons_succ]
        refine wpAnyH_take (i := 9) (v := .int .i64 (k : Int)) rfl (by kernel_rfl) (by kernel_rfl) (by kernel_rfl) (fun _ _ _ h => h) (Or.inl ⟨by rfl, fun w' hw' => ?ym119⟩) HH.out ?_
        case ym119 => (go_simp; exact HKM.out)
        try simp only [List.getElem_toArray, List.getElem_cons_succ, List.getElem_cons_zero, Act.put, List.setIfInBounds_toArray, List.set_cons_zero, List.set_cons_succ]
        refine wpAnyH_ready (rs := [10]) (by kernel_rfl) (by simp) (AllReadyH.cons rfl (fun K hK => ?_) AllReadyH.nil)
        go_simp
        refine (repeat_any (a := ⟨wr.drew.heap.size, 0, none⟩) ((X11.out).cell 0) k HLE.out).mono ?_
        rintro e v9 ⟨q9, rfl, ho9, bw9⟩
        have HS9 := Lib.hid (ml_setrow HR.out M.out.at_ ((B11.out).trans (bw9.mono (B11.out).size)) (own_moreN ho9 (B11.out).size) (List.length_replicate ..) (i := 1) (by omega))
        obtain ⟨⟨u9, c9⟩, f9, _⟩ := ml_rowcell ((ML C G g).below M.out.at_ ((B11.out).trans (bw9.mono (B11.out).size))) (i := 1) (by omega)
        have c9' : v9.cell? ⟨g, 3, none⟩ = some u9 := c9
        have f9' : v9.frozen? ⟨g, 3, none⟩ = false := f9
        clear bw9 ho9 c9 f9
        go_simp
        refine hK.out _ _ trivial (fun hh => ?_)
        have HH' := Lib.hid hh
        clear hh hK K HH
        have HH := Lib.hid HH'.out
        clear HH'
        try simp only [List.getElem_toArray, List.getElem_cons_succ, List.getElem_cons_zero, Act.put, List.setIfInBounds_toArray, List.set_cons_zero, List.set_cons_succ]
        refine wpAnyH_take (i := 13) (v := ?vz1113) rfl (by kernel_rfl) (by kernel_rfl) (by kernel_rfl) (fun _ _ _ h => h) (Or.inl ⟨by rfl, fun w' _ => ?yz1113⟩) HH.out ?_
        case yz1113 => (go_simp; try with_reducible rfl)
        try simp only [List.getElem_toArray, List.getElem_cons_succ, List.getElem_cons_zero, Act.put, List.setIfInBounds_toArray, List.set_cons_zero, List.set_cons_succ]
        refine wpAnyH_ready (rs := [14]) (by kernel_rfl) (by simp) (AllReadyH.cons rfl (fun K hK => ?_) AllReadyH.nil)
        go_simp
        refine hK.out _ _ trivial (fun hh => ?_)
        have HH' := Lib.hid hh
        clear hh hK K HH
        have HH := Lib.hid HH'.out
        clear HH'
        refine wpAnyH_done (by kernel_rfl) ?_ _
        go_wp2_with fail
        go_roundw
        case rel => exact ⟨2, _, _, rfl, M.out.trans HS9.out, HSD.out, .inr (.inr ⟨rfl, by rw [HS.out]; rfl⟩)⟩
        case measure => simp [intOf]
      · skip
        go_simp
        refine (HL0.out _ _ _ ((ML C G g).below M.out.at_ ((Below.refl wr.heap.size wr).drew)) HSD.out).mono ?_
        rintro e v12 ⟨rfl, bw⟩
        have B12 := Lib.hid (((Below.refl wr.heap.size wr).drew).trans (bw.mono ((Below.refl wr.heap.size wr).drew).size))
        clear bw
        go_simp
        refine hK.out _ _ trivial (fun hh => ?_)
        have HH' := Lib.hid hh
        clear hh hK K HH
        have HH := Lib.hid HH'.out
        clear HH'
        try simp only [List.getElem_toArray, List.getElem_cons_succ, List.getElem_cons_zero, Act.put, List.setIfInBounds_toArray, List.set_cons_zero, List.set_cons_succ]
        refine wpAnyH_ready (rs := [4, 8]) (by kernel_rfl) (by simp) (AllReadyH.cons rfl (fun K hK => ?_) (AllReadyH.cons rfl (fun K hK => ?_) AllReadyH.nil))
        · skip
          go_simp
          refine hK.out _ _ trivial (fun hh => ?_)
          have HH' := Lib.hid hh
          clear hh hK K HH
          have HH := Lib.hid HH'.out
          clear HH'
          have B13 := Lib.hid (show Below wr.heap.size wr (World.alloc v12 (.cells #[.bool (!y)] 4)) from (B12.out).alloc (B12.out).size _)
          have X13 := Lib.hid (show Blk (World.alloc v12 (.cells #[.bool (!y)] 4)) v12.heap.size #[.bool (!y)] 4 from heap_alloc_new _ _)
          try simp only [List.getElem_toArray, List.getElem_cons_succ, List.getElem_cons_zero, Act.put, List.setIfInBounds_toArray, List.set_cons_zero, List.set_cons_succ]
          refine wpAnyH_ready (rs := [8]) (by kernel_rfl) (by simp) (AllReadyH.cons rfl (fun K hK => ?_) AllReadyH.nil)
          go_simp
          refine (HL1.out _ _ _ ((ML C G g).below M.out.at_ (B13.out)) HSD.out).mono ?_
          rintro e v14 ⟨rfl, bw⟩
          have B14 := Lib.hid ((B13.out).trans (bw.mono (B13.out).size))
          have X14 := Lib.hid (Blk.below (X13.out) bw)
          clear bw
          go_simp
          refine hK.out _ _ trivial (fun hh => ?_)
          have HH' := Lib.hid hh
          clear hh hK K HH
          have HH := Lib.hid HH'.out
          clear HH'
          try simp only [List.getElem_toArray, List.getElem_cons_succ, List.getElem_cons_zero, Act.put, List.setIfInBounds_toArray, List.set_cons_zero, List.set_cons_succ]
          refine wpAnyH_take (i := 9) (v := .int .i64 (k : Int)) rfl (by kernel_rfl) (by kernel_rfl) (by kernel_rfl) (fun _ _ _ h => h) (Or.inl ⟨by rfl, fun w' hw' => ?ym149⟩) HH.out ?_
          case ym149 => (go_simp; exact HKM.out)
          try simp only [List.getElem_toArray, List.getElem_cons_succ, List.getElem_cons_zero, Act.put, List.setIfInBounds_toArray, List.set_cons_zero, List.set_cons_succ]
          refine wpAnyH_ready (rs := [10]) (by kernel_rfl) (by simp) (AllReadyH.cons rfl (fun K hK => ?_) AllReadyH.nil)
          go_simp
          refine (repeat_any (a := ⟨v12.heap.size, 0, none⟩) ((X14.out).cell 0) k HLE.out).mono ?_
          rintro e v9 ⟨q9, rfl, ho9, bw9⟩
          have HS9 := Lib.hid (ml_setrow HR.out M.out.at_ ((B14.out).trans (bw9.mono (B14.out).size)) (own_moreN ho9 (B14.out).size) (List.length_replicate ..) (i := 1) (by omega))
          obtain ⟨⟨u9, c9⟩, f9, _⟩ := ml_rowcell ((ML C G g).below M.out.at_ ((B14.out).trans (bw9.mono (B14.out).size))) (i := 1) (by omega)
          have c9' : v9.cell? ⟨g, 3, none⟩ = some u9 := c9
          have f9' : v9.frozen? ⟨g, 3, none⟩ = false := f9
          clear bw9 ho9 c9 f9
          go_simp
          refine hK.out _ _ trivial (fun hh => ?_)
          have HH' := Lib.hid hh
          clear hh hK K HH
          have HH := Lib.hid HH'.out
          clear HH'
          try simp only [List.getElem_toArray, List.getElem_cons_succ, List.getElem_cons_zero, Act.put, List.setIfInBounds_toArray, List.set_cons_zero, List.set_cons_succ]
          refine wpAnyH_take (i := 13) (v := ?vz1413) rfl (by kernel_rfl) (by kernel_rfl) (by kernel_rfl) (fun _ _ _ h => h) (Or.inl ⟨by rfl, fun w' _ => ?yz1413⟩) HH.out ?_
          case yz1413 => (go_simp; try with_reducible rfl)
          try simp only [List.getElem_toArray, List.getElem_cons_succ, List.getElem_cons_zero, Act.put, List.setIfInBounds_toArray, List.set_cons_zero, List.set_cons_succ]
          refine wpAnyH_ready (rs := [14]) (by kernel_rfl) (by simp) (AllReadyH.cons rfl (fun K hK => ?_) AllReadyH.nil)
          go_simp
          refine hK.out _ _ trivial (fun hh => ?_)
          have HH' := Lib.hid hh
          clear hh hK K HH
          have HH := Lib.hid HH'.out
          clear HH'
          refine wpAnyH_done (by kernel_rfl) ?_ _
          go_wp2_with fail
          go_roundw
          case rel => exact ⟨2, _, _, rfl, M.out.trans HS9.out, HSD.out, .inr (.inr ⟨rfl, by rw [HS.out]; rfl⟩)⟩
          case measure => simp [intOf]
        · skip
          go_simp
          refine (HL1.out _ _ _ ((ML C G g).below M.out.at_ (B12.out)) HSD.out).mono ?_
          rintro e v15 ⟨rfl, bw⟩
          have B15 := Lib.hid ((B12.out).trans (bw.mono (B12.out).size))
          clear bw
          go_simp
          refine hK.out _ _ trivial (fun hh => ?_)
          have HH' := Lib.hid hh
          clear hh hK K HH
          have HH := Lib.hid HH'.out
          clear HH'
          try simp only [List.getElem_toArray, List.getElem_cons_succ, List.getElem_cons_zero, Act.put, List.setIfInBounds_toArray, List.set_cons_zero, List.set_cons_succ]
          refine wpAnyH_take (i := 9) (v := .int .i64 (k : Int)) rfl (by kernel_rfl) (by kernel_rfl) (by kernel_rfl) (fun _ _ _ h => h) (Or.inl ⟨by rfl, fun w' hw' => ?ym159⟩) HH.out ?_
          case ym159 => (go_simp; exact HKM.out)
          try simp only [List.getElem_toArray, List.getElem_cons_succ, List.getElem_cons_zero, Act.put, List.setIfInBounds_toArray, List.set_cons_zero, List.set_cons_succ]
          refine wpAnyH_ready (rs := [4]) (by kernel_rfl) (by simp) (AllReadyH.cons rfl (fun K hK => ?_) AllReadyH.nil)
          go_simp
          refine hK.out _ _ trivial (fun hh => ?_)
          have HH' := Lib.hid hh
          clear hh hK K HH
          have HH := Lib.hid HH'.out
          clear HH'
          have B16 := Lib.hid (show Below wr.heap.size wr (World.alloc v15 (.cells #[.bool (!y)] 4)) from (B15.out).alloc (B15.out).size _)
          have X16 := Lib.hid (show Blk (World.alloc v15 (.cells #[.bool (!y)] 4)) v15.heap.size #[.bool (!y)] 4 from heap_alloc_new _ _)
          try simp only [List.getElem_toArray, List.getElem_cons_succ, List.getElem_cons_zero, Act.put, List.setIfInBounds_toArray, List.set_cons_zero, List.set_cons_succ]
          refine wpAnyH_ready (rs := [10]) (by kernel_rfl) (by simp) (AllReadyH.cons rfl (fun K hK => ?_) AllReadyH.nil)
          go_simp
          refine (repeat_any (a := ⟨v15.heap.size, 0, none⟩) ((X16.out).cell 0) k HLE.out).mono ?_
          rintro e v9 ⟨q9, rfl, ho9, bw9⟩
          have HS9 := Lib.hid (ml_setrow HR.out M.out.at_ ((B16.out).trans (bw9.mono (B16.out).size)) (own_moreN ho9 (B16.out).size) (List.length_replicate ..) (i := 1) (by omega))
          obtain ⟨⟨u9, c9⟩, f9, _⟩ := ml_rowcell ((ML C G g).below M.out.at_ ((B16.out).trans (bw9.mono (B16.out).size))) (i := 1) (by omega)
          have c9' : v9.cell? ⟨g, 3, none⟩ = some u9 := c9
          have f9' : v9.frozen? ⟨g, 3, none⟩ = false := f9
          clear bw9 ho9 c9 f9
          go_simp
          refine hK.out _ _ trivial (fun hh => ?_)
          have HH' := Lib.hid hh
          clear hh hK K HH
          have HH := Lib.hid HH'.out
          clear HH'
          try simp only [List.getElem_toArray, List.getElem_cons_succ, List.getElem_cons_zero, Act.put, List.setIfInBounds_toArray, List.set_cons_zero, List.set_cons_succ]
          refine wpAnyH_take (i := 13) (v := ?vz1613) rfl (by kernel_rfl) (by kernel_rfl) (by kernel_rfl) (fun _ _ _ h => h) (Or.inl ⟨by rfl, fun w' _ => ?yz1613⟩) HH.out ?_
          case yz1613 => (go_simp; try with_reducible rfl)
          try simp only [List.getElem_toArray, List.getElem_cons_succ, List.getElem_cons_zero, Act.put, List.setIfInBounds_toArray, List.set_cons_zero, List.set_cons_succ]
          refine wpAnyH_ready (rs := [14]) (by kernel_rfl) (by simp) (AllReadyH.cons rfl (fun K hK => ?_) AllReadyH.nil)
          go_simp
          refine hK.out _ _ trivial (fun hh => ?_)
          have HH' := Lib.hid hh
          clear hh hK K HH
          have HH := Lib.hid HH'.out
          clear HH'
          refine wpAnyH_done (by kernel_rfl) ?_ _
          go_wp2_with fail
          go_roundw
          case rel => exact ⟨2, _, _, rfl, M.out.trans HS9.out, HSD.out, .inr (.inr ⟨rfl, by rw [HS.out]; rfl⟩)⟩
          case measure => simp [intOf]
    · have HS := Lib.hid hs
      clear hs
      go_wp2_with fail
      go_ret
      refine ⟨g, F', rfl, by rw [← HS.out]; exact M.out.at_, fun q hq => ?_, ?_⟩
      · rcases M.out.new q hq with (h1 | h1) | h1
        · exact .inl h1
        · exact .inr (by rw [h1, HG.out]; exact Nat.le_refl _)
        · exact .inr (Nat.le_trans BW1.out.size h1)
      · exact but_step (but_below (T := FF) BW1.out) M.out.but (fun q hq => hq.imp id (fun e => by rw [e, HG.out]; exact Nat.le_refl _))
theorem new_any (hR : ∀ A n c B m e, G.R A n c B m e) {d : C.L.St} (h : C.L.At w d F1) (hl : G.l = [] := by rfl) :
    Calls Try.prog 74 #[.pointer (C.ptr 0), .pointer (C.ptr 1), G.v] w (fun e w' => ∃ g F', e = .returned (.pointer (some ⟨g, 0, none⟩)) ∧ (ML C G g).At w' (newM C d) F' ∧ (∀ q, F' q → F1 q ∨ w.heap.size ≤ q) ∧ But F1 w w') := by
  have hF : (fun x => F1 x ∨ ∃ y ∈ G.l, x = y.1) = F1 := funext fun x => propext ⟨fun hx => hx.elim id (fun ⟨y, hy, _⟩ => by rw [hl] at hy; cases hy), .inl⟩
  exact new_anyG hR h (fun x hx => by rw [hl] at hx; cases hx) hF.symm
end
end Go.Proofs.Ytnplhagfmfggcaa.Mi
/-
  The newest super of all that stand at the two places, as the code finds it.
-/
namespace Go.Proofs.Ytnplhagfmfggcaa.Su
open Go.RowKit Kd Sx Mi
attribute [local go_sem ↓] Go.wp_at_zero Go.wp_at_succ
def spC (s : Sp) : Array Value := #[.int .u64 (s.v : Int), .int .i64 s.n, .int .u64 (s.t : Int)]
section
variable (f : List UInt8 → List UInt8 → List UInt8) (L0 L1 : List (List UInt8))
def rowP (k : Nat) : List (List UInt8) := if k = 0 then L0 else L1
/-- What is known ahead of place k. -/
def stP : Nat → Sp × Bool
  | 0 => (zeroP, false)
  | k + 1 => (rowP L0 L1 k).foldl (betterP f k) (stP k)
end
theorem stP_two (f : List UInt8 → List UInt8 → List UInt8) (L0 L1 : List (List UInt8)) : stP f L0 L1 2 = newestP f L0 L1 := rfl
theorem better_take {f : List UInt8 → List UInt8 → List UInt8} {k : Nat} {s : Sp × Bool} {L : List (List UInt8)} {p : Nat} (hp : p < L.length) : (L.take (p + 1)).foldl (betterP f k) s = betterP f k ((L.take p).foldl (betterP f k) s) L[p] := by
  rw [List.take_succ_eq_append_getElem hp, List.foldl_append]; rfl
theorem row_typeU {w : World} {k e size : Nat} {v : Value} {xs : List Value} {ty : TypeId} (ho : w.ownsRow k ty size v e xs) : ∀ q, v.ownBlock = some q → ∃ cs, w.heap[q]? = some (.cells cs ty) := by
  intro q hq
  rcases ho.2 with ⟨rfl, _⟩ | ⟨g', cap, cur, rfl, hk, h2, _⟩
  · cases hq
  · injection hq with hq; subst hq; exact ⟨_, h2⟩
set_option maxRecDepth 100000 in
set_option maxHeartbeats 6400000 in
theorem unewest_any (P : Option Addr) (ci : SCiph) (L0 L1 : List (List UInt8)) (h0 : ∀ x ∈ L0, x.length = 128) (h1 : ∀ x ∈ L1, x.length = 128) (w : World)
    (hb : ∀ W, Below w.heap.size w W → ∀ k : Nat, k < 2 → Calls Try.prog 129 #[.pointer P, .int .i64 (k : Int)] W (RetSec (rowP L0 L1 k) W)) :
    Calls Try.prog 105 #[.pointer P, ci.v] w (RetB (.tuple #[spA (newestP ci.f L0 L1).1, .bool (newestP ci.f L0 L1).2]) w) := by
  have HBO := Lib.hid hb
  have HL3 := Lib.hid (show ∀ k, ∀ x ∈ rowP L0 L1 k, x.length = 128 from fun k x hx => by unfold rowP at hx; split at hx; exact h0 x hx; exact h1 x hx)
  obtain ⟨z, hz0⟩ : ∃ z : List UInt8, z = zeroS := ⟨_, rfl⟩
  have hz : ∀ W, (zeroValue 38).run Try.prog W = .ok (.agg (bva z)) W := fun _ => by rw [hz0]; kernel_rfl
  have hzf := zero_super
  have HZ3 := Lib.hid (show z.length = 128 by rw [hz0]; exact zeroS_length)
  have HIS := Lib.hid (show ∀ y : List UInt8, y.length = 128 → (Try.prog.info? 38).map (·.size) = some (bva y).size from fun y hy => by rw [bva_size, hy]; exact info_sec)
  have HR2 := Lib.hid (stP_two ci.f L0 L1)
  obtain ⟨R, hR⟩ : ∃ R, R = newestP ci.f L0 L1 := ⟨_, rfl⟩
  rw [← hR] at HR2
  rw [← hR]
  obtain ⟨st, hst⟩ : ∃ st, st = stP ci.f L0 L1 := ⟨_, rfl⟩
  obtain ⟨row, hrow⟩ : ∃ row, row = rowP L0 L1 := ⟨_, rfl⟩
  have HS0 := Lib.hid (show st 0 = (zeroP, false) by rw [hst]; rfl)
  have HS1 := Lib.hid (show ∀ k, st (k + 1) = (row k).foldl (betterP ci.f k) (st k) from fun k => by rw [hst, hrow]; rfl)
  rw [← hst] at HR2
  rw [← hrow] at HBO HL3
  clear hb h0 h1 hz0 hR hst hrow
  obtain ⟨w1, hw1⟩ : ∃ W, W = w.alloc (.cells #[.int .u64 0, .int .i64 0, .int .u64 0] 100) := ⟨_, rfl⟩
  have B1 := Lib.hid (show Below w.heap.size w w1 by rw [hw1]; exact (Below.refl _ _).alloc (Nat.le_refl _) _)
  have X1 := Lib.hid (show Blk w1 w.heap.size (spC (st 0).1) 100 by rw [HS0.out, hw1]; exact heap_alloc_new _ _)
  have F1 := Lib.hid (show (st 0).2 = false by rw [HS0.out])
  go_enter Try.func105, Try.ntmps105
  go_wp2_with fail
  rw [← hw1]
  clear hw1
  go_loopw [5, 11] (fun x i wr => ∃ k : Nat, k ≤ 2 ∧ i = .int .i64 (k : Int) ∧ x = .bool (st k).2 ∧ Hid (Blk wr w.heap.size (spC (st k).1) 100) ∧ Hid (Below w.heap.size w wr)) (fun _ i _ => 2 - (intOf i).toNat)
  case atStart => exact ⟨0, Nat.zero_le _, rfl, by rw [F1.out], X1, B1⟩
  case round =>
    obtain ⟨k, hk, rfl, rfl, X, B⟩ := hrel
    have HK := Lib.hid hk
    by_cases hlt : k < 2
    · have HLT := Lib.hid hlt
      have j0 : (0 : Int) ≤ (k : Int) := by omega
      have j1 : (k : Int) < 2 := by omega
      have wp1 : IntKind.i64.wrap ((k : Int) + 1) = ((k + 1 : Nat) : Int) := IntWalk.i64_in _ (by omega)
      obtain ⟨S, hS⟩ : ∃ S, S = st k := ⟨_, rfl⟩
      have HSE := Lib.hid (show st (k + 1) = (row k).foldl (betterP ci.f k) S by rw [hS]; exact HS1.out k)
      rw [← hS] at X
      rw [← hS]
      have HL := Lib.hid (HL3.out k)
      have HB := Lib.hid (HBO.out wr B.out k hlt)
      obtain ⟨L, hL⟩ : ∃ L, L = row k := ⟨_, rfl⟩
      rw [← hL] at HL HB HSE
      clear hk hlt hS hL
      go_wp2_with fail
      refine HB.out.mono ?_
      rintro e w2 ⟨AL, n, cL, rfl, hln, hown, bw⟩
      have OL2 := Lib.hid (own_moreN hown (show w.heap.size ≤ wr.heap.size by have := X.out.lt; omega))
      have HN := Lib.hid (show L.length = n ∧ n ≤ 9223372036854775807 by
        have hc := own_cap hown
        unfold maxLen at hc
        exact ⟨hln, by omega⟩)
      have X2 := Lib.hid (X.out.below bw)
      have B2 := Lib.hid (B.out.trans (bw.mono B.out.size))
      clear hown bw hln X B HB
      go_wp2_with fail
      go_loopw [5, 18] (fun x i wr => ∃ p : Nat, p ≤ n ∧ i = .int .i64 p ∧ x = .bool ((L.take p).foldl (betterP ci.f k) S).2 ∧ Hid (Blk wr w.heap.size (spC ((L.take p).foldl (betterP ci.f k) S).1) 100) ∧ Hid (Below w.heap.size w wr) ∧ Hid (wr.ownsRow w.heap.size 38 128 (.slice AL n cL) n (svs L))) (fun _ i _ => n - (intOf i).toNat)
      case atStart => exact ⟨0, Nat.zero_le _, rfl, rfl, X2, B2, OL2⟩
      case round =>
        obtain ⟨p, hp, rfl, rfl, Y, D, OL⟩ := hrel
        obtain ⟨Q, hQ⟩ : ∃ Q, Q = (L.take p).foldl (betterP ci.f k) S := ⟨_, rfl⟩
        rw [← hQ] at Y
        rw [← hQ]
        have HQ := Lib.hid hQ
        have HP := Lib.hid hp
        by_cases hlp : p < n
        · have HLP := Lib.hid hlp
          have i0 : (0 : Int) ≤ (p : Int) := by omega
          have i1 : (p : Int) < (n : Int) := by omega
          have wp2 : IntKind.i64.wrap ((p : Int) + 1) = ((p + 1 : Nat) : Int) := IntWalk.i64_in _ (by have := HN.out.2; omega)
          have hpl : p < L.length := by rw [HN.out.1]; exact hlp
          obtain ⟨ad, hA1, _, hcell⟩ := rd_sec (Rd.ownN OL.out) HL.out hpl
          subst hA1
          obtain ⟨y, hy⟩ : ∃ y, y = L[p] := ⟨_, rfl⟩
          rw [← hy] at hcell
          have HY3 := Lib.hid (show y.length = 128 by rw [hy]; exact HL.out _ (List.getElem_mem hpl))
          have HIY := Lib.hid (HIS.out y HY3.out)
          have HIYv := Lib.hid (show (Try.prog.info? 38).map (·.size) = some (bv y).length by rw [bv_length, HY3.out]; exact info_sec)
          have HCE := Lib.hid hcell
          have HT := Lib.hid (show (L.take (p + 1)).foldl (betterP ci.f k) S = betterP ci.f k Q y by rw [better_take hpl, ← hy, hQ])
          have HUP := Lib.hid (fun W => uopen_any ci k (Nat.lt_trans HLT.out (by omega)) y HY3.out W)
          obtain ⟨o, ho⟩ : ∃ o, o = openP ci.f k y := ⟨_, rfl⟩
          obtain ⟨is, his⟩ : ∃ o, o = isS ci.f k y := ⟨_, rfl⟩
          have HBE := Lib.hid (show betterP ci.f k Q y = if is && (!Q.2 || decide (Q.1.v < o.v)) then (o, true) else Q by rw [betterP, ho, his])
          rw [← ho, ← his] at HUP
          obtain ⟨⟨qv, qn, qt⟩, qf⟩ := Q
          obtain ⟨ov, on, ot⟩ := o
          unfold spC at Y
          unfold spA at HUP
          clear hp hlp hpl hcell hy ho his hQ
          go_wp2_with (first | (refine wpList_load_at rfl 38 (.tmp 20) rfl (ad.add (p * 128)) rfl HCE.out Try.underlying38 rfl HIYv.out ?_; change wpList _ _ _ _ (Act.put _ _ (.agg (bva y))) _) | (show wpList _ _ _ ({ dst := none, op := .store 38 (.tmp 8) (.tmp 21), type := _, pos := _, after := _, guard := _ } :: _) _ _; apply Classical.byContradiction; intro hneg))
          refine hneg ?_
          clear hneg
          refine wpList_store_row rfl 38 (.tmp 8) (.tmp 21) rfl wr.heap.size (bva y) rfl rfl 38 (bva z) (heap_alloc_new _ _) HIY.out (by rw [bva_size, bva_size, HY3.out, HZ3.out]) (bva_one _) ?_
          obtain ⟨w4, hw4⟩ : ∃ w4, w4 = (wr.alloc (.cells (bva z) 38)).setRow wr.heap.size (bva y) := ⟨_, rfl⟩
          have bw : Below wr.heap.size wr w4 := by rw [hw4]; exact below_setRow ((Below.refl _ _).alloc (Nat.le_refl _) _) (Nat.le_refl _) _
          have Y8 := Lib.hid (show Blk w4 wr.heap.size (bva y) 38 by rw [hw4]; exact setRow_heap _ _ _ _ _ _ (heap_alloc_new _ _))
          have Y4 := Lib.hid (Y.out.below bw)
          have D4 := Lib.hid (D.out.trans (bw.mono D.out.size))
          have OL4 := Lib.hid (own_belowN OL.out bw)
          rw [← hw4]
          obtain ⟨b8, hb8'⟩ : ∃ b, b = wr.heap.size := ⟨_, rfl⟩
          rw [← hb8'] at Y8
          rw [← hb8']
          clear hw4 bw Y D OL hb8'
          go_wp2_with (refine wpList_load_row rfl 38 (.tmp 8) rfl b8 rfl 38 (bva y) (0, 0) _ Y8.out Try.underlying38 rfl HIY.out ?_)
          refine (HUP.out _).mono ?_
          rintro e w5 ⟨rfl, bw0⟩
          obtain ⟨w6, hw6⟩ : ∃ W, W = w5.alloc (.cells #[.int .u64 (ov : Int), .int .i64 on, .int .u64 (ot : Int)] 100) := ⟨_, rfl⟩
          have bw6 : Below w5.heap.size w5 w6 := by rw [hw6]; exact (Below.refl _ _).alloc (Nat.le_refl _) _
          have bw := bw0.trans (bw6.mono bw0.size)
          have Y5 := Lib.hid (Y4.out.below bw0)
          have Y6 := Lib.hid (Y4.out.below bw)
          have D6 := Lib.hid (D4.out.trans (bw.mono D4.out.size))
          have OL6 := Lib.hid (own_belowN OL4.out bw)
          have O6 := Lib.hid (show Blk w6 w5.heap.size #[.int .u64 (ov : Int), .int .i64 on, .int .u64 (ot : Int)] 100 by rw [hw6]; exact heap_alloc_new _ _)
          clear bw bw0 bw6 Y4 D4 OL4 Y8 HUP HCE
          have wn6 := Lib.hid hw6
          clear hw6
          have c0 := Y6.out.cell 0
          have c1 := Y6.out.cell 1
          have c2 := Y6.out.cell 2
          have goon : ∀ (Q' : Sp × Bool) (w' : World), Q' = (L.take (p + 1)).foldl (betterP ci.f k) S → Blk w' w.heap.size (spC Q'.1) 100 → Below w.heap.size w w' → w'.ownsRow w.heap.size 38 128 (.slice (some ad) n cL) n (svs L) →
            ∃ p' : Nat, p' ≤ n ∧ Value.int .i64 ((p : Int) + 1) = .int .i64 p' ∧ Value.bool Q'.2 = .bool ((L.take p').foldl (betterP ci.f k) S).2 ∧ Hid (Blk w' w.heap.size (spC ((L.take p').foldl (betterP ci.f k) S).1) 100) ∧ Hid (Below w.heap.size w w') ∧ Hid (w'.ownsRow w.heap.size 38 128 (.slice (some ad) n cL) n (svs L)) := by
            intro Q' w' h1 h2 h3 h4
            refine ⟨p + 1, HLP.out, rfl, ?_⟩
            rw [← h1]
            exact ⟨rfl, Lib.hid h2, Lib.hid h3, Lib.hid h4⟩
          have GO := Lib.hid goon
          clear goon
          have TAKE := Lib.hid (show (is = true ∧ (qf = false ∨ qv < ov)) → ((⟨ov, on, ot⟩, true) : Sp × Bool) = (L.take (p + 1)).foldl (betterP ci.f k) S from fun h => by
            rw [HT.out, HBE.out, if_pos]
            obtain ⟨h1, h2⟩ := h
            rw [h1]
            rcases h2 with h2 | h2
            · simp [h2]
            · simp [h2])
          have LEAVE := Lib.hid (show (is = false ∨ (qf = true ∧ ¬ qv < ov)) → ((⟨qv, qn, qt⟩, qf) : Sp × Bool) = (L.take (p + 1)).foldl (betterP ci.f k) S from fun h => by
            rw [HT.out, HBE.out, if_neg]
            rcases h with h | ⟨h1, h2⟩
            · simp [h]
            · simp [h1, h2])
          have NEWV := Lib.hid (show Blk (w6.setRow w.heap.size #[.int .u64 (ov : Int), .int .i64 on, .int .u64 (ot : Int)]) w.heap.size #[.int .u64 (ov : Int), .int .i64 on, .int .u64 (ot : Int)] 100 from setRow_heap _ _ _ _ _ _ Y6.out)
          have NEWB := Lib.hid (show Below w.heap.size w (w6.setRow w.heap.size #[.int .u64 (ov : Int), .int .i64 on, .int .u64 (ot : Int)]) from below_setRow D6.out (Nat.le_refl _) _)
          have NEWO := Lib.hid (show (w6.setRow w.heap.size #[.int .u64 (ov : Int), .int .i64 on, .int .u64 (ot : Int)]).ownsRow w.heap.size 38 128 (.slice (some ad) n cL) n (svs L) from Own.but OL6.out ((But.refl _).setRow (S := fun q => q = w.heap.size) (.inl rfl) _) (fun q hq e => by
            obtain ⟨cs1, e1⟩ := row_typeU OL6.out q hq
            rw [e, Y6.out] at e1
            injection e1 with e1
            injection e1 with _ e2
            exact absurd e2 (by decide)))
          have DEC := Lib.hid (show (decide ((ov : Int) > (qv : Int))) = decide (qv < ov) from decide_eq_decide.2 (by omega))
          cases is with
          | false =>
            have LV := Lib.hid (LEAVE.out (.inl rfl))
            clear LEAVE TAKE
            go_wp2_with fail
            rw [← wn6.out]
            go_round
            case rel => exact GO.out _ _ LV.out Y6.out D6.out OL6.out
            case measure => have := HLP.out; simp [intOf]; omega
          | true =>
            have tk := (fun h => TAKE.out ⟨rfl, h⟩)
            have lv := (fun h => LEAVE.out (.inr h))
            have TK := Lib.hid tk
            have LV := Lib.hid lv
            clear tk lv LEAVE TAKE
            cases qf with
            | false =>
              have TKb := Lib.hid (TK.out (.inl rfl))
              clear LV
              go_wp2_with first | (refine wpList_store_row rfl 100 (.tmp 4) (.tmp 41) rfl w.heap.size #[.int .u64 (ov : Int), .int .i64 on, .int .u64 (ot : Int)] rfl rfl 100 _ (show Blk (World.alloc _ _) _ _ _ from Y5.out.below ((Below.refl _ _).alloc (Nat.le_refl _) _)) super_info rfl (by simp [Value.oneCell']) ?_)
              rw [← wn6.out]
              go_round
              case rel => exact GO.out _ _ TKb.out NEWV.out NEWB.out NEWO.out
              case measure => have := HLP.out; simp [intOf]; omega
            | true =>
              have c0' : (w5.alloc (.cells #[.int .u64 (ov : Int), .int .i64 on, .int .u64 (ot : Int)] 100)).cell? ⟨w.heap.size, 0, none⟩ = some (.int .u64 (qv : Int)) := by rw [← wn6.out]; exact c0
              by_cases hgt : qv < ov
              · have hg : (qv : Int) < (ov : Int) := by omega
                have TKb := Lib.hid (TK.out (.inr hgt))
                clear hgt LV
                go_wp2_with first | (refine wpList_store_row rfl 100 (.tmp 4) (.tmp 41) rfl w.heap.size #[.int .u64 (ov : Int), .int .i64 on, .int .u64 (ot : Int)] rfl rfl 100 _ (show Blk (World.alloc _ _) _ _ _ from Y5.out.below ((Below.refl _ _).alloc (Nat.le_refl _) _)) super_info rfl (by simp [Value.oneCell']) ?_)
                rw [← wn6.out]
                go_round
                case rel => exact GO.out _ _ TKb.out NEWV.out NEWB.out NEWO.out
                case measure => have := HLP.out; simp [intOf]; omega
              · have hg : ¬ (qv : Int) < (ov : Int) := by omega
                have LVb := Lib.hid (LV.out ⟨rfl, hgt⟩)
                clear hgt TK
                go_wp2_with fail
                rw [← wn6.out]
                go_round
                case rel => exact GO.out _ _ LVb.out Y6.out D6.out OL6.out
                case measure => have := HLP.out; simp [intOf]; omega
        · have hd : ¬ (p : Int) < (n : Int) := by omega
          have hpn : p = n := by have := HP.out; omega
          have HE := Lib.hid (show st (k + 1) = Q by rw [HSE.out, HQ.out, hpn, List.take_of_length_le (by rw [HN.out.1]; exact Nat.le_refl _)])
          clear hlp hpn hp hQ
          go_wp2_with fail
          go_round
          case rel => exact ⟨k + 1, HLT.out, rfl, by rw [HE.out], by rw [HE.out]; exact Y, D⟩
          case measure => have := HLT.out; simp [intOf]; omega
    · have hd : ¬ (k : Int) < 2 := by omega
      have hk2 : k = 2 := by omega
      subst hk2
      obtain ⟨⟨rv, rn, rt⟩, rf⟩ := R
      rw [HR2.out] at X
      rw [HR2.out]
      unfold spC at X
      have c0 := X.out.cell 0
      have c1 := X.out.cell 1
      have c2 := X.out.cell 2
      clear hlt hk
      go_wp2_with first | (refine wpList_store_row rfl 100 (.tmp 4) (.tmp 44) rfl w.heap.size #[.int .u64 (rv : Int), .int .i64 rn, .int .u64 (rt : Int)] rfl rfl 100 _ X.out super_info rfl (by simp [Value.oneCell']) ?_)
      exact bodyPost_ret (v := .tuple #[spA ⟨rv, rn, rt⟩, .bool rf]) (results_ct8 Try.results105 _ _ w.heap.size 100 #[.int .u64 (rv : Int), .int .i64 rn, .int .u64 (rt : Int)] _ rfl (setRow_heap _ _ _ _ _ _ X.out) super_under rfl super_info) rfl ⟨rfl, below_setRow B.out (Nat.le_refl _) _⟩
end Go.Proofs.Ytnplhagfmfggcaa.Su
/-
  The contracts of slices.Grow at no bytes and of slices.Concat at rows of bytes: a new row of all of them.
-/
namespace Go.Proofs.Ytnplhagfmfggcaa.Kc
open Go.RowKit
attribute [local go_sem ↓] Go.wp_at_zero Go.wp_at_succ
/-- It returns a new row without bytes, that has room. -/
def RetGrow (w : World) (e : Ending) (w' : World) : Prop :=
  ∃ A c, e = .returned (.slice A 0 c) ∧ w'.ownsRow w.heap.size 5 1 (.slice A 0 c) 0 [] ∧ Below w.heap.size w w'
set_option maxRecDepth 100000 in
set_option maxHeartbeats 1600000 in
theorem grow_any (m : Nat) (w : World) (hm : m ≤ 10000000) : Calls Try.prog 127 #[.slice none 0 0, .int .i64 (m : Nat)] w (RetGrow w) := by
  rcases Nat.eq_zero_or_pos m with rfl | h0
  · go_enter Try.func127, Try.ntmps127
    go_wp2_with fail
    go_ret
    exact ⟨none, 0, rfl, World.ownsRow_nil _ _ _ _, Below.refl _ _⟩
  · have m0 : (m : Int) > 0 := by omega
    have m1 : IntKind.i64.wrap (m : Int) = (m : Int) := IntWalk.i64_in _ (by omega)
    obtain ⟨ie, hie, hz0, hz1, hz2⟩ := info_parts Wi.bytesElt.info
    obtain ⟨G, hG⟩ : ∃ G, G = grownCap w m 0 5 := ⟨_, rfl⟩
    have hGn : m ≤ G := by rw [hG]; exact grownCap_ge w _ _ _
    have hGm : G ≤ 9223372036854775807 := by
      have := grownCap_le_maxLen w m 0 5 (by unfold maxLen; omega)
      rw [← hG] at this
      unfold maxLen at this
      omega
    obtain ⟨R0, hR0⟩ : ∃ R0 : Array Value, R0 = #[] ++ Builtin.zeroCells (Value.int IntKind.u8 0).cells m ++ Builtin.zeroCells (Value.int IntKind.u8 0).cells (G - m) := ⟨_, rfl⟩
    have hR0s : R0.size = G * 1 := by
      rw [hR0]
      simp only [Array.size_append, size_zeroCells]
      show 0 + m * 1 + (G - m) * 1 = G * 1
      omega
    obtain ⟨N, hN⟩ : ∃ N, N = w.heap.size := ⟨_, rfl⟩
    have hrz : ∀ ty, (Builtin.append_ #[81, 3] ty #[.slice none 0 0, .int .i64 (m : Int)]).run Try.prog w = .ok (.slice (some ⟨N, 0, none⟩) m G) (w.drew.alloc (.cells R0 5)) := fun ty => by
      have hold : (Builtin.firstCells ie.size 0 (.slice none 0 0)).run Try.prog w.drew = .ok ([] : List Value).toArray w.drew := by
        rw [hz1]; simp [Builtin.firstCells]
      have hh := Lib.run_append_grow_zeros (P := Try.prog) w 81 3 ty 5 ie _ .i64 .i64 Try.underlying81 Try.underlying3 hie hz0 none 0 0 [] hold m h0 (by rw [hz1]; omega) (by omega) (by omega) (by rw [hz2]; omega) (by rw [hz2, show 0 + m = m by omega]; exact growslice_fits h0 (by omega))
      rw [show 0 + m = m by omega, ← hG] at hh
      rw [hN, hR0]
      exact hh
    obtain ⟨W1, hW1⟩ : ∃ W1, W1 = w.drew.alloc (.cells R0 5) := ⟨_, rfl⟩
    have g1 : W1.heap[N]? = some (.cells R0 5 (0, 0)) := by rw [hW1, hN]; exact heap_alloc_new w.drew _
    have b1 : Below w.heap.size w W1 := by rw [hW1]; exact (Below.refl _ w).drew.alloc (Nat.le_refl _) _
    rw [← hW1] at hrz
    have HRZ := Lib.hid hrz
    have HO := Lib.hid (show W1.ownsRow w.heap.size 5 1 (.slice (some ⟨N, 0, none⟩) 0 G) 0 [] from ⟨rfl, .inr ⟨N, G, R0, rfl, by omega, g1, Nat.zero_le _, by unfold maxLen; omega, hR0s, by simp⟩⟩)
    have HB := Lib.hid b1
    have hg0 : (0 : Int) ≤ (G : Int) := by omega
    clear hrz hG hR0 hR0s hN hW1 g1 b1 hie hz0 hz1 hz2
    go_enter Try.func127, Try.ntmps127
    go_wp2_with (at_builtin
                 refine wpList_appR _ rfl (.tmp 20) (.tmp 21) 81 3 rfl (.slice none 0 0) (.int .i64 (m : Int)) rfl rfl (HRZ.out _) ?_)
    go_ret
    exact ⟨_, _, rfl, HO.out, HB.out⟩
theorem flat_take (ls : List (List UInt8)) {k : Nat} (h : k < ls.length) : (ls.take (k + 1)).flatten = (ls.take k).flatten ++ ls[k] := by
  rw [List.take_succ_eq_append_getElem h, List.flatten_append, List.flatten_cons, List.flatten_nil, List.append_nil]
theorem flat_le (ls : List (List UInt8)) (k : Nat) : (ls.take k).flatten.length ≤ ls.flatten.length := by
  have e : ls.flatten = (ls.take k).flatten ++ (ls.drop k).flatten := by rw [← List.flatten_append, List.take_append_drop]
  rw [e, List.length_append]; omega
set_option maxRecDepth 100000 in
set_option maxHeartbeats 1600000 in
theorem concat_any {B : Nat} (A : Option Addr) (n c : Nat) (ls : List (List UInt8)) (w : World) (hl : ls.length = n) (hB : B ≤ w.heap.size) (hr : RdB B w A ls) (hn : n ≤ 1000000) (hf : ls.flatten.length ≤ 1000000) :
    Calls Try.prog 98 #[.slice A n c] w (RetRow 5 (bv ls.flatten) w) := by
  have HL := Lib.hid hl
  have HR := Lib.hid (hr.more hB)
  clear hr hB
  go_enter Try.func98, Try.ntmps98
  go_wp2_with fail
  go_loopw [3, 5, 11] (fun o _ i wr => ∃ k s : Nat, k ≤ n ∧ i = .int .i64 k ∧ o = .int .i64 (s : Nat) ∧ Hid (s = (ls.take k).flatten.length) ∧ wr = w) (fun _ _ i _ => n - (intOf i).toNat)
  case atStart => exact ⟨0, 0, by omega, rfl, rfl, rfl, rfl⟩
  case round =>
    obtain ⟨k, s, hk, rfl, rfl, HS, hw⟩ := hrel
    have hw' := hw.symm
    clear hw
    subst hw'
    by_cases hlt : k < n
    · have hkl : k < ls.length := by omega
      obtain ⟨ad, A', c', hA, _, hcell, _, _, _⟩ := HR.out.at_ hkl
      subst hA
      obtain ⟨q, hq⟩ : ∃ q, q = ls[k].length := ⟨_, rfl⟩
      have hfl := flat_take ls hkl
      have hle := flat_le ls (k + 1)
      rw [hfl, List.length_append, ← HS.out, ← hq] at hle
      have HQ := Lib.hid (show s + q = (ls.take (k + 1)).flatten.length by rw [hfl, List.length_append, ← HS.out, ← hq])
      rw [← hq] at hcell
      have k0 : (0 : Int) ≤ (k : Int) := by omega
      have k1 : (k : Int) < (n : Int) := by omega
      have e1 : IntKind.i64.wrap ((s : Int) + (q : Int)) = ((s + q : Nat) : Int) := by rw [IntWalk.i64_in _ (by omega)]; omega
      have e2 : ¬ ((s + q : Nat) : Int) < 0 := by omega
      have ek : IntKind.i64.wrap ((k : Int) + 1) = ((k + 1 : Nat) : Int) := by rw [IntWalk.i64_in _ (by omega)]; omega
      clear hfl hq
      go_wp2_with fail
      go_roundw
      case rel => exact ⟨k + 1, s + q, by omega, by go_num, by go_num, HQ, by first | rfl | trivial⟩
      case measure => simp [intOf]; omega
    · obtain rfl : n = k := by omega
      have hs : s = ls.flatten.length := by rw [HS.out, List.take_of_length_le (by omega)]
      have HSF := Lib.hid hs
      have hs2 : s ≤ 10000000 := by omega
      clear hs HS
      go_wp2_with fail
      refine (grow_any s w hs2).mono ?_
      rintro e w2 ⟨A1, c1, rfl, ho, hb⟩
      have HO := Lib.hid ho
      have HB := Lib.hid hb
      clear ho hb
      go_wp2_with fail
      go_loopw [6, 8, 27] (fun o _ i wx => ∃ k m A2 c2, k ≤ n ∧ i = .int .i64 (k : Nat) ∧ o = .slice A2 m c2 ∧ Hid (m = (ls.take k).flatten.length) ∧ wx.ownsRow w.heap.size 5 1 (.slice A2 m c2) m (bv (ls.take k).flatten) ∧ Below w.heap.size w wx) (fun _ _ i _ => n - (intOf i).toNat)
      case atStart => exact ⟨0, 0, A1, c1, by omega, rfl, rfl, rfl, HO.out, HB.out⟩
      case round =>
        clear HO HB
        obtain ⟨k, m, A2, c2, hk, rfl, rfl, HM, ho, hb⟩ := hrel
        by_cases hlt : k < n
        · have hkl : k < ls.length := by omega
          obtain ⟨ad, A', c', hA, _, hcell, _, _, hrow⟩ := (HR.out.below hb).at_ hkl
          subst hA
          obtain ⟨q, hq⟩ : ∃ q, q = ls[k].length := ⟨_, rfl⟩
          obtain ⟨y, hy⟩ : ∃ y, y = ls[k] := ⟨_, rfl⟩
          have hfl := flat_take ls hkl
          have hle := flat_le ls (k + 1)
          rw [hfl, List.length_append, ← HM.out, ← hq] at hle
          rw [← hy] at hfl hrow
          have HQ := Lib.hid (show m + q = (ls.take (k + 1)).flatten.length by rw [hfl, List.length_append, ← HM.out, hq, hy])
          rw [← hq] at hcell
          have hyl : y.length = q := by rw [hq, hy]
          have HFL := Lib.hid hfl
          have HW := Lib.hid hrow
          have HO := Lib.hid ho
          have HB := Lib.hid hb
          have hmq : m + q ≤ 1000000 := by omega
          have k0 : (0 : Int) ≤ (k : Int) := by omega
          have k1 : (k : Int) < (n : Int) := by omega
          have ek : IntKind.i64.wrap ((k : Int) + 1) = ((k + 1 : Nat) : Int) := by rw [IntWalk.i64_in _ (by omega)]; omega
          clear hfl hq hrow ho hb hy
          go_wp2_with (at_builtin
                       refine wpList_app _ rfl (.tmp 31) (.tmp 32) _ rfl Wi.bytesElt (base := w.heap.size) (v := .slice A2 m c2) rfl HO.out (m := q) rfl HW.out (by rw [bv_length, hyl]) (bv_one _) ?_ ?_ ?_
                       · omega
                       · exact HB.out.size
                       intro A3 c3 w3 ho3 hg3 _
                       have hb3 := app_below HB.out HO.out hg3 (Nat.le_refl _) HB.out.size
                       have O3 := Lib.hid ho3
                       have B3 := Lib.hid hb3
                       clear ho3 hg3 hb3 HO HB)
          go_roundw
          case rel => exact ⟨k + 1, m + q, A3, c3, by omega, by go_num, rfl, HQ, own_eq O3.out rfl (by rw [HFL.out, bv_append]), B3.out⟩
          case measure => simp [intOf]; omega
        · obtain rfl : n = k := by omega
          rw [List.take_of_length_le (by omega)] at ho
          have HO := Lib.hid ho
          have HB := Lib.hid hb
          clear ho hb
          go_wp2_with fail
          go_ret
          exact RetRow.mk rfl HO.out HB.out
end Go.Proofs.Ytnplhagfmfggcaa.Kc
/-
  The bytes of a super, as the code makes them.
-/
namespace Go.Proofs.Ytnplhagfmfggcaa.Su
open Go.RowKit Kd Kc
attribute [local go_sem ↓] Go.wp_at_zero Go.wp_at_succ
theorem rdB_threeU {W : World} (t : TypeId) {v1 v2 v3 : Value} {l1 l2 l3 : List UInt8} (h1 : IsB W.heap.size W v1 l1) (h2 : IsB W.heap.size W v2 l2) (h3 : IsB W.heap.size W v3 l3) :
    RdB (W.heap.size + 1) (W.alloc (.cells #[v1, v2, v3] t)) (some ⟨W.heap.size, 0, none⟩) [l1, l2, l3] := by
  have hb : Below W.heap.size W (W.alloc (.cells #[v1, v2, v3] t)) := (Below.refl _ _).alloc (Nat.le_refl _) _
  refine ⟨[v1, v2, v3], rfl, Rd.lit W t [v1, v2, v3], ?_⟩
  intro k v l hv hl
  match k with
  | 0 => cases hv; cases hl; exact (h1.below hb).more (by omega)
  | 1 => cases hv; cases hl; exact (h2.below hb).more (by omega)
  | 2 => cases hv; cases hl; exact (h3.below hb).more (by omega)
  | k + 3 => cases hv
/-- What Encode tells. -/
def bytP (s : Sp) : List UInt8 := if okP s then encP s else []
set_option maxRecDepth 100000 in
set_option maxHeartbeats 1600000 in
theorem uenc_any (s : Sp) (hs : s.ok) (w : World) : Calls Try.prog 45 #[spA s] w (RetRow 5 (bv (bytP s)) w) := by
  have HO0 := Lib.hid hs
  obtain ⟨w1, hw1⟩ : ∃ w1, w1 = w.alloc (.cells #[.int .u64 (s.v : Int), .int .i64 s.n, .int .u64 (s.t : Int)] 100) := ⟨_, rfl⟩
  have X1 := Lib.hid (show Blk w1 w.heap.size #[.int .u64 (s.v : Int), .int .i64 s.n, .int .u64 (s.t : Int)] 100 by rw [hw1]; exact heap_alloc_new _ _)
  have BW := Lib.hid (show Below w.heap.size w w1 by rw [hw1]; exact (Below.refl _ _).alloc (Nat.le_refl _) _)
  have HR := Lib.hid (fun W => right_any s W)
  unfold spA at HR
  unfold spA
  clear hs
  go_enter Try.func45, Try.ntmps45
  go_wp2_with fail
  rw [← hw1]
  clear hw1
  refine (HR.out w1).mono ?_
  rintro e w2 ⟨rfl, bw⟩
  clear HR
  have X2 := Lib.hid (X1.out.below bw)
  have BW2 := Lib.hid (BW.out.trans (bw.mono BW.out.size))
  clear X1 BW bw
  by_cases hok : okP s = true
  · have HB := Lib.hid (show bytP s = encP s by rw [bytP, if_pos hok])
    rw [hok]
    have h := of_decide_eq_true hok
    have n0 : 0 ≤ s.n := h.1
    have n1 : s.n < 18446744073709551616 := by omega
    have v1 : s.v < 18446744073709551616 := HO0.out.1
    have t1 : s.t < 18446744073709551616 := HO0.out.2.2
    have wn : IntKind.u64.wrap s.n = s.n := IntWalk.u64_in _ (by omega)
    clear h hok
    go_wp2_with fail
    refine wp_region_held_drew (S := fun w' => Blk w' w.heap.size #[.int .u64 (s.v : Int), .int .i64 s.n, .int .u64 (s.t : Int)] 100 ∧ Below w.heap.size w w') (by kernel_rfl) ⟨(show Blk (World.drew _) _ _ _ from X2.out), BW2.out.drew⟩ (fun hh => ?_)
    have HH := Lib.hid hh
    clear hh X2 BW2
    refine wpAnyH_take (i := 0) (v := ?va0) rfl (by kernel_rfl) (by kernel_rfl) (by kernel_rfl) (fun _ _ _ h => h) (Or.inl ⟨by rfl, fun w' _ => ?ya0⟩) HH.out ?_
    case ya0 => (go_simp; try with_reducible rfl)
    refine wpAnyH_take (i := 1) (v := .int .u64 (s.v : Int)) rfl (by kernel_rfl) (by kernel_rfl) (by kernel_rfl) (fun _ _ _ h => h) (Or.inl ⟨by rfl, fun w' hw' => ?ya1⟩) HH.out ?_
    case ya1 => (have c0 := hw'.1.cell 0; go_simp; try with_reducible rfl)
    try simp only [List.getElem_toArray, List.getElem_cons_succ, List.getElem_cons_zero, Act.put, List.setIfInBounds_toArray, List.set_cons_zero, List.set_cons_succ]
    refine wpAnyH_take (i := 3) (v := ?va3) rfl (by kernel_rfl) (by kernel_rfl) (by kernel_rfl) (fun _ _ _ h => h) (Or.inl ⟨by rfl, fun w' _ => ?ya3⟩) HH.out ?_
    case ya3 => (go_simp; try with_reducible rfl)
    refine wpAnyH_take (i := 4) (v := .int .i64 s.n) rfl (by kernel_rfl) (by kernel_rfl) (by kernel_rfl) (fun _ _ _ h => h) (Or.inl ⟨by rfl, fun w' hw' => ?ya4⟩) HH.out ?_
    case ya4 => (have c0 := hw'.1.cell 1; go_simp; try with_reducible rfl)
    try simp only [List.getElem_toArray, List.getElem_cons_succ, List.getElem_cons_zero, Act.put, List.setIfInBounds_toArray, List.set_cons_zero, List.set_cons_succ]
    refine wpAnyH_take (i := 5) (v := ?va5) rfl (by kernel_rfl) (by kernel_rfl) (by kernel_rfl) (fun _ _ _ h => h) (Or.inl ⟨by rfl, fun w' _ => ?ya5⟩) HH.out ?_
    case ya5 => (go_simp; try with_reducible rfl)
    try simp only [List.getElem_toArray, List.getElem_cons_succ, List.getElem_cons_zero, Act.put, List.setIfInBounds_toArray, List.set_cons_zero, List.set_cons_succ]
    refine wpAnyH_take (i := 7) (v := ?va7) rfl (by kernel_rfl) (by kernel_rfl) (by kernel_rfl) (fun _ _ _ h => h) (Or.inl ⟨by rfl, fun w' _ => ?ya7⟩) HH.out ?_
    case ya7 => (go_simp; try with_reducible rfl)
    refine wpAnyH_take (i := 8) (v := .int .u64 (s.t : Int)) rfl (by kernel_rfl) (by kernel_rfl) (by kernel_rfl) (fun _ _ _ h => h) (Or.inl ⟨by rfl, fun w' hw' => ?ya8⟩) HH.out ?_
    case ya8 => (have c0 := hw'.1.cell 2; go_simp; try with_reducible rfl)
    try simp only [List.getElem_toArray, List.getElem_cons_succ, List.getElem_cons_zero, Act.put, List.setIfInBounds_toArray, List.set_cons_zero, List.set_cons_succ]
    refine wpAnyH_ready (rs := [2]) (by kernel_rfl) (by simp) (AllReadyH.cons rfl (fun K hK => ?_) AllReadyH.nil)
    go_simp
    refine (Wi.wput_in (s.v : Int) 8 _ (by omega) (by omega) (by omega) (by omega)).mono ?_
    rintro e w1 ⟨A1, n1, c1, rfl, ho, bw⟩
    have O1 := Lib.hid (own_more ho HH.out.2.size)
    go_simp
    refine hK.out _ _ ⟨HH.out.1.below bw, HH.out.2.trans (bw.mono HH.out.2.size)⟩ (fun hh => ?_)
    have HH' := Lib.hid hh
    clear hh hK K HH ho bw
    have HH := Lib.hid HH'.out
    clear HH'
    try simp only [List.getElem_toArray, List.getElem_cons_succ, List.getElem_cons_zero, Act.put, List.setIfInBounds_toArray, List.set_cons_zero, List.set_cons_succ]
    refine wpAnyH_ready (rs := [6]) (by kernel_rfl) (by simp) (AllReadyH.cons rfl (fun K hK => ?_) AllReadyH.nil)
    go_simp
    refine (Wi.wput_in s.n 4 _ (by omega) (by omega) (by omega) (by omega)).mono ?_
    rintro e w2 ⟨A2, n2, c2, rfl, ho, bw⟩
    have O2 := Lib.hid (own_more ho HH.out.2.size)
    have P1 := Lib.hid (own_below O1.out bw)
    clear O1
    go_simp
    refine hK.out _ _ ⟨HH.out.1.below bw, HH.out.2.trans (bw.mono HH.out.2.size)⟩ (fun hh => ?_)
    have HH' := Lib.hid hh
    clear hh hK K HH ho bw
    have HH := Lib.hid HH'.out
    clear HH'
    try simp only [List.getElem_toArray, List.getElem_cons_succ, List.getElem_cons_zero, Act.put, List.setIfInBounds_toArray, List.set_cons_zero, List.set_cons_succ]
    refine wpAnyH_ready (rs := [9]) (by kernel_rfl) (by simp) (AllReadyH.cons rfl (fun K hK => ?_) AllReadyH.nil)
    go_simp
    refine (Wi.wput_in (s.t : Int) 2 _ (by omega) (by omega) (by omega) (by omega)).mono ?_
    rintro e w3 ⟨A3, n3, c3, rfl, ho, bw⟩
    have O3 := Lib.hid (own_more ho HH.out.2.size)
    have Q1 := Lib.hid (own_below P1.out bw)
    have Q2 := Lib.hid (own_below O2.out bw)
    clear P1 O2
    go_simp
    refine hK.out _ _ ⟨HH.out.1.below bw, HH.out.2.trans (bw.mono HH.out.2.size)⟩ (fun hh => ?_)
    have HH' := Lib.hid hh
    clear hh hK K HH ho bw
    have HH := Lib.hid HH'.out
    clear HH'
    try simp only [List.getElem_toArray, List.getElem_cons_succ, List.getElem_cons_zero, Act.put, List.setIfInBounds_toArray, List.set_cons_zero, List.set_cons_succ]
    have i1 := IsB.own Q1.out
    have i2 := IsB.own Q2.out
    have i3 := IsB.own O3.out
    have m1 := own_blen Q1.out
    have m2 := own_blen Q2.out
    have m3 := own_blen O3.out
    rw [Wi.putL_length] at m1 m2 m3
    have HRD := Lib.hid (fun t => rdB_threeU (W := w3) t i1 i2 i3)
    have hfl : [Wi.putL (s.v : Int).toNat (8 : Int).toNat, Wi.putL s.n.toNat (4 : Int).toNat, Wi.putL (s.t : Int).toNat (2 : Int).toNat].flatten = encP s := by
      rw [encP]; simp
    have hfn : [Wi.putL (s.v : Int).toNat (8 : Int).toNat, Wi.putL s.n.toNat (4 : Int).toNat, Wi.putL (s.t : Int).toNat (2 : Int).toNat].flatten.length ≤ 1000000 := by rw [hfl, encP_length]; omega
    obtain ⟨ls, hls⟩ : ∃ ls, ls = [Wi.putL (s.v : Int).toNat (8 : Int).toNat, Wi.putL s.n.toNat (4 : Int).toNat, Wi.putL (s.t : Int).toNat (2 : Int).toNat] := ⟨_, rfl⟩
    have hln : ls.length = 3 := by rw [hls]; rfl
    rw [← hls] at HRD hfl hfn
    have HFL := Lib.hid hfl
    have HFN := Lib.hid hfn
    have HLN := Lib.hid hln
    clear i1 i2 i3 m1 m2 m3 hls Q1 Q2 O3 hfl hfn hln
    refine wpAnyH_ready (rs := [10]) (by kernel_rfl) (by simp) (AllReadyH.cons rfl (fun K hK => ?_) AllReadyH.nil)
    go_simp
    obtain ⟨w5, hw5⟩ : ∃ w5, w5 = w3.alloc (.cells #[.slice A1 n1 c1, .slice A2 n2 c2, .slice A3 n3 c3] 81) := ⟨_, rfl⟩
    have bw : Below w3.heap.size w3 w5 := by rw [hw5]; exact (Below.refl _ _).alloc (Nat.le_refl _) _
    have hsz : w5.heap.size = w3.heap.size + 1 := by rw [hw5]; simp
    have HR5 := Lib.hid (show RdB w5.heap.size w5 (some ⟨w3.heap.size, 0, none⟩) ls by rw [hsz, hw5]; exact HRD.out _)
    rw [← hw5]
    clear hw5 HRD hsz
    refine hK.out _ _ ⟨HH.out.1.below bw, HH.out.2.trans (bw.mono HH.out.2.size)⟩ (fun hh => ?_)
    have HH' := Lib.hid hh
    clear hh hK K HH bw
    have HH := Lib.hid HH'.out
    clear HH'
    try simp only [List.getElem_toArray, List.getElem_cons_succ, List.getElem_cons_zero, Act.put, List.setIfInBounds_toArray, List.set_cons_zero, List.set_cons_succ]
    refine wpAnyH_ready (rs := [11]) (by kernel_rfl) (by simp) (AllReadyH.cons rfl (fun K hK => ?_) AllReadyH.nil)
    go_simp
    refine (concat_any _ 3 3 ls _ HLN.out (Nat.le_refl _) HR5.out (by omega) HFN.out).mono ?_
    rintro e w6 ⟨A6, n6, c6, rfl, ho, bw⟩
    rw [HFL.out] at ho
    have HO := Lib.hid (own_more ho HH.out.2.size)
    go_simp
    refine hK.out _ _ ⟨HH.out.1.below bw, HH.out.2.trans (bw.mono HH.out.2.size)⟩ (fun hh => ?_)
    have HH' := Lib.hid hh
    clear hh hK K HH bw ho
    have HH := Lib.hid HH'.out
    clear HH'
    try simp only [List.getElem_toArray, List.getElem_cons_succ, List.getElem_cons_zero, Act.put, List.setIfInBounds_toArray, List.set_cons_zero, List.set_cons_succ]
    refine wpAnyH_take (i := 12) (v := ?va12) rfl (by kernel_rfl) (by kernel_rfl) (by kernel_rfl) (fun _ _ _ h => h) (Or.inl ⟨by rfl, fun w' _ => ?ya12⟩) HH.out ?_
    case ya12 => (go_simp; try with_reducible rfl)
    try simp only [List.getElem_toArray, List.getElem_cons_succ, List.getElem_cons_zero, Act.put, List.setIfInBounds_toArray, List.set_cons_zero, List.set_cons_succ]
    refine wpAnyH_done (by kernel_rfl) ?_ _
    go_wp2_with fail
    go_ret
    rw [HB.out]
    exact RetRow.mk rfl HO.out HH.out.2
  · have hok' : okP s = false := by simpa using hok
    rw [hok']
    go_wp2_with fail
    go_ret
    rw [bytP, hok', if_neg (by simp)]
    exact ⟨_, _, _, rfl, World.ownsRow_nil _ _ _ _, BW2.out⟩
end Go.Proofs.Ytnplhagfmfggcaa.Su
/-
  One device, of a power of its own, or none; two of them beside each other; two of one power.
-/
namespace Go.Proofs.Ytnplhagfmfggcaa.Mi
open Go.RowKit Kd
/-- One device. -/
structure Uno where
  L : Laid
  ptr : Option Addr
  rd : L.St → Int → Int × List UInt8
  wr : L.St → Int → List UInt8 → Int × L.St
  fl : L.St → Int × L.St
  len : L.St → Nat
  most : L.St → Nat
  len_le : ∀ {w s F}, L.At w s F → len s ≤ 4096
  rd_len : ∀ {w s F n}, L.At w s F → (rd s n).2.length = 128
  wr_most : ∀ {s n x}, most (wr s n x).2 ≤ most s + 1
  fl_most : ∀ {s}, most (fl s).2 ≤ most s
  crd : ∀ {w s F}, L.At w s F → ∀ n, Calls Try.prog 30 #[.pointer ptr, .int .i64 n] w (RetB (.tuple #[.agg (bva (rd s n).2), .int .i64 (rd s n).1]) w)
  cwr : ∀ {w s F}, L.At w s F → most s < 1000000 → ∀ n x, x.length = 128 → Calls Try.prog 57 #[.pointer ptr, .int .i64 n, .agg (bva x)] w (RetA L (.int .i64 (wr s n x).1) (wr s n x).2 F w)
  cfl : ∀ {w s F}, L.At w s F → Calls Try.prog 61 #[.pointer ptr] w (RetA L (.int .i64 (fl s).1) (fl s).2 F w)
  clen : ∀ {w s F}, L.At w s F → Calls Try.prog 20 #[.pointer ptr] w (RetB (.int .i64 (len s : Int)) w)
/-! ### How many wait -/
theorem count_wtM (S : Sy) (j : Nat) : (S.count.at j).wt.length ≤ (S.at j).wt.length := by
  unfold Sy.count
  split
  · show ((S.ds.map Dv.fall).getD j noDv).wt.length ≤ (S.ds.getD j noDv).wt.length
    rw [List.getD_eq_getElem?_getD, List.getD_eq_getElem?_getD, List.getElem?_map]
    cases h : S.ds[j]? with
    | none => exact Nat.le_refl _
    | some d =>
      show d.fall.wt.length ≤ d.wt.length
      unfold Dv.fall; split
      · exact Nat.le_refl _
      · exact Nat.zero_le _
  · exact Nat.le_refl _
theorem put_wtM (S : Sy) (k : Nat) (d : Dv) (j : Nat) : ((S.put k d).at j).wt.length ≤ max d.wt.length (S.at j).wt.length := by
  show ((S.ds.set k d).getD j noDv).wt.length ≤ max _ (S.ds.getD j noDv).wt.length
  rw [List.getD_eq_getElem?_getD, List.getD_eq_getElem?_getD, List.getElem?_set]
  split
  · split
    · exact Nat.le_max_left _ _
    · rename_i h1 h2
      subst h1
      rw [List.getElem?_eq_none (by omega)]; exact Nat.zero_le _
  · exact Nat.le_max_right _ _
theorem write_wtM (S : Sy) (k : Nat) (n : Int) (x : List UInt8) (m : Nat) (h : ∀ j, (S.at j).wt.length ≤ m) (j : Nat) : ((S.write k n x).2.at j).wt.length ≤ m + 1 := by
  unfold Sy.write; dsimp only; split
  · exact Nat.le_succ_of_le (h j)
  · refine Nat.le_trans (count_wtM _ j) (Nat.le_trans (put_wtM _ _ _ j) (Nat.max_le.2 ⟨?_, Nat.le_succ_of_le (h j)⟩))
    show ((S.at k).wt ++ _).length ≤ _
    rw [List.length_append]; have := h k; simp; omega
theorem flush_wtM (S : Sy) (k : Nat) (m : Nat) (h : ∀ j, (S.at j).wt.length ≤ m) (j : Nat) : ((S.flush k).2.at j).wt.length ≤ m := by
  unfold Sy.flush; dsimp only; split
  · exact h j
  · split
    · exact Nat.le_trans (count_wtM _ j) (h j)
    · split
      · exact Nat.le_trans (count_wtM _ j) (h j)
      · exact Nat.le_trans (put_wtM _ _ _ j) (Nat.max_le.2 ⟨Nat.zero_le _, Nat.le_trans (count_wtM _ j) (h j)⟩)
theorem write_dsM (S : Sy) (k : Nat) (n : Int) (x : List UInt8) : (S.write k n x).2.ds.length = S.ds.length := by
  unfold Sy.write; dsimp only; split
  · rfl
  · rw [count_length, len_put]
theorem flush_dsM (S : Sy) (k : Nat) : (S.flush k).2.ds.length = S.ds.length := by
  unfold Sy.flush; dsimp only; split
  · rfl
  · split
    · exact count_length S
    · split
      · exact count_length S
      · rw [len_put, count_length]
theorem at_far {S : Sy} {j : Nat} (h : S.ds.length ≤ j) : S.at j = noDv := by
  show S.ds.getD j noDv = noDv
  rw [List.getD_eq_getElem?_getD, List.getElem?_eq_none h]; rfl
/-! ### The devices of one power -/
/-- k devices of one power, as they are laid. -/
def SysL (p : Nat) (gs : List Nat) (k : Nat) : Laid where
  St := Sy
  At w S F := Kd.Sys w p gs S F ∧ S.ds.length = k
  but h hb hd := ⟨h.1.but hb hd, h.2⟩
  lt h := h.1.lt
theorem RetS.reta {p k : Nat} {gs : List Nat} {S : Sy} {F : Nat → Prop} {w w' : World} {v : Value} {e : Ending} (hk : S.ds.length = k) (h : RetS v p gs S F w e w') : RetA (SysL p gs k) v S F w e w' := by
  obtain ⟨rfl, F', h1, h2, h3⟩ := h
  exact ⟨rfl, F', ⟨h1, hk⟩, h2, h3⟩
theorem sys_okM {w : World} {p : Nat} {gs : List Nat} {S : Sy} {F : Nat → Prop} (h : Kd.Sys w p gs S F) {k : Nat} (hk : k < S.ds.length) : (S.at k).ok := by
  obtain ⟨bs, Fs, FA, fc, lf, h, _, _⟩ := h
  obtain ⟨A, n, c, W, m, e, M, D, hd, _⟩ := h.dev k hk
  exact hd.ok
theorem few_one {S : Sy} {m : Nat} (h1 : S.ds.length = 1) (h : (S.at 0).wt.length ≤ m) (j : Nat) : (S.at j).wt.length ≤ m := by
  rcases j with _ | j
  · exact h
  · rw [at_far (by omega)]; exact Nat.zero_le _
def mostS (S : Sy) : Nat := if S.ds.length = 1 then (S.at 0).wt.length else 0
theorem mostS_write (S : Sy) (n : Int) (x : List UInt8) : mostS (S.write 0 n x).2 ≤ mostS S + 1 := by
  unfold mostS
  rw [write_dsM]
  split
  · rename_i h1
    exact write_wtM S 0 n x _ (few_one h1 (Nat.le_refl _)) 0
  · exact Nat.zero_le _
theorem mostS_flush (S : Sy) : mostS (S.flush 0).2 ≤ mostS S := by
  unfold mostS
  rw [flush_dsM]
  split
  · rename_i h1
    exact flush_wtM S 0 _ (few_one h1 (Nat.le_refl _)) 0
  · exact Nat.le_refl _
/-- A device of a power of its own. -/
def uno (p g : Nat) : Uno where
  L := SysL p [g] 1
  ptr := some ⟨g, 0, none⟩
  rd S n := (refuseN S.p (S.at 0) n, readS S.p (S.at 0) n)
  wr S n x := S.write 0 n x
  fl S := S.flush 0
  len S := (S.at 0).st.length
  most S := mostS S
  len_le h := (sys_okM h.1 (k := 0) (by rw [h.2]; omega)).len
  rd_len h := readS_length (sys_okM h.1 (k := 0) (by rw [h.2]; omega)) _
  wr_most {S n x} := mostS_write S n x
  fl_most {S} := mostS_flush S
  crd h n := dread_any h.1 0 (by rw [h.2]; omega) n
  cwr {w S F} h hm n x hx := (write_any h.1 0 (by rw [h.2]; omega) n x hx (by have h1 : mostS S = (Sy.at S 0).wt.length := if_pos h.2
                                                                              rw [← h1]; exact hm)).mono fun _ _ hr => RetS.reta ((write_dsM S 0 n x).trans h.2) hr
  cfl {w S F} h := (flush_any h.1 0 (by rw [h.2]; omega)).mono fun _ _ hr => RetS.reta ((flush_dsM S 0).trans h.2) hr
  clen h := (len_sys h.1 0 (by rw [h.2]; omega)).mono fun _ _ hr => by
    obtain ⟨rfl, rfl⟩ := hr
    exact ⟨rfl, Below.refl _ _⟩
/-- A device that isn't there at all. -/
def unoNil : Uno where
  L := { St := Unit, At := fun w _ F => ∀ q, F q → q < w.heap.size, but := fun h hb _ q hq => Nat.lt_of_lt_of_le (h q hq) hb.size, lt := fun h => h }
  ptr := none
  rd _ _ := (1, zeroS)
  wr s _ _ := (1, s)
  fl s := (1, s)
  len _ := 0
  most _ := 0
  len_le _ := Nat.zero_le _
  rd_len _ := zeroS_length
  wr_most := Nat.zero_le _
  fl_most := Nat.le_refl _
  crd {w s F} _ n := dread_nil w n
  cwr {w s F} h _ n x _ := (dwrite_nil w n x).mono fun _ _ hr => RetB.reta h hr
  cfl {w s F} h := (dflush_nil w).mono fun _ _ hr => RetB.reta h (by obtain ⟨rfl, rfl⟩ := hr; exact ⟨rfl, Below.refl _ _⟩)
  clen _ := len_nil.mono fun _ _ hr => by
    obtain ⟨rfl, rfl⟩ := hr
    exact ⟨rfl, Below.refl _ _⟩
/-! ### Two beside each other -/
def pairL (A B : Laid) : Laid where
  St := A.St × B.St
  At w s F := ∃ F1 F2, A.At w s.1 F1 ∧ B.At w s.2 F2 ∧ (∀ q, F1 q → F2 q → False) ∧ (∀ q, F1 q → F q) ∧ (∀ q, F2 q → F q) ∧ ∀ q, F q → q < w.heap.size
  but := fun ⟨F1, F2, h1, h2, h3, h4, h5, h6⟩ hb hd => ⟨F1, F2, A.but h1 hb (fun q hq => hd q (h4 q hq)), B.but h2 hb (fun q hq => hd q (h5 q hq)), h3, h4, h5, fun q hq => Nat.lt_of_lt_of_le (h6 q hq) hb.size⟩
  lt := fun ⟨_, _, _, _, _, _, _, h6⟩ => h6
section
variable {A B : Laid} {w w' : World} {s : A.St × B.St} {F : Nat → Prop}
theorem pair_fst (h : (pairL A B).At w s F) : ∃ F1, A.At w s.1 F1 ∧ ∀ {v : Value} {a : A.St} {e w'}, RetA A v a F1 w e w' → RetA (pairL A B) v (a, s.2) F w e w' := by
  obtain ⟨F1, F2, h1, h2, h3, h4, h5, h6⟩ := h
  refine ⟨F1, h1, ?_⟩
  rintro v a e w' ⟨rfl, F', hm⟩
  refine ⟨rfl, fun q => F q ∨ F' q, ⟨F', F2, hm.at_, B.but h2 hm.but (fun q a b => h3 q b a), ?_, fun q hq => .inr hq, fun q hq => .inl (h5 q hq), ?_⟩, ?_, hm.but.mono h4⟩
  · intro q a b
    rcases hm.new q a with h7 | h7
    · exact h3 q h7 b
    · have := B.lt h2 q b; omega
  · rintro q (hq | hq)
    · exact Nat.lt_of_lt_of_le (h6 q hq) hm.but.size
    · exact hm.lt q hq
  · rintro q (hq | hq)
    · exact .inl hq
    · exact (hm.new q hq).imp (h4 q) id
theorem pair_snd (h : (pairL A B).At w s F) : ∃ F2, B.At w s.2 F2 ∧ ∀ {v : Value} {b : B.St} {e w'}, RetA B v b F2 w e w' → RetA (pairL A B) v (s.1, b) F w e w' := by
  obtain ⟨F1, F2, h1, h2, h3, h4, h5, h6⟩ := h
  refine ⟨F2, h2, ?_⟩
  rintro v b e w' ⟨rfl, F', hm⟩
  refine ⟨rfl, fun q => F q ∨ F' q, ⟨F1, F', A.but h1 hm.but (fun q a b => h3 q a b), hm.at_, ?_, fun q hq => .inl (h4 q hq), fun q hq => .inr hq, ?_⟩, ?_, hm.but.mono h5⟩
  · intro q a b
    rcases hm.new q b with h7 | h7
    · exact h3 q a h7
    · have := A.lt h1 q a; omega
  · rintro q (hq | hq)
    · exact Nat.lt_of_lt_of_le (h6 q hq) hm.but.size
    · exact hm.lt q hq
  · rintro q (hq | hq)
    · exact .inl hq
    · exact (hm.new q hq).imp (h5 q) id
end
def duo (U V : Uno) : Duo where
  L := pairL U.L V.L
  ptr i := if i = 0 then U.ptr else V.ptr
  rd s i n := if i = 0 then U.rd s.1 n else V.rd s.2 n
  wr s i n x := if i = 0 then ((U.wr s.1 n x).1, ((U.wr s.1 n x).2, s.2)) else ((V.wr s.2 n x).1, (s.1, (V.wr s.2 n x).2))
  fl s i := if i = 0 then ((U.fl s.1).1, ((U.fl s.1).2, s.2)) else ((V.fl s.2).1, (s.1, (V.fl s.2).2))
  len s i := if i = 0 then U.len s.1 else V.len s.2
  most s := max (U.most s.1) (V.most s.2)
  len_le {w s F i} h hi := by
    obtain ⟨F1, F2, h1, h2, _⟩ := h
    rcases (show i = 0 ∨ i = 1 by omega) with rfl | rfl
    · exact U.len_le h1
    · exact V.len_le h2
  rd_len {w s F i n} h hi := by
    obtain ⟨F1, F2, h1, h2, _⟩ := h
    rcases (show i = 0 ∨ i = 1 by omega) with rfl | rfl
    · exact U.rd_len h1
    · exact V.rd_len h2
  wr_most {s i n x} hi := by
    have h1 := U.wr_most (s := s.1) (n := n) (x := x)
    have h2 := V.wr_most (s := s.2) (n := n) (x := x)
    rcases (show i = 0 ∨ i = 1 by omega) with rfl | rfl
    · show max (U.most (U.wr s.1 n x).2) (V.most s.2) ≤ max (U.most s.1) (V.most s.2) + 1; omega
    · show max (U.most s.1) (V.most (V.wr s.2 n x).2) ≤ max (U.most s.1) (V.most s.2) + 1; omega
  fl_most {s i} hi := by
    have h1 := U.fl_most (s := s.1)
    have h2 := V.fl_most (s := s.2)
    rcases (show i = 0 ∨ i = 1 by omega) with rfl | rfl
    · show max (U.most (U.fl s.1).2) (V.most s.2) ≤ max (U.most s.1) (V.most s.2); omega
    · show max (U.most s.1) (V.most (V.fl s.2).2) ≤ max (U.most s.1) (V.most s.2); omega
  crd {w s F i} h hi n := by
    obtain ⟨F1, F2, h1, h2, _⟩ := h
    rcases (show i = 0 ∨ i = 1 by omega) with rfl | rfl
    · exact U.crd h1 n
    · exact V.crd h2 n
  cwr {w s F i} h hi hm n x hx := by
    rcases (show i = 0 ∨ i = 1 by omega) with rfl | rfl
    · obtain ⟨F1, h1, hl⟩ := pair_fst h
      exact (U.cwr h1 (Nat.lt_of_le_of_lt (Nat.le_max_left _ _) hm) n x hx).mono fun _ _ hr => hl hr
    · obtain ⟨F1, h1, hl⟩ := pair_snd h
      exact (V.cwr h1 (Nat.lt_of_le_of_lt (Nat.le_max_right _ _) hm) n x hx).mono fun _ _ hr => hl hr
  cfl {w s F i} h hi := by
    rcases (show i = 0 ∨ i = 1 by omega) with rfl | rfl
    · obtain ⟨F1, h1, hl⟩ := pair_fst h
      exact (U.cfl h1).mono fun _ _ hr => hl hr
    · obtain ⟨F1, h1, hl⟩ := pair_snd h
      exact (V.cfl h1).mono fun _ _ hr => hl hr
  clen {w s F i} h hi := by
    obtain ⟨F1, F2, h1, h2, _⟩ := h
    rcases (show i = 0 ∨ i = 1 by omega) with rfl | rfl
    · exact U.clen h1
    · exact V.clen h2
end Go.Proofs.Ytnplhagfmfggcaa.Mi
/-
  A byte that rots, twice. No program.
-/
namespace Go.Proofs.Ytnplhagfmfggcaa.Kd
theorem rotS_get {s : List UInt8} {a j : Nat} {x : UInt8} (hj : j < s.length) : (rotS s a x).getD j 0 = if j = a then s.getD j 0 ^^^ x else s.getD j 0 := by
  unfold rotS
  rw [List.getD_eq_getElem?_getD, List.getElem?_set]
  by_cases h : a = j
  · subst h; rw [if_pos rfl, if_pos hj, if_pos rfl]; rfl
  · rw [if_neg h, if_neg (fun e => h e.symm), List.getD_eq_getElem?_getD]
theorem rotL_get {st : List (List UInt8)} {n a i : Nat} {x : UInt8} (hi : i < st.length) : (rotL st n a x).getD i zeroS = if i = n then rotS (st.getD i zeroS) a x else st.getD i zeroS := by
  unfold rotL
  rw [List.getD_eq_getElem?_getD, List.getElem?_set]
  by_cases h : n = i
  · subst h; rw [if_pos rfl, if_pos hi, if_pos rfl]; rfl
  · rw [if_neg h, if_neg (fun e => h e.symm), List.getD_eq_getElem?_getD]
theorem rotS_back (s : List UInt8) (a : Nat) (x : UInt8) (ha : a < s.length) : rotS (rotS s a x) a x = s := by
  unfold rotS
  rw [List.set_set]
  have h1 : (s.set a (s.getD a 0 ^^^ x)).getD a 0 = s.getD a 0 ^^^ x := by
    rw [List.getD_eq_getElem?_getD, List.getElem?_set, if_pos rfl, if_pos ha]; rfl
  rw [h1, UInt8.xor_assoc, UInt8.xor_self, UInt8.xor_zero, List.getD_eq_getElem?_getD, List.getElem?_eq_getElem ha]
  exact List.set_getElem_self ..
theorem rotL_back (st : List (List UInt8)) (n a : Nat) (x : UInt8) (hn : n < st.length) (ha : a < (st.getD n zeroS).length) : rotL (rotL st n a x) n a x = st := by
  have h1 : (rotL st n a x).getD n zeroS = rotS (st.getD n zeroS) a x := by rw [rotL_get hn, if_pos rfl]
  rw [rotL, h1, rotS_back _ _ _ ha]
  unfold rotL
  rw [List.set_set, List.getD_eq_getElem?_getD, List.getElem?_eq_getElem hn]
  exact List.set_getElem_self ..
variable {S : Sy} {k : Nat} {i a : Int} {x : UInt8}
theorem rot_p : (S.rot k i a x).p = S.p := by unfold Sy.rot; split <;> rfl
theorem rot_len : (S.rot k i a x).ds.length = S.ds.length := by unfold Sy.rot; split; exact len_put _; rfl
/-- What is stable behind it. -/
theorem rot_at (hk : k < S.ds.length) : ((S.rot k i a x).at k).st = if hasByte (S.at k).st.length i a then rotL (S.at k).st i.toNat a.toNat x else (S.at k).st := by
  unfold Sy.rot
  split
  · rw [at_put _ hk, if_pos rfl]; rfl
  · rfl
theorem rot_at_len (hk : k < S.ds.length) : ((S.rot k i a x).at k).st.length = (S.at k).st.length := by
  rw [rot_at hk]; split
  · exact rotL_length
  · rfl
theorem hasByte_iff {n : Nat} {i a : Int} : hasByte n i a = true ↔ 0 ≤ i ∧ i < (n : Int) ∧ 0 ≤ a ∧ a < 128 := by
  unfold hasByte; simp only [Bool.and_eq_true, decide_eq_true_eq, and_assoc]
/-- Twice: as it was. -/
theorem rot_twice (hk : k < S.ds.length) (h3 : ∀ s ∈ (S.at k).st, s.length = 128) : (((S.rot k i a x).rot k i a x).at k).st = (S.at k).st := by
  rw [rot_at (by rw [rot_len]; exact hk), rot_at_len hk, rot_at hk]
  by_cases h : hasByte (S.at k).st.length i a = true
  · rw [if_pos h, if_pos h]
    have := hasByte_iff.1 h
    exact rotL_back _ _ _ _ (by omega) (by rw [getD_ok h3]; omega)
  · rw [if_neg h, if_neg h]
/-- What stands at a place behind it. -/
theorem rot_byte (hk : k < S.ds.length) (h3 : ∀ s ∈ (S.at k).st, s.length = 128) {u v : Nat} (hu : u < (S.at k).st.length) (hv : v < 128) :
    ((((S.rot k i a x).at k).st.getD u zeroS).getD v 0) = if hasByte (S.at k).st.length i a = true ∧ (u : Int) = i ∧ (v : Int) = a then ((S.at k).st.getD u zeroS).getD v 0 ^^^ x else ((S.at k).st.getD u zeroS).getD v 0 := by
  rw [rot_at hk]
  by_cases h : hasByte (S.at k).st.length i a = true
  · have hb := hasByte_iff.1 h
    rw [if_pos h, rotL_get hu]
    by_cases h1 : u = i.toNat
    · rw [if_pos h1, rotS_get (by rw [getD_ok h3]; exact hv)]
      by_cases h2 : v = a.toNat
      · rw [if_pos h2, if_pos ⟨h, by omega, by omega⟩]
      · rw [if_neg h2, if_neg (fun e => h2 (by omega))]
    · rw [if_neg h1, if_neg (fun e => h1 (by omega))]
  · rw [if_neg h, if_neg (fun e => h e.1)]
end Go.Proofs.Ytnplhagfmfggcaa.Kd
/-
  What is seen of a device whose power never fails: its sectors as they are read, and whether it is out. No program.
-/
namespace Go.Proofs.Ytnplhagfmfggcaa.Mi
open Kd
theorem count_plain {S : Sy} (h : S.p = ⟨false, -1⟩) : S.count = S := by
  obtain ⟨P, ds⟩ := S
  replace h : P = ⟨false, -1⟩ := h
  subst h; rfl
/-- A device's sectors, as it reads them, whether it is out, and at most how many writes wait. -/
structure See (S : Sy) (L : List (List UInt8)) (g : Bool) (m : Nat) : Prop where
  ds : S.ds.length = 1
  p : S.p = ⟨false, -1⟩
  len : (S.at 0).st.length = L.length
  now : ∀ k, k < L.length → (S.at 0).now k = L.getD k zeroS
  gone : (S.at 0).gone = g
  lies : (S.at 0).lies = false
  few : (S.at 0).wt.length ≤ m
section
variable {S : Sy} {L : List (List UInt8)} {g : Bool} {m : Nat}
theorem See.more (h : See S L g m) {m' : Nat} (hm : m ≤ m') : See S L g m' := ⟨h.ds, h.p, h.len, h.now, h.gone, h.lies, Nat.le_trans h.few hm⟩
theorem see_new (n : Nat) (hn : n ≤ 4096) : See (S0.new (n : Int)) (List.replicate n zeroS) false 0 := by
  have hc : clampN (n : Int) = n := by unfold clampN; omega
  have h1 : (S0.new (n : Int)).at 0 = newDv n := by rw [Sy.new, hc]; rfl
  refine ⟨rfl, rfl, by rw [h1, List.length_replicate]; exact List.length_replicate, fun k hk => ?_, by rw [h1]; rfl, by rw [h1]; rfl, by rw [h1]; exact Nat.le_refl _⟩
  rw [h1]; rfl
theorem See.refuse (h : See S L g m) (n : Int) : refuseN S.p (S.at 0) n = if g then 13 else if n < 0 ∨ (L.length : Int) ≤ n then 2 else 0 := by
  rw [refuseN, h.p, h.gone, h.len]; rfl
theorem See.read (h : See S L g m) (n : Int) : readS S.p (S.at 0) n = if (g = false ∧ 0 ≤ n ∧ n < (L.length : Int)) then L.getD n.toNat zeroS else zeroS := by
  rw [readS, h.refuse]
  cases g with
  | true => simp
  | false =>
    by_cases hc : n < 0 ∨ (L.length : Int) ≤ n
    · rw [if_neg (show ¬ ((if false = true then (13 : Int) else if n < 0 ∨ (L.length : Int) ≤ n then 2 else 0) = 0) by rw [if_neg (by simp), if_pos hc]; omega), if_neg (fun h => by omega)]
    · rw [if_pos (show (if false = true then (13 : Int) else if n < 0 ∨ (L.length : Int) ≤ n then 2 else 0) = 0 by rw [if_neg (by simp), if_neg hc]), if_pos ⟨rfl, by omega, by omega⟩]
      exact h.now _ (by omega)
theorem See.write_no (h : See S L g m) {n : Int} {x : List UInt8} (hn : ¬ (g = false ∧ 0 ≤ n ∧ n < (L.length : Int))) : S.write 0 n x = (if g then 13 else 2, S) := by
  have hr : refuseN S.p (S.at 0) n = if g then 13 else 2 := by
    rw [h.refuse]
    cases g with
    | true => rfl
    | false =>
      have hc : n < 0 ∨ (L.length : Int) ≤ n := by
        by_cases h1 : n < 0
        · exact .inl h1
        · by_cases h2 : n < (L.length : Int)
          · exact absurd ⟨rfl, by omega, h2⟩ hn
          · exact .inr (by omega)
      show (if false = true then (13 : Int) else if n < 0 ∨ (L.length : Int) ≤ n then 2 else 0) = 2
      rw [if_neg (by simp), if_pos hc]
  rw [Kd.write_no (by rw [hr]; cases g <;> simp), hr]
theorem See.write_yes (h : See S L g m) {k : Nat} {x : List UInt8} (hg : g = false) (hk : k < L.length) : (S.write 0 (k : Int) x).1 = 0 ∧ See (S.write 0 (k : Int) x).2 (L.set k x) g (m + 1) := by
  have hr : refuseN S.p (S.at 0) (k : Int) = 0 := by rw [h.refuse, hg, if_neg (by simp), if_neg (by omega)]
  have hw := Kd.write_yes (s := x) hr
  have hp : S.p.fails = false := by rw [h.p]; rfl
  have hd0 : 0 < S.ds.length := by rw [h.ds]; omega
  have hpp : (S.put 0 ((S.at 0).add k x)).p = ⟨false, -1⟩ := h.p
  rw [hp, count_plain hpp] at hw
  rw [hw]
  have ha : (S.put 0 ((S.at 0).add k x)).at 0 = (S.at 0).add k x := by rw [at_put _ hd0, if_pos rfl]
  refine ⟨rfl, by rw [len_put]; exact h.ds, hpp, by rw [ha, List.length_set]; exact h.len, fun j hj => ?_, by rw [ha]; exact h.gone, by rw [ha]; exact h.lies, ?_⟩
  · rw [List.length_set] at hj
    rw [ha, set_getD _ _ _ _ hj]
    show nowL (S.at 0).st ((S.at 0).wt ++ [(k, x)]) j = _
    rw [now_snoc]
    split
    · rfl
    · exact h.now j hj
  · rw [ha]
    show ((S.at 0).wt ++ [(k, x)]).length ≤ m + 1
    rw [List.length_append]; have := h.few; simp; exact this
theorem See.flush_no (h : See S L g m) (hg : g = true) : S.flush 0 = (13, S) := by
  unfold Sy.flush; dsimp only; rw [h.p, h.gone, hg]; rfl
theorem See.flush_yes (h : See S L g m) (hg : g = false) : (S.flush 0).1 = 0 ∧ See (S.flush 0).2 L g 0 := by
  have hd0 : 0 < S.ds.length := by rw [h.ds]; omega
  have hp : S.p.fails = false := by rw [h.p]; rfl
  have hw : S.flush 0 = (0, S.put 0 { S.at 0 with st := flushL (S.at 0).st (S.at 0).wt, wt := [] }) := by
    unfold Sy.flush; dsimp only
    rw [if_neg (by rw [h.p, h.gone, hg]; simp), hp, if_neg (by simp), h.lies, if_neg (by simp), count_plain h.p]
  have ha : (S.put 0 { S.at 0 with st := flushL (S.at 0).st (S.at 0).wt, wt := [] }).at 0 = { S.at 0 with st := flushL (S.at 0).st (S.at 0).wt, wt := [] } := by rw [at_put _ hd0, if_pos rfl]
  rw [hw]
  refine ⟨rfl, by rw [len_put]; exact h.ds, h.p, by rw [ha]; exact (flush_length _ _).trans h.len, fun j hj => ?_, by rw [ha]; exact h.gone, by rw [ha]; exact h.lies, by rw [ha]; exact Nat.le_refl _⟩
  rw [ha]
  show nowL (flushL (S.at 0).st (S.at 0).wt) [] j = _
  rw [Kd.flush_nil, flush_get _ _ _ (by rw [h.len]; exact hj)]
  exact h.now j hj
theorem See.dry (h : See S L g 0) : (S.at 0).wt = [] := List.length_eq_zero_iff.1 (Nat.le_zero.1 h.few)
theorem See.stable (h : See S L g 0) : (S.at 0).st = L := by
  apply List.ext_getElem?
  intro k
  by_cases hk : k < L.length
  · have h1 := h.now k hk
    rw [Dv.now, h.dry, Kd.flush_nil, List.getD_eq_getElem?_getD, List.getD_eq_getElem?_getD, List.getElem?_eq_getElem (by rw [h.len]; exact hk), List.getElem?_eq_getElem hk] at h1
    rw [List.getElem?_eq_getElem (by rw [h.len]; exact hk), List.getElem?_eq_getElem hk]
    exact congrArg some h1
  · rw [List.getElem?_eq_none (by rw [h.len]; omega), List.getElem?_eq_none (by omega)]
theorem See.out (h : See S L g 0) (on : Bool) : See (S.put 0 ((S.at 0).out on)) L on 0 := by
  have hd0 : 0 < S.ds.length := by rw [h.ds]; omega
  have ha : (S.put 0 ((S.at 0).out on)).at 0 = (S.at 0).out on := by rw [at_put _ hd0, if_pos rfl]
  have hw : ((S.at 0).out on).wt = [] := by show (if on then [] else (S.at 0).wt) = []; rw [h.dry]; split <;> rfl
  refine ⟨by rw [len_put]; exact h.ds, h.p, by rw [ha]; exact h.len, fun j hj => ?_, by rw [ha]; rfl, by rw [ha]; exact h.lies, by rw [ha, hw]; exact Nat.le_refl _⟩
  rw [ha, Dv.now, hw]
  show nowL (S.at 0).st [] j = _
  rw [← h.now j hj, Dv.now, h.dry]
end
end Go.Proofs.Ytnplhagfmfggcaa.Mi
/-
  Two devices of one power that never fails: as they are laid, and what is seen of each.
-/
namespace Go.Proofs.Ytnplhagfmfggcaa.Mu
open Go.RowKit Kd Mi
def most2 (S : Sy) : Nat := max (S.at 0).wt.length (S.at 1).wt.length
theorem few_two {S : Sy} (h : S.ds.length = 2) (j : Nat) : (S.at j).wt.length ≤ most2 S := by
  rcases j with _ | _ | j
  · exact Nat.le_max_left _ _
  · exact Nat.le_max_right _ _
  · rw [at_far (by omega)]; exact Nat.zero_le _
def mostD (S : Sy) : Nat := if S.ds.length = 2 then most2 S else 0
theorem mostD_write (S : Sy) (i : Nat) (n : Int) (x : List UInt8) : mostD (S.write i n x).2 ≤ mostD S + 1 := by
  unfold mostD
  rw [write_dsM]
  split
  · rename_i h
    exact Nat.max_le.2 ⟨write_wtM S i n x _ (few_two h) 0, write_wtM S i n x _ (few_two h) 1⟩
  · exact Nat.zero_le _
theorem mostD_flush (S : Sy) (i : Nat) : mostD (S.flush i).2 ≤ mostD S := by
  unfold mostD
  rw [flush_dsM]
  split
  · rename_i h
    exact Nat.max_le.2 ⟨flush_wtM S i _ (few_two h) 0, flush_wtM S i _ (few_two h) 1⟩
  · exact Nat.le_refl _
theorem ptr2 {g1 g2 i : Nat} (hi : i < 2) : (if i = 0 then some (⟨g1, 0, none⟩ : Addr) else some ⟨g2, 0, none⟩) = some ⟨[g1, g2].getD i 0, 0, none⟩ := by
  rcases (show i = 0 ∨ i = 1 by omega) with rfl | rfl <;> rfl
/-- Two devices of one power. -/
def one (p g1 g2 : Nat) : Duo where
  L := SysL p [g1, g2] 2
  ptr i := if i = 0 then some ⟨g1, 0, none⟩ else some ⟨g2, 0, none⟩
  rd S i n := (refuseN S.p (S.at i) n, readS S.p (S.at i) n)
  wr S i n x := S.write i n x
  fl S i := S.flush i
  len S i := (S.at i).st.length
  most S := mostD S
  len_le {w s F i} h hi := (sys_okM h.1 (k := i) (by rw [h.2]; exact hi)).len
  rd_len {w s F i n} h hi := readS_length (sys_okM h.1 (k := i) (by rw [h.2]; exact hi)) _
  wr_most {S i n x} _ := mostD_write S i n x
  fl_most {S i} _ := mostD_flush S i
  crd {w s F i} h hi n := by rw [ptr2 hi]; exact dread_any h.1 i (by rw [h.2]; exact hi) n
  cwr {w S F i} h hi hm n x hx := by
    rw [ptr2 hi]
    exact (write_any h.1 i (by rw [h.2]; exact hi) n x hx (by
      have h1 : mostD S = most2 S := if_pos h.2
      have h2 := few_two h.2 i
      omega)).mono fun _ _ hr => RetS.reta ((write_dsM S i n x).trans h.2) hr
  cfl {w S F i} h hi := by
    rw [ptr2 hi]
    exact (flush_any h.1 i (by rw [h.2]; exact hi)).mono fun _ _ hr => RetS.reta ((flush_dsM S i).trans h.2) hr
  clen {w S F i} h hi := by
    rw [ptr2 hi]
    exact (len_sys h.1 i (by rw [h.2]; exact hi)).mono fun _ _ hr => by
      obtain ⟨rfl, rfl⟩ := hr
      exact ⟨rfl, Below.refl _ _⟩
/-- A device's sectors, as it reads them, whether it is out, and at most how many writes wait. -/
structure See (S : Sy) (i : Nat) (L : List (List UInt8)) (g : Bool) (m : Nat) : Prop where
  ds : S.ds.length = 2
  p : S.p = ⟨false, -1⟩
  lt : i < 2
  len : (S.at i).st.length = L.length
  now : ∀ k, k < L.length → (S.at i).now k = L.getD k zeroS
  gone : (S.at i).gone = g
  lies : (S.at i).lies = false
  few : (S.at i).wt.length ≤ m
section
variable {S : Sy} {i j : Nat} {L L' : List (List UInt8)} {g g' : Bool} {m m' : Nat}
theorem See.more (h : See S i L g m) {m' : Nat} (hm : m ≤ m') : See S i L g m' := ⟨h.ds, h.p, h.lt, h.len, h.now, h.gone, h.lies, Nat.le_trans h.few hm⟩
theorem See.put (h : See S j L' g' m') (d : Dv) (hij : j ≠ i) : See (S.put i d) j L' g' m' := by
  have ha : (S.put i d).at j = S.at j := by
    show (S.ds.set i d).getD j noDv = S.ds.getD j noDv
    rw [List.getD_eq_getElem?_getD, List.getD_eq_getElem?_getD, List.getElem?_set, if_neg (fun e => hij e.symm)]
  exact ⟨by rw [len_put]; exact h.ds, h.p, h.lt, by rw [ha]; exact h.len, by rw [ha]; exact h.now, by rw [ha]; exact h.gone, by rw [ha]; exact h.lies, by rw [ha]; exact h.few⟩
theorem see_new (n : Nat) (hn : n ≤ 4096) : See ((S0.new (n : Int)).new (n : Int)) 0 (List.replicate n zeroS) false 0 ∧ See ((S0.new (n : Int)).new (n : Int)) 1 (List.replicate n zeroS) false 0 := by
  have hc : clampN (n : Int) = n := by unfold clampN; omega
  have h1 : ((S0.new (n : Int)).new (n : Int)).at 0 = newDv n := by rw [Sy.new, Sy.new, hc]; rfl
  have h2 : ((S0.new (n : Int)).new (n : Int)).at 1 = newDv n := by rw [Sy.new, Sy.new, hc]; rfl
  refine ⟨⟨rfl, rfl, by omega, by rw [h1, List.length_replicate]; exact List.length_replicate, fun k hk => ?_, by rw [h1]; rfl, by rw [h1]; rfl, by rw [h1]; exact Nat.le_refl _⟩, ⟨rfl, rfl, by omega, by rw [h2, List.length_replicate]; exact List.length_replicate, fun k hk => ?_, by rw [h2]; rfl, by rw [h2]; rfl, by rw [h2]; exact Nat.le_refl _⟩⟩
  · rw [h1]; rfl
  · rw [h2]; rfl
theorem See.refuse (h : See S i L g m) (n : Int) : refuseN S.p (S.at i) n = if g then 13 else if n < 0 ∨ (L.length : Int) ≤ n then 2 else 0 := by
  rw [refuseN, h.p, h.gone, h.len]; rfl
theorem See.read (h : See S i L g m) (n : Int) : readS S.p (S.at i) n = if (g = false ∧ 0 ≤ n ∧ n < (L.length : Int)) then L.getD n.toNat zeroS else zeroS := by
  rw [readS, h.refuse]
  cases g with
  | true => simp
  | false =>
    by_cases hc : n < 0 ∨ (L.length : Int) ≤ n
    · rw [if_neg (show ¬ ((if false = true then (13 : Int) else if n < 0 ∨ (L.length : Int) ≤ n then 2 else 0) = 0) by rw [if_neg (by simp), if_pos hc]; omega), if_neg (fun h => by omega)]
    · rw [if_pos (show (if false = true then (13 : Int) else if n < 0 ∨ (L.length : Int) ≤ n then 2 else 0) = 0 by rw [if_neg (by simp), if_neg hc]), if_pos ⟨rfl, by omega, by omega⟩]
      exact h.now _ (by omega)
theorem See.write_no (h : See S i L g m) {n : Int} {x : List UInt8} (hn : ¬ (g = false ∧ 0 ≤ n ∧ n < (L.length : Int))) : S.write i n x = (if g then 13 else 2, S) := by
  have hr : refuseN S.p (S.at i) n = if g then 13 else 2 := by
    rw [h.refuse]
    cases g with
    | true => rfl
    | false =>
      have hc : n < 0 ∨ (L.length : Int) ≤ n := by
        by_cases h1 : n < 0
        · exact .inl h1
        · by_cases h2 : n < (L.length : Int)
          · exact absurd ⟨rfl, by omega, h2⟩ hn
          · exact .inr (by omega)
      show (if false = true then (13 : Int) else if n < 0 ∨ (L.length : Int) ≤ n then 2 else 0) = 2
      rw [if_neg (by simp), if_pos hc]
  rw [Kd.write_no (by rw [hr]; cases g <;> simp), hr]
theorem See.write_yes (h : See S i L g m) {k : Nat} {x : List UInt8} (hg : g = false) (hk : k < L.length) :
    (S.write i (k : Int) x).1 = 0 ∧ See (S.write i (k : Int) x).2 i (L.set k x) g (m + 1) ∧ ∀ {j L' g' m'}, j ≠ i → See S j L' g' m' → See (S.write i (k : Int) x).2 j L' g' m' := by
  have hr : refuseN S.p (S.at i) (k : Int) = 0 := by rw [h.refuse, hg, if_neg (by simp), if_neg (by omega)]
  have hw := Kd.write_yes (s := x) hr
  have hp : S.p.fails = false := by rw [h.p]; rfl
  have hd0 : i < S.ds.length := by rw [h.ds]; exact h.lt
  have hpp : (S.put i ((S.at i).add k x)).p = ⟨false, -1⟩ := h.p
  rw [hp, count_plain hpp] at hw
  rw [hw]
  have ha : (S.put i ((S.at i).add k x)).at i = (S.at i).add k x := by rw [at_put _ hd0, if_pos rfl]
  refine ⟨rfl, ⟨by rw [len_put]; exact h.ds, hpp, h.lt, by rw [ha, List.length_set]; exact h.len, fun j hj => ?_, by rw [ha]; exact h.gone, by rw [ha]; exact h.lies, ?_⟩, fun hne hj => hj.put _ hne⟩
  · rw [List.length_set] at hj
    rw [ha, set_getD _ _ _ _ hj]
    show nowL (S.at i).st ((S.at i).wt ++ [(k, x)]) j = _
    rw [now_snoc]
    split
    · rfl
    · exact h.now j hj
  · rw [ha]
    show ((S.at i).wt ++ [(k, x)]).length ≤ m + 1
    rw [List.length_append]; have := h.few; simp; exact this
theorem See.flush_no (h : See S i L g m) (hg : g = true) : S.flush i = (13, S) := by
  unfold Sy.flush; dsimp only; rw [h.p, h.gone, hg]; rfl
theorem See.flush_yes (h : See S i L g m) (hg : g = false) : (S.flush i).1 = 0 ∧ See (S.flush i).2 i L g 0 ∧ ∀ {j L' g' m'}, j ≠ i → See S j L' g' m' → See (S.flush i).2 j L' g' m' := by
  have hd0 : i < S.ds.length := by rw [h.ds]; exact h.lt
  have hp : S.p.fails = false := by rw [h.p]; rfl
  have hw : S.flush i = (0, S.put i { S.at i with st := flushL (S.at i).st (S.at i).wt, wt := [] }) := by
    unfold Sy.flush; dsimp only
    rw [if_neg (by rw [h.p, h.gone, hg]; simp), hp, if_neg (by simp), h.lies, if_neg (by simp), count_plain h.p]
  have ha : (S.put i { S.at i with st := flushL (S.at i).st (S.at i).wt, wt := [] }).at i = { S.at i with st := flushL (S.at i).st (S.at i).wt, wt := [] } := by rw [at_put _ hd0, if_pos rfl]
  rw [hw]
  refine ⟨rfl, ⟨by rw [len_put]; exact h.ds, h.p, h.lt, by rw [ha]; exact (flush_length _ _).trans h.len, fun j hj => ?_, by rw [ha]; exact h.gone, by rw [ha]; exact h.lies, by rw [ha]; exact Nat.le_refl _⟩, fun hne hj => hj.put _ hne⟩
  rw [ha]
  show nowL (flushL (S.at i).st (S.at i).wt) [] j = _
  rw [Kd.flush_nil, flush_get _ _ _ (by rw [h.len]; exact hj)]
  exact h.now j hj
theorem See.dry (h : See S i L g 0) : (S.at i).wt = [] := List.length_eq_zero_iff.1 (Nat.le_zero.1 h.few)
theorem See.stable (h : See S i L g 0) : (S.at i).st = L := by
  apply List.ext_getElem?
  intro k
  by_cases hk : k < L.length
  · have h1 := h.now k hk
    rw [Dv.now, h.dry, Kd.flush_nil, List.getD_eq_getElem?_getD, List.getD_eq_getElem?_getD, List.getElem?_eq_getElem (by rw [h.len]; exact hk), List.getElem?_eq_getElem hk] at h1
    rw [List.getElem?_eq_getElem (by rw [h.len]; exact hk), List.getElem?_eq_getElem hk]
    exact congrArg some h1
  · rw [List.getElem?_eq_none (by rw [h.len]; omega), List.getElem?_eq_none (by omega)]
theorem See.out (h : See S i L g 0) (on : Bool) : See (S.put i ((S.at i).out on)) i L on 0 := by
  have hd0 : i < S.ds.length := by rw [h.ds]; exact h.lt
  have ha : (S.put i ((S.at i).out on)).at i = (S.at i).out on := by rw [at_put _ hd0, if_pos rfl]
  have hw : ((S.at i).out on).wt = [] := by show (if on then [] else (S.at i).wt) = []; rw [h.dry]; split <;> rfl
  refine ⟨by rw [len_put]; exact h.ds, h.p, h.lt, by rw [ha]; exact h.len, fun j hj => ?_, by rw [ha]; rfl, by rw [ha]; exact h.lies, by rw [ha, hw]; exact Nat.le_refl _⟩
  rw [ha, Dv.now, hw]
  show nowL (S.at i).st [] j = _
  rw [← h.now j hj, Dv.now, h.dry]
theorem See.rot (h : See S i L g 0) (n a : Int) (b : UInt8) : See (S.rot i n a b) i (if hasByte L.length n a then rotL L n.toNat a.toNat b else L) g 0 := by
  have hl : (S.at i).st.length = L.length := h.len
  rw [Sy.rot, hl]
  split
  · have hd0 : i < S.ds.length := by rw [h.ds]; exact h.lt
    have ha : (S.put i ((S.at i).rot n.toNat a.toNat b)).at i = (S.at i).rot n.toNat a.toNat b := by rw [at_put _ hd0, if_pos rfl]
    refine ⟨by rw [len_put]; exact h.ds, h.p, h.lt, ?_, fun j hj => ?_, by rw [ha]; exact h.gone, by rw [ha]; exact h.lies, by rw [ha]; exact h.few⟩
    · rw [ha, ← h.stable]; rfl
    · rw [ha, Dv.now]
      show nowL (rotL (S.at i).st n.toNat a.toNat b) (S.at i).wt j = _
      rw [h.dry, Kd.flush_nil, h.stable]
  · exact h
theorem See.rot_other (h : See S j L' g' m') (n a : Int) (b : UInt8) (hij : j ≠ i) : See (S.rot i n a b) j L' g' m' := by
  rw [Sy.rot]; split
  · exact h.put _ hij
  · exact h
end
end Go.Proofs.Ytnplhagfmfggcaa.Mu
/-
  What is stale is told anew; the contract of mend.
-/
namespace Go.Proofs.Ytnplhagfmfggcaa.Mi
open Go.RowKit Kd
attribute [local go_sem ↓] Go.wp_at_zero Go.wp_at_succ
section
variable {C : Duo} {G : Gd} {g : Nat} {w w1 : World} {s : Mr C} {A B : Option Addr} {N c m e : Nat} {F1 F : Nat → Prop}
def Mr.put (s : Mr C) (i n : Nat) (v : Bool) : Mr C := if i = 0 then ⟨s.d, s.a.set n v, s.b⟩ else ⟨s.d, s.a, s.b.set n v⟩
def Mr.dev (s : Mr C) (d : C.L.St) : Mr C := ⟨d, s.a, s.b⟩
/-- Of each device as many places. -/
def Mr.ok (s : Mr C) (k : Nat) : Prop := s.a.length = k ∧ s.b.length = k
theorem Mr.ok.st {k i : Nat} (h : s.ok k) : (s.st i).length = k := by unfold Mr.st; split; exact h.1; exact h.2
theorem Mr.ok.put {k i n : Nat} {v : Bool} (h : s.ok k) : (s.put i n v).ok k := by
  unfold Mr.put; split
  · exact ⟨by simpa using h.1, h.2⟩
  · exact ⟨h.1, by simpa using h.2⟩
theorem Mr.ok.dev {k : Nat} {d : C.L.St} (h : s.ok k) : (s.dev d).ok k := h
theorem put_d {i n : Nat} {v : Bool} : (s.put i n v).d = s.d := by unfold Mr.put; split <;> rfl
theorem own_cell1 {base q N j n : Nat} {e : TypeId} {xs : List Value} {v : Value} (ho : w.ownsRow base e 1 (.slice (some ⟨q, 0, none⟩) N j) N xs) : (w.setCell ⟨q, n, none⟩ v).ownsRow base e 1 (.slice (some ⟨q, 0, none⟩) N j) N (xs.set n v) := by
  refine ⟨by rw [List.length_set]; exact ho.1, ?_⟩
  rcases ho.2 with ⟨h0, _⟩ | ⟨g, cap, cur, h0, h1, h2, h3, h4, h5, h6⟩
  · cases h0
  · injection h0 with h0 _ h7
    injection h0 with h0
    injection h0 with h0
    subst h0 h7
    refine .inr ⟨q, j, cur.setIfInBounds n v, rfl, h1, heap_setCell_same _ _ _ _ _ _ h2, h3, h4, by rw [Array.size_setIfInBounds]; exact h5, ?_⟩
    rw [Array.toList_setIfInBounds, List.take_set, h6]
theorem bs_set (l : List Bool) (n : Nat) (v : Bool) : (bs l).set n (.bool v) = bs (l.set n v) := by rw [bs, bs, List.map_set]
/-- Of the stale places of a device: its slice, and what a store in it makes of the mirror. -/
theorem MrR.set_stale (h : MrR C G g w s A N c B m e F1) (h1 : ∀ q, mrF G g A N c B m e F1 q → F q) (h2 : ∀ q, F q → q < w.heap.size) {i n : Nat} (hi : i < 2) (hn : n < (s.st i).length) :
    ∃ q k j, w.cell? ⟨g, 2 + i, none⟩ = some (.slice (some ⟨q, 0, none⟩) k j) ∧ n < k ∧ k ≤ j ∧ j ≤ maxLen ∧ w.cell? ⟨q, n, none⟩ = some (.bool ((s.st i).getD n false)) ∧ w.frozen? ⟨q, n, none⟩ = false ∧ ∀ v, Mv (ML C G g) w F (w.setCell ⟨q, n, none⟩ (.bool v)) (s.put i n v) F := by
  obtain ⟨q, k, j, hc, hk, hkj, hj, hq⟩ := h.stale_cell hi hn
  obtain ⟨ra, rb⟩ := h.rows
  rcases two hi with rfl | rfl
  · have hc' : w.cell? ⟨g, 2, none⟩ = some (.slice A N c) := h.blk.cell 2
    rw [show 2 + 0 = 2 from rfl, hc'] at hc
    injection hc with hc
    injection hc with e1 e2 e3
    subst e1 e2 e3
    obtain ⟨cur, hcur⟩ := row_type h.a q rfl
    refine ⟨q, N, c, h.blk.cell 2, hk, hkj, hj, hq, Blk.free (show Blk w q cur 4 from hcur) n, fun v => ?_⟩
    have hT : But (fun x => x = q) w (w.setCell ⟨q, n, none⟩ (.bool v)) := but_one _
    refine ⟨⟨some ⟨q, 0, none⟩, N, c, B, m, e, F1, ⟨h.blk.but hT (fun x => ra q rfl x.symm), ?_, Own.but h.b hT (fun x hx hx' => h.apart x (by rw [hx']; rfl) hx), ?_, h.bn, C.L.but h.d hT (fun x hx hx' => h.aa q rfl (hx' ▸ hx)), h.ag, h.aa, h.ab, h.apart, h.pin, fun x hx => ⟨(h.gb x hx).1.but hT (fun hx' => h.box_ne hx hcur (.inl rfl) hx'), (h.gb x hx).2⟩⟩, h1, fun x hx => Nat.lt_of_lt_of_le (h2 x hx) hT.size⟩, fun _ hx => .inl hx, hT.mono (fun x hx => h1 x (.inr (.inl (by rw [hx]; rfl))))⟩
    · show World.ownsRow _ _ _ _ _ _ (bs (s.a.set n v))
      rw [← bs_set]; exact own_cell1 h.a
    · show (s.a.set n v).length = N
      rw [List.length_set]; exact h.an
  · have hc' : w.cell? ⟨g, 3, none⟩ = some (.slice B m e) := h.blk.cell 3
    rw [show 2 + 1 = 3 from rfl, hc'] at hc
    injection hc with hc
    injection hc with e1 e2 e3
    subst e1 e2 e3
    obtain ⟨cur, hcur⟩ := row_type h.b q rfl
    refine ⟨q, m, e, h.blk.cell 3, hk, hkj, hj, hq, Blk.free (show Blk w q cur 4 from hcur) n, fun v => ?_⟩
    have hT : But (fun x => x = q) w (w.setCell ⟨q, n, none⟩ (.bool v)) := but_one _
    refine ⟨⟨A, N, c, some ⟨q, 0, none⟩, m, e, F1, ⟨h.blk.but hT (fun x => rb q rfl x.symm), Own.but h.a hT (fun x hx hx' => h.apart x hx (by rw [hx']; rfl)), ?_, h.an, ?_, C.L.but h.d hT (fun x hx hx' => h.ab q rfl (hx' ▸ hx)), h.ag, h.aa, h.ab, h.apart, h.pin, fun x hx => ⟨(h.gb x hx).1.but hT (fun hx' => h.box_ne hx hcur (.inl rfl) hx'), (h.gb x hx).2⟩⟩, h1, fun x hx => Nat.lt_of_lt_of_le (h2 x hx) hT.size⟩, fun _ hx => .inl hx, hT.mono (fun x hx => h1 x (.inr (.inr (.inl (by rw [hx]; rfl)))))⟩
    · show World.ownsRow _ _ _ _ _ _ (bs (s.b.set n v))
      rw [← bs_set]; exact own_cell1 h.b
    · show (s.b.set n v).length = m
      rw [List.length_set]; exact h.bn
theorem ml_stale (h : (ML C G g).At w s F) {i n : Nat} (hi : i < 2) (hn : n < (s.st i).length) :
    ∃ q k j, w.cell? ⟨g, 2 + i, none⟩ = some (.slice (some ⟨q, 0, none⟩) k j) ∧ n < k ∧ k ≤ j ∧ j ≤ maxLen ∧ w.cell? ⟨q, n, none⟩ = some (.bool ((s.st i).getD n false)) ∧ w.frozen? ⟨q, n, none⟩ = false ∧ ∀ v, Mv (ML C G g) w F (w.setCell ⟨q, n, none⟩ (.bool v)) (s.put i n v) F := by
  obtain ⟨A, N, c, B, m, e, F1, h, h1, h2⟩ := h
  exact h.set_stale h1 h2 hi hn
theorem ml_ptr (h : (ML C G g).At w s F) {i : Nat} (hi : i < 2) : w.cell? ⟨g, i, none⟩ = some (.pointer (C.ptr i)) ∧ g < w.heap.size := by
  obtain ⟨A, N, c, B, m, e, F1, h, h1, h2⟩ := h
  exact ⟨h.ptr_cell hi, h.blk.lt⟩
theorem ml_write (h : (ML C G g).At w s F) {i : Nat} (hi : i < 2) (n : Int) (x : List UInt8) (hx : x.length = 128) (hm : C.most s.d < 1000000) :
    Calls Try.prog 57 #[.pointer (C.ptr i), .int .i64 n, .agg (bva x)] w (RetA (ML C G g) (.int .i64 (C.wr s.d i n x).1) (s.dev (C.wr s.d i n x).2) F w) := by
  obtain ⟨F1, hd, hl⟩ := ml_dev h
  exact (C.cwr hd hi hm n x hx).mono fun _ _ hr => hl hr
/-- What is written to one device, which then isn't stale there. -/
def Mr.mend (s : Mr C) (i n : Nat) (x : List UInt8) : Int × Mr C :=
  ((C.wr s.d i n x).1, if (C.wr s.d i n x).1 = 0 then (s.dev (C.wr s.d i n x).2).put i n false else s.dev (C.wr s.d i n x).2)
set_option maxRecDepth 100000 in
set_option maxHeartbeats 6400000 in
theorem mend_any (h : (ML C G g).At w s F) {i n : Nat} (hi : i < 2) (hn : n < (s.st i).length) (x : List UInt8) (hx : x.length = 128) (hm : C.most s.d < 1000000) :
    Calls Try.prog 134 #[.pointer (some ⟨g, 0, none⟩), .int .i64 i, .int .i64 n, .agg (bva x)] w (RetA (ML C G g) (.int .i64 (s.mend i n x).1) (s.mend i n x).2 F w) := by
  have HI := Lib.hid hi
  have HX3 := Lib.hid hx
  have HIX : Hid ((Try.prog.info? 38).map (·.size) = some (bva x).size) := by rw [bva_size, hx]; exact info_sec
  have i0 : (0 : Int) ≤ (i : Int) := by omega
  have i1 : (i : Int) < 2 := by omega
  obtain ⟨w1, hw1⟩ : ∃ w1, w1 = w.alloc (.cells (bva x) 38) := ⟨_, rfl⟩
  have M1 := Lib.hid (show Mv (ML C G g) w F w1 s F from (Mv.start h).below (by rw [hw1]; exact (Below.refl _ _).alloc (Nat.le_refl _) _))
  have BX := Lib.hid (show Bx w w1 F w.heap.size (bva x) 38 from Bx.new (Mv.start h) (by rw [hw1]; exact heap_alloc_new _ _) (Nat.le_refl _))
  have HP := Lib.hid (show ∀ w' s' F', (ML C G g).At w' s' F' → w'.cell? ⟨g, i, none⟩ = some (.pointer (C.ptr i)) from fun _ _ _ h => (ml_ptr h hi).1)
  have HCW := Lib.hid (ml_write (M1.out.below (w2 := w1.drew) (Below.refl _ _).drew).at_ hi n x hx hm)
  have HST := Lib.hid (show n < ((s.dev (C.wr s.d i n x).2).st i).length from hn)
  obtain ⟨P, hP⟩ : ∃ P, P = C.ptr i := ⟨_, rfl⟩
  rw [← hP] at HP HCW
  obtain ⟨r, hr⟩ : ∃ r, r = (C.wr s.d i n x).1 := ⟨_, rfl⟩
  obtain ⟨s2, hs2⟩ : ∃ s2, s2 = s.dev (C.wr s.d i n x).2 := ⟨_, rfl⟩
  have HV := Lib.hid (show s.mend i n x = (r, if r = 0 then s2.put i n false else s2) by rw [Mr.mend, hr, hs2])
  rw [← hr, ← hs2] at HCW
  rw [← hs2] at HST
  obtain ⟨sv, hsv⟩ : ∃ sv, sv = if r = 0 then s2.put i n false else s2 := ⟨_, rfl⟩
  rw [HV.out, ← hsv]
  have HSV := Lib.hid hsv
  clear hsv hP hr hs2 HV hn hm hx h hi
  go_enter Try.func134, Try.ntmps134
  go_upto_region 1 with fail
  rw [← hw1]
  clear hw1
  obtain ⟨b, hb⟩ : ∃ b, b = w.heap.size := ⟨_, rfl⟩
  rw [← hb] at BX
  rw [← hb]
  clear hb
  go_wp2_with fail
  refine wp_region_held_drew (S := fun w' => w'.cell? ⟨g, i, none⟩ = some (.pointer P) ∧ Blk w' b (bva x) 38) (by kernel_rfl) ⟨HP.out _ _ _ (M1.out.below (w2 := w1.drew) (Below.refl _ _).drew).at_, (BX.out.below (w2 := w1.drew) (Below.refl _ _).drew).1⟩ (fun hh => ?_)
  have HH := Lib.hid hh
  clear hh
  refine wpAnyH_take (i := 0) (v := ?vM0) rfl (by kernel_rfl) (by kernel_rfl) (by kernel_rfl) (fun _ _ _ h => h) (Or.inl ⟨by rfl, fun w' _ => ?yM0⟩) HH.out ?_
  case yM0 => (go_simp; try with_reducible rfl)
  refine wpAnyH_take (i := 1) (v := ?vM1) rfl (by kernel_rfl) (by kernel_rfl) (by kernel_rfl) (fun _ _ _ h => h) (Or.inl ⟨by rfl, fun w' _ => ?yM1⟩) HH.out ?_
  case yM1 => (go_simp; try with_reducible rfl)
  try simp only [List.getElem_toArray, List.getElem_cons_succ, List.getElem_cons_zero, Act.put, List.setIfInBounds_toArray, List.set_cons_zero, List.set_cons_succ]
  refine wpAnyH_take (i := 2) (v := ?vM2) rfl (by kernel_rfl) (by kernel_rfl) (by kernel_rfl) (fun _ _ _ h => h) (Or.inl ⟨by rfl, fun w' _ => ?yM2⟩) HH.out ?_
  case yM2 => (go_simp; try with_reducible rfl)
  refine wpAnyH_take (i := 3) (v := ?vM3) rfl (by kernel_rfl) (by kernel_rfl) (by kernel_rfl) (fun _ _ _ h => h) (Or.inl ⟨by rfl, fun w' _ => ?yM3⟩) HH.out ?_
  case yM3 => (go_simp; try with_reducible rfl)
  refine wpAnyH_take (i := 4) (v := ?vM4) rfl (by kernel_rfl) (by kernel_rfl) (by kernel_rfl) (fun _ _ _ h => h) (Or.inl ⟨by rfl, fun w' _ => ?yM4⟩) HH.out ?_
  case yM4 => (go_simp; try with_reducible rfl)
  try simp only [List.getElem_toArray, List.getElem_cons_succ, List.getElem_cons_zero, Act.put, List.setIfInBounds_toArray, List.set_cons_zero, List.set_cons_succ]
  refine wpAnyH_take (i := 5) (v := .pointer P) rfl (by kernel_rfl) (by kernel_rfl) (by kernel_rfl) (fun _ _ _ h => h) (Or.inl ⟨by rfl, fun w' hw' => ?yM5⟩) HH.out ?_
  case yM5 => (have hc := hw'.1; go_simp; try with_reducible rfl)
  refine wpAnyH_take (i := 6) (v := ?vM6) rfl (by kernel_rfl) (by kernel_rfl) (by kernel_rfl) (fun _ _ _ h => h) (Or.inl ⟨by rfl, fun w' _ => ?yM6⟩) HH.out ?_
  case yM6 => (go_simp; try with_reducible rfl)
  refine wpAnyH_take (i := 7) (v := .agg (bva x)) rfl (by kernel_rfl) (by kernel_rfl) (by kernel_rfl) (fun _ _ _ h => h) (Or.inl ⟨by rfl, fun w' hw' => ?yM7⟩) HH.out ?_
  case yM7 => exact exec_load 38 (.tmp 7) rfl rfl hw'.2 Try.underlying38 rfl HIX.out
  try simp only [List.getElem_toArray, List.getElem_cons_succ, List.getElem_cons_zero, Act.put, List.setIfInBounds_toArray, List.set_cons_zero, List.set_cons_succ]
  refine wpAnyH_ready (rs := [8]) (by kernel_rfl) (by simp) (AllReadyH.cons rfl (fun K hK => ?_) AllReadyH.nil)
  go_simp
  refine HCW.out.mono ?_
  rintro e2 w2 ⟨rfl, F2, hm2⟩
  have M2 := Lib.hid ((M1.out.below (Below.refl _ _).drew).trans hm2)
  have B2 := Lib.hid ((BX.out.below (Below.refl _ _).drew).step hm2)
  go_simp
  refine hK.out _ _ ⟨HP.out _ _ _ M2.out.at_, B2.out.1⟩ (fun hh => ?_)
  have HH' := Lib.hid hh
  clear hh hK K HH hm2 M1 BX HCW
  have HH := Lib.hid HH'.out
  clear HH'
  refine wpAnyH_take (i := 9) (v := ?vM9) rfl (by kernel_rfl) (by kernel_rfl) (by kernel_rfl) (fun _ _ _ h => h) (Or.inl ⟨by rfl, fun w' _ => ?yM9⟩) HH.out ?_
  case yM9 => (go_simp; try with_reducible rfl)
  try simp only [List.getElem_toArray, List.getElem_cons_succ, List.getElem_cons_zero, Act.put, List.setIfInBounds_toArray, List.set_cons_zero, List.set_cons_succ]
  refine wpAnyH_done (by kernel_rfl) ?_ _
  by_cases hr : r = 0
  · have HE := Lib.hid (show sv = s2.put i n false by rw [HSV.out, if_pos hr])
    subst hr
    obtain ⟨q, k, j, hc, hk, hkj, hj, hq, hf, hset⟩ := ml_stale M2.out.at_ HI.out HST.out
    have HSET := Lib.hid hset
    have n0 : (0 : Int) ≤ (n : Int) := by omega
    have n1 : (n : Int) < (k : Int) := by omega
    clear hset hk hkj hj
    go_wp2_with fail
    go_ret
    exact ⟨rfl, F2, by rw [HE.out]; exact M2.out.trans (HSET.out false)⟩
  · have HE := Lib.hid (show sv = s2 by rw [HSV.out, if_neg hr])
    go_wp2_with fail
    go_ret
    exact ⟨rfl, F2, by rw [HE.out]; exact M2.out⟩
end
end Go.Proofs.Ytnplhagfmfggcaa.Mi
/-
  A mirror, and boxes beside it; the contract of reached.
-/
namespace Go.Proofs.Ytnplhagfmfggcaa.Mi
open Go.RowKit Kd
attribute [local go_sem ↓] Go.wp_at_zero Go.wp_at_succ
/-- What is laid, and boxes beside it. -/
def Laid.and (L : Laid) (l : Bxs) : Laid where
  St := L.St
  At w s F := ∃ F0, L.At w s F0 ∧ (∀ x ∈ l, Blk w x.1 x.2.1 x.2.2 ∧ ¬ F0 x.1 ∧ F x.1) ∧ (∀ q, F0 q → F q) ∧ ∀ q, F q → q < w.heap.size
  but := fun ⟨F0, h, h1, h2, h3⟩ hb hd => ⟨F0, L.but h hb (fun q hq => hd q (h2 q hq)), fun x hx => ⟨(h1 x hx).1.but hb (hd _ (h1 x hx).2.2), (h1 x hx).2⟩, h2, fun q hq => Nat.lt_of_lt_of_le (h3 q hq) hb.size⟩
  lt := fun ⟨_, _, _, _, h3⟩ => h3
section
variable {L : Laid} {l : Bxs} {w w1 w2 : World} {s s1 s2 : L.St} {F F1 F2 : Nat → Prop}
/-- What is done to what is laid is done beside the boxes. -/
theorem and_lift (h : (L.and l).At w s F) : ∃ F0, L.At w s F0 ∧ (∀ q, F0 q → F q) ∧ (∀ x ∈ l, Blk w x.1 x.2.1 x.2.2) ∧ ∀ w' (s2 : L.St) F', Mv L w F0 w' s2 F' → Mv (L.and l) w F w' s2 (fun q => F q ∨ F' q) := by
  obtain ⟨F0, h0, h1, h2, h3⟩ := h
  refine ⟨F0, h0, h2, fun x hx => (h1 x hx).1, fun w' s2 F' hm => ⟨⟨F', hm.at_, fun x hx => ⟨(h1 x hx).1.but hm.but (h1 x hx).2.1, fun hf => ?_, .inl (h1 x hx).2.2⟩, fun q hq => .inr hq, ?_⟩, ?_, hm.but.mono h2⟩⟩
  · rcases hm.new _ hf with h4 | h4
    · exact (h1 x hx).2.1 h4
    · have := (h1 x hx).1.lt; omega
  · rintro q (hq | hq)
    · exact Nat.lt_of_lt_of_le (h3 q hq) hm.but.size
    · exact hm.lt q hq
  · rintro q (hq | hq)
    · exact .inl hq
    · exact (hm.new q hq).imp (h2 q) id
theorem and_ret (h : (L.and l).At w s F) : ∃ F0, L.At w s F0 ∧ ∀ {v : Value} {s2 : L.St} {e w'}, RetA L v s2 F0 w e w' → RetA (L.and l) v s2 F w e w' := by
  obtain ⟨F0, h0, _, _, hl⟩ := and_lift h
  refine ⟨F0, h0, ?_⟩
  rintro v s2 e w' ⟨rfl, F', hm⟩
  exact ⟨rfl, _, hl _ _ _ hm⟩
theorem and_nil (h : L.At w s F) : (L.and []).At w s F := ⟨F, h, fun x hx => (by cases hx), fun _ h => h, L.lt h⟩
/-- Boxes that are new come beside. -/
theorem and_start (h : Mv L w F w1 s F1) (hb : ∀ x ∈ l, Bx w w1 F1 x.1 x.2.1 x.2.2) : (L.and l).At w1 s (fun q => F1 q ∨ ∃ x ∈ l, q = x.1) :=
  ⟨F1, h.at_, fun x hx => ⟨(hb x hx).1, (hb x hx).2.2, .inr ⟨x, hx, rfl⟩⟩, fun q hq => .inl hq, by
    rintro q (hq | ⟨x, hx, rfl⟩)
    · exact h.lt q hq
    · exact (hb x hx).1.lt⟩
/-- .. and go again. -/
theorem and_end (h : Mv L w F w1 s F1) (hb : ∀ x ∈ l, Bx w w1 F1 x.1 x.2.1 x.2.2) (hm : Mv (L.and l) w1 (fun q => F1 q ∨ ∃ x ∈ l, q = x.1) w2 s2 F2) : ∃ F', Mv L w F w2 s2 F' := by
  obtain ⟨F0, h0, h1, h2, h3⟩ := hm.at_
  have hn : ∀ q, (F1 q ∨ ∃ x ∈ l, q = x.1) → F q ∨ w.heap.size ≤ q := by
    rintro q (hq | ⟨x, hx, rfl⟩)
    · exact h.new q hq
    · exact .inr (hb x hx).2.1
  refine ⟨F0, h0, fun q hq => ?_, but_step h.but hm.but hn⟩
  rcases hm.new q (h2 q hq) with h4 | h4
  · exact hn q h4
  · exact .inr (Nat.le_trans h.size h4)
end
section
variable {C : Duo} {G : Gd} {g : Nat} {l : Bxs} {w w1 : World} {s s1 s2 : Mr C} {F1 F : Nat → Prop}
/-- What reached makes of a mirror. -/
def Mr.reach (s2 : Mr C) (n : Nat) (x y : Bool) : Int × Mr C := if x || y then (0, (s2.put 0 n (!x)).put 1 n (!y)) else (13, s2)
theorem ml_stale_and (h : ((ML C G g).and l).At w s F) {i n : Nat} (hi : i < 2) (hn : n < (s.st i).length) :
    ∃ q k j, w.cell? ⟨g, 2 + i, none⟩ = some (.slice (some ⟨q, 0, none⟩) k j) ∧ n < k ∧ k ≤ j ∧ j ≤ maxLen ∧ w.cell? ⟨q, n, none⟩ = some (.bool ((s.st i).getD n false)) ∧ w.frozen? ⟨q, n, none⟩ = false ∧ ∀ v, ∃ F', Mv ((ML C G g).and l) w F (w.setCell ⟨q, n, none⟩ (.bool v)) (s.put i n v) F' := by
  obtain ⟨F0, h0, _, _, hl⟩ := and_lift h
  obtain ⟨q, k, j, h1, h2, h3, h4, h5, h6, h7⟩ := ml_stale h0 hi hn
  exact ⟨q, k, j, h1, h2, h3, h4, h5, h6, fun v => ⟨_, hl _ _ _ (h7 v)⟩⟩
set_option maxRecDepth 100000 in
set_option maxHeartbeats 6400000 in
theorem reached_any (h : ((ML C G g).and l).At w s F) {n k : Nat} {b c : Array Value} {x y : Bool} {N : Nat} (hs2 : s2.ok N) (hn : n < N) (hC : ∀ (args : Array Value) (W : World), (callFunc k args).run Try.prog W = .ok (.enter k args) W)
    (h0 : ∀ w F, ((ML C G g).and l).At w s F → Calls Try.prog k (b ++ #[.int .i64 0] ++ c) w (RetA ((ML C G g).and l) (.bool x) s1 F w))
    (h1 : ∀ w F, ((ML C G g).and l).At w s1 F → Calls Try.prog k (b ++ #[.int .i64 1] ++ c) w (RetA ((ML C G g).and l) (.bool y) s2 F w)) :
    Calls Try.prog 122 #[.pointer (some ⟨g, 0, none⟩), .int .i64 n, .func (.func k) b c] w (RetA ((ML C G g).and l) (.int .i64 (s2.reach n x y).1) (s2.reach n x y).2 F w) := by
  have HEA := Lib.hid (each_any h hC h0 h1)
  have HS2 := Lib.hid hs2
  have HN := Lib.hid hn
  have n0 : (0 : Int) ≤ (n : Int) := by omega
  obtain ⟨RV, hRV⟩ : ∃ RV, RV = s2.reach n x y := ⟨_, rfl⟩
  rw [← hRV]
  have HRV := Lib.hid hRV
  clear hRV h0 h1 h hC hs2 hn
  go_enter Try.func122, Try.ntmps122
  go_wp2_with fail
  refine HEA.out.mono ?_
  rintro e w1 ⟨rfl, F1, hm1⟩
  have M1 := Lib.hid hm1
  clear hm1 HEA
  have HI2 : Hid ((Try.prog.info? 185).map (·.size) = some (two2 x y).size) := by show _ = _; kernel_rfl
  go_wp2_with (show wpList _ _ _ ({ dst := none, op := .store 185 (.tmp 7) (.tmp 11), type := _, pos := _, after := _, guard := _ } :: _) _ _; apply Classical.byContradiction; intro hneg)
  refine hneg ?_
  clear hneg
  refine wpList_store_row rfl 185 (.tmp 7) (.tmp 11) rfl w1.heap.size (two2 x y) rfl rfl 185 (two2 false false) (heap_alloc_new _ _) HI2.out (by rfl) (two2_one _ _) ?_
  obtain ⟨w2, hw2⟩ : ∃ w2, w2 = (w1.alloc (.cells (two2 false false) 185)).setRow w1.heap.size (two2 x y) := ⟨_, rfl⟩
  have hb2 : Below w1.heap.size w1 w2 := by rw [hw2]; exact below_setRow ((Below.refl _ _).alloc (Nat.le_refl _) _) (Nat.le_refl _) _
  have BX := Lib.hid (show Bx w w2 F1 w1.heap.size (two2 x y) 185 from Bx.new M1.out (by rw [hw2]; exact setRow_heap _ _ _ _ _ _ (heap_alloc_new _ _)) (Nat.le_refl _))
  have M2 := Lib.hid (M1.out.below hb2)
  rw [show (two2 false false) = #[.bool false, .bool false] from rfl] at hw2
  rw [← hw2]
  clear hw2 hb2 M1
  obtain ⟨bx, hbx⟩ : ∃ bx, bx = w1.heap.size := ⟨_, rfl⟩
  rw [← hbx] at BX
  rw [← hbx]
  clear hbx
  obtain ⟨o, ho⟩ : ∃ o, o = (x || y) := ⟨_, rfl⟩
  have hE : ∀ W, (Op.equalIn 10000 185 (.agg #[.bool x, .bool y]) (.agg #[.bool false, .bool false])).run Try.prog W = .ok (!o) W := fun W => by rw [ho]; exact eq_ff x y W
  have HO := Lib.hid ho
  clear ho
  cases o
  · have HEND := Lib.hid (show RV = (13, s2) by rw [HRV.out, Mr.reach, if_neg (by rw [← HO.out]; simp)])
    go_wp2_with (refine wpList_load_row rfl 185 (.tmp 7) rfl bx rfl 185 #[.bool x, .bool y] (0, 0) _ BX.out.1 Try.underlying185 rfl HI2.out ?_)
    go_ret
    exact ⟨by rw [HEND.out]; rfl, F1, by rw [HEND.out]; exact M2.out⟩
  · have HEND := Lib.hid (show RV = (0, (s2.put 0 n (!x)).put 1 n (!y)) by rw [HRV.out, Mr.reach, if_pos HO.out.symm])
    go_wp2_with (refine wpList_load_row rfl 185 (.tmp 7) rfl bx rfl 185 #[.bool x, .bool y] (0, 0) _ BX.out.1 Try.underlying185 rfl HI2.out ?_)
    go_loopw [16] (fun i wr => ∃ (j : Nat) (F' : Nat → Prop) (s' : Mr C), i = .int .i64 j ∧ Mv ((ML C G g).and l) w F wr s' F' ∧ ((j = 0 ∧ s' = s2) ∨ (j = 1 ∧ s' = s2.put 0 n (!x)) ∨ (j = 2 ∧ s' = (s2.put 0 n (!x)).put 1 n (!y)))) (fun i _ => 2 - (intOf i).toNat)
    case atStart => exact ⟨0, F1, s2, rfl, M2.out, .inl ⟨rfl, rfl⟩⟩
    case round =>
      clear M2 BX
      obtain ⟨j, F', s', rfl, hm, hj⟩ := hrel
      have M := Lib.hid hm
      clear hm
      rcases hj with ⟨rfl, hs⟩ | ⟨rfl, hs⟩ | ⟨rfl, hs⟩
      · have HS := Lib.hid hs
        obtain ⟨q, k, j, hc, hk, hkj, hj, hq, hf, hset⟩ := ml_stale_and M.out.at_ (i := 0) (n := n) (by omega) (by rw [hs, HS2.out.st]; exact HN.out)
        have HSET := Lib.hid hset
        have n1 : (n : Int) < (k : Int) := by omega
        clear hset hk hkj hj hs
        go_wp2_with (refine wpList_execg8 (o := { dst := some 19, op := .index 185 (.tmp 15) (.tmp 16), type := _, pos := _, after := _, guard := _ }) (v := .bool x) (w' := wr) rfl ?hix ?_; case hix => kernel_rfl)
        go_roundw  
        case rel =>
          obtain ⟨F2, hm2⟩ := HSET.out (!x)
          exact ⟨1, F2, s2.put 0 n (!x), rfl, M.out.trans (by rw [← HS.out]; exact hm2), .inr (.inl ⟨rfl, rfl⟩)⟩
        case measure => simp [intOf]
      · have HS := Lib.hid hs
        obtain ⟨q, k, j, hc, hk, hkj, hj, hq, hf, hset⟩ := ml_stale_and M.out.at_ (i := 1) (n := n) (by omega) (by rw [hs, HS2.out.put.st]; exact HN.out)
        have HSET := Lib.hid hset
        have n1 : (n : Int) < (k : Int) := by omega
        clear hset hk hkj hj hs
        go_wp2_with (refine wpList_execg8 (o := { dst := some 19, op := .index 185 (.tmp 15) (.tmp 16), type := _, pos := _, after := _, guard := _ }) (v := .bool y) (w' := wr) rfl ?hix ?_; case hix => kernel_rfl)
        go_roundw  
        case rel =>
          obtain ⟨F2, hm2⟩ := HSET.out (!y)
          exact ⟨2, F2, (s2.put 0 n (!x)).put 1 n (!y), rfl, M.out.trans (by rw [← HS.out]; exact hm2), .inr (.inr ⟨rfl, rfl⟩)⟩
        case measure => simp [intOf]
      · have HS := Lib.hid hs
        clear hs
        go_wp2_with fail
        go_ret
        exact ⟨by rw [HEND.out]; rfl, F', by rw [HEND.out, ← HS.out]; exact M.out⟩
end
end Go.Proofs.Ytnplhagfmfggcaa.Mi
/-
  The contract of the mirror's Write.
-/
namespace Go.Proofs.Ytnplhagfmfggcaa.Mi
open Go.RowKit Kd
attribute [local go_sem ↓] Go.wp_at_zero Go.wp_at_succ
section
variable {C : Duo} {G : Gd} {g : Nat} {w w1 : World} {s : Mr C} {F1 F : Nat → Prop}
/-- The boxes of Write's and Choose's arguments. -/
def argB (g : Nat) (n : Int) (x : List UInt8) (b : Nat) : Bxs := [(b, #[.pointer (some ⟨g, 0, none⟩)], 51), (b + 1, #[.int .i64 n], 3), (b + 1 + 1, bva x, 38)]
theorem write1_enter (args : Array Value) (W : World) : (callFunc 123 args).run Try.prog W = .ok (.enter 123 args) W := by kernel_rfl
set_option maxRecDepth 100000 in
set_option maxHeartbeats 6400000 in
theorem write1_any {b : Nat} {n : Int} {x : List UInt8} (h : ((ML C G g).and (argB g n x b)).At w s F) {i : Nat} (hi : i < 2) (hx : x.length = 128) (hm : C.most s.d < 1000000) :
    Calls Try.prog 123 #[.int .i64 i, .pointer (some ⟨b, 0, none⟩), .pointer (some ⟨b + 1, 0, none⟩), .pointer (some ⟨b + 1 + 1, 0, none⟩)] w (RetA ((ML C G g).and (argB g n x b)) (.bool ((C.wr s.d i n x).1 == 0)) (s.dev (C.wr s.d i n x).2) F w) := by
  have HI := Lib.hid hi
  have HIX : Hid ((Try.prog.info? 38).map (·.size) = some (bva x).size) := by rw [bva_size, hx]; exact info_sec
  have i0 : (0 : Int) ≤ (i : Int) := by omega
  have i1 : (i : Int) < 2 := by omega
  have HP := Lib.hid (show ∀ w' s' F', ((ML C G g).and (argB g n x b)).At w' s' F' → w'.cell? ⟨g, i, none⟩ = some (.pointer (C.ptr i)) ∧ w'.cell? ⟨b, 0, none⟩ = some (.pointer (some ⟨g, 0, none⟩)) ∧ w'.cell? ⟨b + 1, 0, none⟩ = some (.int .i64 n) ∧ Blk w' (b + 1 + 1) (bva x) 38 from fun w' s' F' h => by
    obtain ⟨F0, h0, _, h2, _⟩ := and_lift h
    exact ⟨(ml_ptr h0 hi).1, (h2 _ (by unfold argB; exact List.mem_cons_self)).cell 0, (h2 _ (by unfold argB; exact List.mem_cons_of_mem _ List.mem_cons_self)).cell 0, h2 _ (by unfold argB; exact List.mem_cons_of_mem _ (List.mem_cons_of_mem _ List.mem_cons_self))⟩)
  have hd : ((ML C G g).and (argB g n x b)).At w.drew s F := ((ML C G g).and (argB g n x b)).below h (Below.refl _ _).drew
  obtain ⟨F0, hd0, hl⟩ := and_ret hd
  have HCW := Lib.hid ((ml_write hd0 hi n x hx hm).mono fun _ _ hr => hl hr)
  have H := Lib.hid h
  have HD := Lib.hid hd
  obtain ⟨P, hP⟩ : ∃ P, P = C.ptr i := ⟨_, rfl⟩
  rw [← hP] at HP HCW
  obtain ⟨r, hr⟩ : ∃ r, r = (C.wr s.d i n x).1 := ⟨_, rfl⟩
  rw [← hr]
  rw [← hr] at HCW
  clear hd hl hd0 hm hx h hi hr hP
  go_enter Try.func123, Try.ntmps123
  go_wp2_with fail
  refine wp_region_held_drew (S := fun w' => w'.cell? ⟨g, i, none⟩ = some (.pointer P) ∧ w'.cell? ⟨b, 0, none⟩ = some (.pointer (some ⟨g, 0, none⟩)) ∧ w'.cell? ⟨b + 1, 0, none⟩ = some (.int .i64 n) ∧ Blk w' (b + 1 + 1) (bva x) 38) (by kernel_rfl) (HP.out _ _ _ HD.out) (fun hh => ?_)
  have HH := Lib.hid hh
  clear hh
  refine wpAnyH_take (i := 0) (v := .pointer (some ⟨g, 0, none⟩)) rfl (by kernel_rfl) (by kernel_rfl) (by kernel_rfl) (fun _ _ _ h => h) (Or.inl ⟨by rfl, fun w' hw' => ?yW0⟩) HH.out ?_
  case yW0 => (have hc := hw'.2.1; go_simp; try with_reducible rfl)
  refine wpAnyH_take (i := 1) (v := ?vW1) rfl (by kernel_rfl) (by kernel_rfl) (by kernel_rfl) (fun _ _ _ h => h) (Or.inl ⟨by rfl, fun w' _ => ?yW1⟩) HH.out ?_
  case yW1 => (go_simp; try with_reducible rfl)
  try simp only [List.getElem_toArray, List.getElem_cons_succ, List.getElem_cons_zero, Act.put, List.setIfInBounds_toArray, List.set_cons_zero, List.set_cons_succ]
  refine wpAnyH_take (i := 2) (v := ?vW2) rfl (by kernel_rfl) (by kernel_rfl) (by kernel_rfl) (fun _ _ _ h => h) (Or.inl ⟨by rfl, fun w' _ => ?yW2⟩) HH.out ?_
  case yW2 => (go_simp; try with_reducible rfl)
  refine wpAnyH_take (i := 3) (v := ?vW3) rfl (by kernel_rfl) (by kernel_rfl) (by kernel_rfl) (fun _ _ _ h => h) (Or.inl ⟨by rfl, fun w' _ => ?yW3⟩) HH.out ?_
  case yW3 => (go_simp; try with_reducible rfl)
  refine wpAnyH_take (i := 4) (v := ?vW4) rfl (by kernel_rfl) (by kernel_rfl) (by kernel_rfl) (fun _ _ _ h => h) (Or.inl ⟨by rfl, fun w' _ => ?yW4⟩) HH.out ?_
  case yW4 => (go_simp; try with_reducible rfl)
  try simp only [List.getElem_toArray, List.getElem_cons_succ, List.getElem_cons_zero, Act.put, List.setIfInBounds_toArray, List.set_cons_zero, List.set_cons_succ]
  refine wpAnyH_take (i := 5) (v := .pointer P) rfl (by kernel_rfl) (by kernel_rfl) (by kernel_rfl) (fun _ _ _ h => h) (Or.inl ⟨by rfl, fun w' hw' => ?yW5⟩) HH.out ?_
  case yW5 => (have hc := hw'.1; go_simp; try with_reducible rfl)
  refine wpAnyH_take (i := 6) (v := .int .i64 n) rfl (by kernel_rfl) (by kernel_rfl) (by kernel_rfl) (fun _ _ _ h => h) (Or.inl ⟨by rfl, fun w' hw' => ?yW6⟩) HH.out ?_
  case yW6 => (have hc := hw'.2.2.1; go_simp; try with_reducible rfl)
  refine wpAnyH_take (i := 7) (v := .agg (bva x)) rfl (by kernel_rfl) (by kernel_rfl) (by kernel_rfl) (fun _ _ _ h => h) (Or.inl ⟨by rfl, fun w' hw' => ?yW7⟩) HH.out ?_
  case yW7 => exact exec_load 38 (.tmp 3) rfl rfl hw'.2.2.2 Try.underlying38 rfl HIX.out
  try simp only [List.getElem_toArray, List.getElem_cons_succ, List.getElem_cons_zero, Act.put, List.setIfInBounds_toArray, List.set_cons_zero, List.set_cons_succ]
  refine wpAnyH_ready (rs := [8]) (by kernel_rfl) (by simp) (AllReadyH.cons rfl (fun K hK => ?_) AllReadyH.nil)
  go_simp
  refine HCW.out.mono ?_
  rintro e2 w2 ⟨rfl, F2, hm2⟩
  have M2 := Lib.hid hm2
  go_simp
  refine hK.out _ _ (HP.out _ _ _ M2.out.at_) (fun hh => ?_)
  have HH' := Lib.hid hh
  clear hh hK K HH hm2 HCW
  have HH := Lib.hid HH'.out
  clear HH'
  refine wpAnyH_take (i := 9) (v := ?vW9) rfl (by kernel_rfl) (by kernel_rfl) (by kernel_rfl) (fun _ _ _ h => h) (Or.inl ⟨by rfl, fun w' _ => ?yW9⟩) HH.out ?_
  case yW9 => (go_simp; try with_reducible rfl)
  refine wpAnyH_take (i := 10) (v := ?vW10) rfl (by kernel_rfl) (by kernel_rfl) (by kernel_rfl) (fun _ _ _ h => h) (Or.inl ⟨by rfl, fun w' _ => ?yW10⟩) HH.out ?_
  case yW10 => (go_simp; try with_reducible rfl)
  try simp only [List.getElem_toArray, List.getElem_cons_succ, List.getElem_cons_zero, Act.put, List.setIfInBounds_toArray, List.set_cons_zero, List.set_cons_succ]
  refine wpAnyH_done (by kernel_rfl) ?_ _
  go_wp2_with fail
  go_ret
  exact ⟨rfl, F2, ((Mv.start H.out).below (Below.refl _ _).drew).trans M2.out⟩
/-- What Write makes of a mirror, and tells. -/
def Mr.w0 (s : Mr C) (n : Int) (x : List UInt8) (i : Nat) : Mr C := s.dev (C.wr s.d i n x).2
def Mr.write (s : Mr C) (n : Int) (x : List UInt8) : Int × Mr C :=
  if has s n then ((s.w0 n x 0).w0 n x 1).reach n.toNat ((C.wr s.d 0 n x).1 == 0) ((C.wr (s.w0 n x 0).d 1 n x).1 == 0) else (2, s)
theorem three_boxes (w : World) (A B D : Obj) : ∃ w3, w3 = ((w.alloc A).alloc B).alloc D ∧ w3.heap[w.heap.size]? = some A ∧ w3.heap[w.heap.size + 1]? = some B ∧ w3.heap[w.heap.size + 1 + 1]? = some D ∧ Below w.heap.size w w3 := by
  refine ⟨_, rfl, ?_, ?_, ?_, ?_⟩
  · rw [heap_alloc_old _ _ (by simp; omega), heap_alloc_old _ _ (by simp)]; exact heap_alloc_new _ _
  · rw [heap_alloc_old _ _ (by simp)]; have h := heap_alloc_new (w.alloc A) B; rwa [World.size_alloc] at h
  · have h := heap_alloc_new ((w.alloc A).alloc B) D; rwa [World.size_alloc, World.size_alloc] at h
  · exact (((Below.refl _ _).alloc (Nat.le_refl _) _).alloc (by simp) _).alloc (by simp; omega) _
set_option maxRecDepth 100000 in
set_option maxHeartbeats 6400000 in
theorem mwrite_no {p : Option Addr} {n : Int} (x : List UInt8) (hc : ∀ w', Below w.heap.size w w' → Calls Try.prog 121 #[.pointer p, .int .i64 n] w' (RetB (.bool false) w')) : Calls Try.prog 91 #[.pointer p, .int .i64 n, .agg (bva x)] w (RetB (.int .i64 2) w) := by
  obtain ⟨w3, hw3, h0, h1, h2, hb⟩ := three_boxes w (.cells #[.pointer p] 51) (.cells #[.int .i64 n] 3) (.cells (bva x) 38)
  have HC := Lib.hid (hc w3 hb)
  have HB := Lib.hid hb
  have c0 : w3.cell? ⟨w.heap.size, 0, none⟩ = some (.pointer p) := Blk.cell (show Blk w3 w.heap.size #[.pointer p] 51 from h0) 0
  have c1 : w3.cell? ⟨w.heap.size + 1, 0, none⟩ = some (.int .i64 n) := Blk.cell (show Blk w3 (w.heap.size + 1) #[.int .i64 n] 3 from h1) 0
  clear hc h0 h1 h2 hb
  go_enter Try.func91, Try.ntmps91
  go_upto_region 1 with fail
  rw [← hw3]
  clear hw3
  go_wp2_with fail
  refine HC.out.mono ?_
  rintro e w4 ⟨rfl, bw⟩
  go_wp2_with fail
  go_ret
  exact ⟨rfl, HB.out.trans (bw.mono HB.out.size)⟩
theorem mwrite_nil (n : Int) (x : List UInt8) : Calls Try.prog 91 #[.pointer none, .int .i64 n, .agg (bva x)] w (RetB (.int .i64 2) w) := mwrite_no x (fun w' _ => has_nil w' n)
set_option maxRecDepth 100000 in
set_option maxHeartbeats 6400000 in
theorem mwrite_any (h : (ML C G g).At w s F) {k : Nat} (hk : s.ok k) (n : Int) (x : List UInt8) (hx : x.length = 128) (hm : C.most s.d < 900000) : Calls Try.prog 91 #[.pointer (some ⟨g, 0, none⟩), .int .i64 n, .agg (bva x)] w (RetA (ML C G g) (.int .i64 (s.write n x).1) (s.write n x).2 F w) := by
  cases hh : has s n with
  | false =>
    rw [Mr.write, hh, if_neg (by simp)]
    refine (mwrite_no x (fun w' hb => ?_)).mono fun _ _ hr => RetB.reta h hr
    have := has_any ((ML C G g).below h hb) n
    rwa [hh] at this
  | true =>
    obtain ⟨j, rfl⟩ : ∃ j : Nat, n = (j : Int) := ⟨n.toNat, by rw [has] at hh; simp at hh; omega⟩
    have hj : j < k := by rw [has] at hh; simp at hh; rw [← hk.1]; exact hh
    obtain ⟨w3, hw3, h0, h1, h2, hb⟩ := three_boxes w (.cells #[.pointer (some ⟨g, 0, none⟩)] 51) (.cells #[.int .i64 j] 3) (.cells (bva x) 38)
    have M3 := Lib.hid ((Mv.start h).below hb)
    obtain ⟨b, hbe⟩ : ∃ b, b = w.heap.size := ⟨_, rfl⟩
    have X3 := Lib.hid (show ∀ y ∈ argB g j x b, Bx w w3 F y.1 y.2.1 y.2.2 from by
      have hl := (ML C G g).lt h
      intro y hy
      rw [argB, hbe] at hy
      rcases List.mem_cons.1 hy with rfl | hy
      · exact ⟨h0, Nat.le_refl _, fun hf => by have := hl _ hf; omega⟩
      rcases List.mem_cons.1 hy with rfl | hy
      · exact ⟨h1, Nat.le_succ _, fun hf => by have := hl _ hf; omega⟩
      rw [List.mem_singleton] at hy
      subst hy
      exact ⟨h2, by omega, fun hf => by have := hl _ hf; omega⟩)
    have hhas := has_any M3.out.at_ (j : Int)
    rw [hh] at hhas
    have HH1 := Lib.hid hhas
    obtain ⟨sv, hsv⟩ : ∃ sv, sv = s.write (j : Int) x := ⟨_, rfl⟩
    rw [← hsv]
    have HSV := Lib.hid (show sv = ((s.w0 (j : Int) x 0).w0 (j : Int) x 1).reach j ((C.wr s.d 0 j x).1 == 0) ((C.wr (s.w0 (j : Int) x 0).d 1 j x).1 == 0) by rw [hsv, Mr.write, hh, if_pos rfl, Int.toNat_natCast])
    have HK := Lib.hid hk
    have HJ := Lib.hid hj
    have HX3 := Lib.hid hx
    have HM := Lib.hid hm
    have c0 : w3.cell? ⟨b, 0, none⟩ = some (.pointer (some ⟨g, 0, none⟩)) := by rw [hbe]; exact Blk.cell (show Blk w3 w.heap.size #[.pointer (some ⟨g, 0, none⟩)] 51 from h0) 0
    have c1 : w3.cell? ⟨b + 1, 0, none⟩ = some (.int .i64 j) := by rw [hbe]; exact Blk.cell (show Blk w3 (w.heap.size + 1) #[.int .i64 j] 3 from h1) 0
    clear hsv hhas hh hb h0 h1 h2 hk hj hx hm h
    go_enter Try.func91, Try.ntmps91
    go_upto_region 1 with fail
    rw [← hw3, ← hbe]
    clear hw3 hbe
    go_wp2_with fail
    refine HH1.out.mono ?_
    rintro e w4 ⟨rfl, bw⟩
    have M4 := Lib.hid (M3.out.below bw)
    have X4 := Lib.hid (show ∀ y ∈ argB g j x b, Bx w w4 F y.1 y.2.1 y.2.2 from fun y hy => (X3.out y hy).below bw)
    have d0 : w4.cell? ⟨b, 0, none⟩ = some (.pointer (some ⟨g, 0, none⟩)) := (X4.out _ (by unfold argB; exact List.mem_cons_self)).1.cell 0
    have d1 : w4.cell? ⟨b + 1, 0, none⟩ = some (.int .i64 j) := (X4.out _ (by unfold argB; exact List.mem_cons_of_mem _ List.mem_cons_self)).1.cell 0
    clear bw M3 X3 c0 c1 HH1
    go_wp2_with fail
    have hcall := reached_any (and_start M4.out X4.out) (n := j) (b := #[]) (c := #[.pointer (some ⟨b, 0, none⟩), .pointer (some ⟨b + 1, 0, none⟩), .pointer (some ⟨b + 1 + 1, 0, none⟩)]) (N := k) (s1 := s.w0 (j : Int) x 0) (s2 := (s.w0 (j : Int) x 0).w0 (j : Int) x 1) HK.out HJ.out write1_enter
      (fun w' F' h => write1_any h (i := 0) (by omega) HX3.out (by have := HM.out; omega)) (fun w' F' h => write1_any (s := s.w0 (j : Int) x 0) h (i := 1) (by omega) HX3.out (by have := HM.out; have := C.wr_most (s := s.d) (i := 0) (n := j) (x := x) (by omega); show C.most (C.wr s.d 0 j x).2 < _; omega))
    rw [← HSV.out] at hcall
    refine hcall.mono ?_
    clear hcall
    rintro e w5 ⟨rfl, F5, hm5⟩
    have M5 := Lib.hid (and_end M4.out X4.out hm5)
    go_wp2_with fail
    go_ret
    exact ⟨rfl, M5.out⟩
end
end Go.Proofs.Ytnplhagfmfggcaa.Mi
/-
  The contract of the mirror's Choose.
-/
namespace Go.Proofs.Ytnplhagfmfggcaa.Mi
open Go.RowKit Kd
attribute [local go_sem ↓] Go.wp_at_zero Go.wp_at_succ
section
variable {C : Duo} {G : Gd} {g : Nat} {w w1 : World} {s : Mr C} {F1 F : Nat → Prop}
/-- What is asked of one device by Choose: does it read x, or is x written to it? -/
def Mr.c1 (s : Mr C) (n : Int) (x : List UInt8) (i : Nat) : Bool × Mr C :=
  if (C.rd s.d i n).1 = 0 then (if (C.rd s.d i n).2 = x then (true, s) else ((C.wr s.d i n x).1 == 0, s.dev (C.wr s.d i n x).2)) else (false, s)
theorem ml_read (h : (ML C G g).At w s F) {i : Nat} (hi : i < 2) (n : Int) : Calls Try.prog 30 #[.pointer (C.ptr i), .int .i64 n] w (RetB (.tuple #[.agg (bva (C.rd s.d i n).2), .int .i64 (C.rd s.d i n).1]) w) := by
  obtain ⟨F1, hd, _⟩ := ml_dev h
  exact C.crd hd hi n
theorem ml_rdlen (h : (ML C G g).At w s F) {i : Nat} (hi : i < 2) (n : Int) : (C.rd s.d i n).2.length = 128 := by
  obtain ⟨F1, hd, _⟩ := ml_dev h
  exact C.rd_len hd hi
theorem arg_cells {b : Nat} {n : Int} {x : List UInt8} {i : Nat} (hi : i < 2) (h : ((ML C G g).and (argB g n x b)).At w s F) : w.cell? ⟨g, i, none⟩ = some (.pointer (C.ptr i)) ∧ w.cell? ⟨b, 0, none⟩ = some (.pointer (some ⟨g, 0, none⟩)) ∧ w.cell? ⟨b + 1, 0, none⟩ = some (.int .i64 n) ∧ Blk w (b + 1 + 1) (bva x) 38 := by
  obtain ⟨F0, h0, _, h2, _⟩ := and_lift h
  exact ⟨(ml_ptr h0 hi).1, (h2 _ (by unfold argB; exact List.mem_cons_self)).cell 0, (h2 _ (by unfold argB; exact List.mem_cons_of_mem _ List.mem_cons_self)).cell 0, h2 _ (by unfold argB; exact List.mem_cons_of_mem _ (List.mem_cons_of_mem _ List.mem_cons_self))⟩
theorem c1_ok {k i : Nat} {n : Int} {x : List UInt8} (h : s.ok k) : (s.c1 n x i).2.ok k := by
  unfold Mr.c1
  split
  · split
    · exact h
    · exact h
  · exact h
theorem c1_most {i : Nat} {n : Int} {x : List UInt8} (hi : i < 2) : C.most (s.c1 n x i).2.d ≤ C.most s.d + 1 := by
  unfold Mr.c1
  split
  · split
    · exact Nat.le_succ _
    · exact C.wr_most hi
  · exact Nat.le_succ _
def Mr.choose (s : Mr C) (n : Int) (x : List UInt8) : Int × Mr C :=
  if has s n then ((s.c1 n x 0).2.c1 n x 1).2.reach n.toNat (s.c1 n x 0).1 ((s.c1 n x 0).2.c1 n x 1).1 else (2, s)
end
end Go.Proofs.Ytnplhagfmfggcaa.Mi
/-
  The contract of the mirror's Heal.
-/
namespace Go.Proofs.Ytnplhagfmfggcaa.Mi
open Go.RowKit Kd
attribute [local go_sem ↓] Go.wp_at_zero Go.wp_at_succ
section
variable {C : Duo} {G : Gd} {g : Nat} {w : World} {s : Mr C} {F : Nat → Prop}
def Mr.healTo (s : Mr C) (i n : Nat) (x : List UInt8) : (Int × Int) × Mr C := (if (s.mend i n x).1 = 0 then (1, 0) else (0, (s.mend i n x).1), (s.mend i n x).2)
/-- What Heal tells, and makes of a mirror. -/
def Mr.heal (G : Gd) (s : Mr C) (n : Int) : (Int × Int) × Mr C :=
  if has s n then
    if C.there s.d 0 && C.there s.d 1 then
      (if right C G s 0 n.toNat then
        (if right C G s 1 n.toNat then (if rightV C G s 0 n.toNat = rightV C G s 1 n.toNat then ((0, 0), s) else s.healTo 1 n.toNat (rightV C G s 0 n.toNat))
         else s.healTo 1 n.toNat (rightV C G s 0 n.toNat))
       else if right C G s 1 n.toNat then s.healTo 0 n.toNat (rightV C G s 1 n.toNat) else ((2, 0), s))
    else ((0, 13), s)
  else ((0, 2), s)
def tup2 (x : Int × Int) : Value := .tuple #[.int .i64 x.1, .int .i64 x.2]
set_option maxRecDepth 100000 in
set_option maxHeartbeats 3200000 in
theorem heal_no {p : Option Addr} {n : Int} (hc : Calls Try.prog 121 #[.pointer p, .int .i64 n] w (RetB (.bool false) w)) : Calls Try.prog 116 #[.pointer p, .int .i64 n] w (RetB (tup2 (0, 2)) w) := by
  have HC := Lib.hid hc
  clear hc
  go_enter Try.func116, Try.ntmps116
  go_wp2_with fail
  refine HC.out.mono ?_
  rintro e w1 ⟨rfl, bw⟩
  have B1 := Lib.hid bw
  clear bw
  go_wp2_with fail
  exact bodyPost_ret (results_tmp2 Try.results116 _ _ _) rfl ⟨rfl, B1.out⟩
theorem heal_nil (n : Int) : Calls Try.prog 116 #[.pointer none, .int .i64 n] w (RetB (tup2 (0, 2)) w) := heal_no (has_nil w n)
set_option maxRecDepth 100000 in
set_option maxHeartbeats 12800000 in
theorem heal_any (h : (ML C G g).At w s F) {k : Nat} (hk : s.ok k) (n : Int) (hm : C.most s.d < 1000000) : Calls Try.prog 116 #[.pointer (some ⟨g, 0, none⟩), .int .i64 n] w (RetA (ML C G g) (tup2 (s.heal G n).1) (s.heal G n).2 F w) := by
  cases hh : has s n with
  | false =>
    rw [Mr.heal, hh, if_neg (by simp)]
    have := has_any h n
    rw [hh] at this
    exact (heal_no this).mono fun _ _ hr => RetB.reta h hr
  | true =>
    obtain ⟨j, rfl⟩ : ∃ j : Nat, n = (j : Int) := ⟨n.toNat, by rw [has] at hh; simp at hh; omega⟩
    have hj : j < k := by rw [has] at hh; simp at hh; rw [← hk.1]; exact hh
    have HJ := Lib.hid (show ∀ i, j < (s.st i).length from fun i => by rw [hk.st]; exact hj)
    obtain ⟨z, hz0⟩ : ∃ z : List UInt8, z = zeroS := ⟨_, rfl⟩
    have hz : ∀ W, (zeroValue 38).run Try.prog W = .ok (.agg (bva z)) W := fun _ => by rw [hz0]; kernel_rfl
    have HZ3 := Lib.hid (show z.length = 128 by rw [hz0]; exact zeroS_length)
    have hcc := has_any h (j : Int)
    rw [hh] at hcc
    have HC := Lib.hid hcc
    have M0 := Lib.hid (Mv.start h)
    obtain ⟨RV, hRV⟩ : ∃ RV, RV = s.heal G (j : Int) := ⟨_, rfl⟩
    rw [← hRV]
    rw [Mr.heal, hh, if_pos rfl, Int.toNat_natCast] at hRV
    obtain ⟨tt, htt⟩ : ∃ tt, tt = (C.there s.d 0 && C.there s.d 1) := ⟨_, rfl⟩
    have HW := Lib.hid (show ∀ w F, (ML C G g).At w s F → Calls Try.prog 132 #[.pointer (some ⟨g, 0, none⟩)] w (RetA (ML C G g) (.bool tt) s F w) from fun w F h => by rw [htt]; exact whole_any h)
    rw [← htt] at hRV
    obtain ⟨y0, hy0⟩ : ∃ y, y = rightV C G s 0 j := ⟨_, rfl⟩
    obtain ⟨y1, hy1⟩ : ∃ y, y = rightV C G s 1 j := ⟨_, rfl⟩
    obtain ⟨a, ha⟩ : ∃ a, a = right C G s 0 j := ⟨_, rfl⟩
    obtain ⟨b, hb⟩ : ∃ b, b = right C G s 1 j := ⟨_, rfl⟩
    have HR0 := Lib.hid (show ∀ w F, (ML C G g).At w s F → Calls Try.prog 125 #[.pointer (some ⟨g, 0, none⟩), .int .i64 0, .int .i64 j] w (RetB (.tuple #[.agg (bva y0), .bool a]) w) from fun w F h => by rw [hy0, ha]; exact right_any h (i := 0) (by omega) (HJ.out 0))
    have HR1 := Lib.hid (show ∀ w F, (ML C G g).At w s F → Calls Try.prog 125 #[.pointer (some ⟨g, 0, none⟩), .int .i64 1, .int .i64 j] w (RetB (.tuple #[.agg (bva y1), .bool b]) w) from fun w F h => by rw [hy1, hb]; exact right_any h (i := 1) (by omega) (HJ.out 1))
    have HY3 := Lib.hid (show y0.length = 128 by rw [hy0]; exact rightV_len h (by omega) j)
    have HY4 := Lib.hid (show y1.length = 128 by rw [hy1]; exact rightV_len h (by omega) j)
    have HIY : Hid ((Try.prog.info? 38).map (·.size) = some (bva y0).size) := by rw [bva_size, HY3.out]; exact info_sec
    have HIV : Hid ((Try.prog.info? 38).map (·.size) = some (bva y1).size) := by rw [bva_size, HY4.out]; exact info_sec
    rw [← hy0, ← hy1, ← ha, ← hb] at hRV
    have HRV := Lib.hid hRV
    have HM := Lib.hid hm
    clear hRV hz0 hcc hh hk hj h hm htt hy0 hy1 ha hb
    go_enter Try.func116, Try.ntmps116
    go_wp2_with fail
    refine HC.out.mono ?_
    rintro e w1 ⟨rfl, bw⟩
    have M1 := Lib.hid (M0.out.below bw)
    clear bw M0 HC
    go_wp2_with fail
    refine (HW.out _ _ M1.out.at_).mono ?_
    rintro e w2 ⟨rfl, F2, hm2⟩
    have M2 := Lib.hid (M1.out.trans hm2)
    clear hm2 M1 HW
    cases tt with
    | false =>
      have HEND := Lib.hid (show RV = ((0, 13), s) by rw [HRV.out, if_neg (by simp)])
      go_wp2_with fail
      exact bodyPost_ret (results_tmp2 Try.results116 _ _ _) rfl ⟨by rw [HEND.out]; rfl, F2, by rw [HEND.out]; exact M2.out⟩
    | true =>
      have HRV2 := Lib.hid (show RV = _ from by rw [HRV.out, if_pos rfl])
      clear HRV
      go_wp2_with fail
      refine (HR0.out _ _ M2.out.at_).mono ?_
      rintro e w3 ⟨rfl, bw⟩
      have M3 := Lib.hid (M2.out.below bw)
      clear bw M2 HR0
      go_wp2_with (show wpList _ _ _ ({ dst := none, op := .store 38 (.tmp 6) (.tmp 23), type := _, pos := _, after := _, guard := _ } :: _) _ _; apply Classical.byContradiction; intro hneg)
      refine hneg ?_
      clear hneg
      refine wpList_store_row rfl 38 (.tmp 6) (.tmp 23) rfl w3.heap.size (bva y0) rfl rfl 38 (bva z) (heap_alloc_new _ _) HIY.out (by rw [bva_size, bva_size, HY3.out, HZ3.out]) (bva_one _) ?_
      obtain ⟨w4, hw4⟩ : ∃ w4, w4 = (w3.alloc (.cells (bva z) 38)).setRow w3.heap.size (bva y0) := ⟨_, rfl⟩
      have hbw4 : Below w3.heap.size w3 w4 := by rw [hw4]; exact below_setRow ((Below.refl _ _).alloc (Nat.le_refl _) _) (Nat.le_refl _) _
      have BXw4 := Lib.hid (show Blk w4 w3.heap.size (bva y0) 38 from by rw [hw4]; exact setRow_heap _ _ _ _ _ _ (heap_alloc_new _ _))
      rw [← hw4]
      clear hw4
      have M4 := Lib.hid (M3.out.below hbw4)
      have X4 := Lib.hid (Bx.new M3.out BXw4.out (Nat.le_refl _))
      clear hbw4 M3 BXw4
      obtain ⟨b6, hb6⟩ : ∃ b6, b6 = w3.heap.size := ⟨_, rfl⟩
      rw [← hb6] at X4
      rw [← hb6]
      clear hb6
      go_wp2_with fail
      refine (HR1.out _ _ M4.out.at_).mono ?_
      rintro e w5 ⟨rfl, bw⟩
      have M5 := Lib.hid (M4.out.below bw)
      have X5 := Lib.hid (X4.out.below bw)
      clear bw M4 HR1 X4
      go_wp2_with (show wpList _ _ _ ({ dst := none, op := .store 38 (.tmp 8) (.tmp 29), type := _, pos := _, after := _, guard := _ } :: _) _ _; apply Classical.byContradiction; intro hneg)
      refine hneg ?_
      clear hneg
      refine wpList_store_row rfl 38 (.tmp 8) (.tmp 29) rfl w5.heap.size (bva y1) rfl rfl 38 (bva z) (heap_alloc_new _ _) HIV.out (by rw [bva_size, bva_size, HY4.out, HZ3.out]) (bva_one _) ?_
      obtain ⟨w6, hw6⟩ : ∃ w6, w6 = (w5.alloc (.cells (bva z) 38)).setRow w5.heap.size (bva y1) := ⟨_, rfl⟩
      have hbw6 : Below w5.heap.size w5 w6 := by rw [hw6]; exact below_setRow ((Below.refl _ _).alloc (Nat.le_refl _) _) (Nat.le_refl _) _
      have BXw6 := Lib.hid (show Blk w6 w5.heap.size (bva y1) 38 from by rw [hw6]; exact setRow_heap _ _ _ _ _ _ (heap_alloc_new _ _))
      rw [← hw6]
      clear hw6
      have M6 := Lib.hid (M5.out.below hbw6)
      have X6 := Lib.hid (X5.out.below hbw6)
      have Y6 := Lib.hid (Bx.new M5.out BXw6.out (Nat.le_refl _))
      clear hbw6 M5 BXw6 X5
      obtain ⟨b8, hb8⟩ : ∃ b8, b8 = w5.heap.size := ⟨_, rfl⟩
      rw [← hb8] at Y6
      rw [← hb8]
      clear hb8
      cases a
      · cases b
        · have HEND := Lib.hid (show RV = ((2, 0), s) by rw [HRV2.out, if_neg (by simp), if_neg (by simp)])
          go_wp2_with fail
          exact bodyPost_ret (results_tmp2 Try.results116 _ _ _) rfl ⟨by rw [HEND.out]; rfl, F2, by rw [HEND.out]; exact M6.out⟩
        · skip
          have HEND := Lib.hid (show RV = s.healTo 0 j y1 by rw [HRV2.out, if_neg (by simp), if_pos rfl])
          have HME := Lib.hid (mend_any M6.out.at_ (i := 0) (by omega) (HJ.out 0) y1 HY4.out HM.out)
          obtain ⟨r, hr⟩ : ∃ r, r = s.mend 0 j y1 := ⟨_, rfl⟩
          have HE2 := Lib.hid (show RV = (if r.1 = 0 then (1, 0) else (0, r.1), r.2) by rw [HEND.out, Mr.healTo, hr])
          rw [← hr] at HME
          clear hr HRV2 HEND
          go_wp2_with (first
            | (refine wpList_load_row rfl 38 (.tmp 6) rfl b6 rfl 38 (bva y0) (0, 0) _ X6.out.1 Try.underlying38 rfl HIY.out ?_)
            | (refine wpList_load_row rfl 38 (.tmp 8) rfl b8 rfl 38 (bva y1) (0, 0) _ Y6.out.1 Try.underlying38 rfl HIV.out ?_)
            | (refine wpList_execg8 rfl (exec_load 38 (.tmp 6) rfl rfl X6.out.1 Try.underlying38 rfl HIY.out) ?_)
            | (refine wpList_execg8 rfl (exec_load 38 (.tmp 8) rfl rfl Y6.out.1 Try.underlying38 rfl HIV.out) ?_))
          refine HME.out.mono ?_
          rintro e w7 ⟨rfl, F7, hm7⟩
          have M7 := Lib.hid (M6.out.trans hm7)
          clear hm7 M6 HME X6 Y6
          obtain ⟨r1, hr1⟩ : ∃ r1, r1 = r.1 := ⟨_, rfl⟩
          rw [← hr1]
          by_cases hr0 : r1 = 0
          · have HE3 := Lib.hid (show RV = ((1, 0), r.2) by rw [HE2.out, ← hr1, if_pos hr0])
            subst hr0
            clear hr1
            go_wp2_with fail
            refine (healed_ok _).mono ?_
            rintro e w8 ⟨rfl, rfl⟩
            go_wp2_with fail
            exact bodyPost_ret (results_tmp2 Try.results116 _ _ _) rfl ⟨by rw [HE3.out]; rfl, F7, by rw [HE3.out]; exact M7.out⟩
          · have HE3 := Lib.hid (show RV = ((0, r1), r.2) by rw [HE2.out, ← hr1, if_neg hr0])
            have HR0 := Lib.hid hr0
            clear hr1 hr0
            go_wp2_with fail
            refine (healed_no _ r1 HR0.out).mono ?_
            rintro e w8 ⟨rfl, rfl⟩
            go_wp2_with fail
            exact bodyPost_ret (results_tmp2 Try.results116 _ _ _) rfl ⟨by rw [HE3.out]; rfl, F7, by rw [HE3.out]; exact M7.out⟩
      · cases b
        · skip
          have HEND := Lib.hid (show RV = s.healTo 1 j y0 by rw [HRV2.out, if_pos rfl, if_neg (by simp)])
          have HME := Lib.hid (mend_any M6.out.at_ (i := 1) (by omega) (HJ.out 1) y0 HY3.out HM.out)
          obtain ⟨r, hr⟩ : ∃ r, r = s.mend 1 j y0 := ⟨_, rfl⟩
          have HE2 := Lib.hid (show RV = (if r.1 = 0 then (1, 0) else (0, r.1), r.2) by rw [HEND.out, Mr.healTo, hr])
          rw [← hr] at HME
          clear hr HRV2 HEND
          go_wp2_with (first
            | (refine wpList_load_row rfl 38 (.tmp 6) rfl b6 rfl 38 (bva y0) (0, 0) _ X6.out.1 Try.underlying38 rfl HIY.out ?_)
            | (refine wpList_load_row rfl 38 (.tmp 8) rfl b8 rfl 38 (bva y1) (0, 0) _ Y6.out.1 Try.underlying38 rfl HIV.out ?_)
            | (refine wpList_execg8 rfl (exec_load 38 (.tmp 6) rfl rfl X6.out.1 Try.underlying38 rfl HIY.out) ?_)
            | (refine wpList_execg8 rfl (exec_load 38 (.tmp 8) rfl rfl Y6.out.1 Try.underlying38 rfl HIV.out) ?_))
          refine HME.out.mono ?_
          rintro e w7 ⟨rfl, F7, hm7⟩
          have M7 := Lib.hid (M6.out.trans hm7)
          clear hm7 M6 HME X6 Y6
          obtain ⟨r1, hr1⟩ : ∃ r1, r1 = r.1 := ⟨_, rfl⟩
          rw [← hr1]
          by_cases hr0 : r1 = 0
          · have HE3 := Lib.hid (show RV = ((1, 0), r.2) by rw [HE2.out, ← hr1, if_pos hr0])
            subst hr0
            clear hr1
            go_wp2_with fail
            refine (healed_ok _).mono ?_
            rintro e w8 ⟨rfl, rfl⟩
            go_wp2_with fail
            exact bodyPost_ret (results_tmp2 Try.results116 _ _ _) rfl ⟨by rw [HE3.out]; rfl, F7, by rw [HE3.out]; exact M7.out⟩
          · have HE3 := Lib.hid (show RV = ((0, r1), r.2) by rw [HE2.out, ← hr1, if_neg hr0])
            have HR0 := Lib.hid hr0
            clear hr1 hr0
            go_wp2_with fail
            refine (healed_no _ r1 HR0.out).mono ?_
            rintro e w8 ⟨rfl, rfl⟩
            go_wp2_with fail
            exact bodyPost_ret (results_tmp2 Try.results116 _ _ _) rfl ⟨by rw [HE3.out]; rfl, F7, by rw [HE3.out]; exact M7.out⟩
        · by_cases hyy : y0 = y1
          · have HEND := Lib.hid (show RV = ((0, 0), s) by rw [HRV2.out, if_pos rfl, if_pos rfl, if_pos hyy])
            have hEQ : ∀ W, (Op.equalIn 10000 38 (.agg (bva y0)) (.agg (bva y1))).run Try.prog W = .ok true W := fun W => by rw [eq_sec _ _ HY3.out HY4.out, decide_eq_true hyy]
            clear hyy
            go_wp2_with (first
              | (refine wpList_load_row rfl 38 (.tmp 6) rfl b6 rfl 38 (bva y0) (0, 0) _ X6.out.1 Try.underlying38 rfl HIY.out ?_)
              | (refine wpList_load_row rfl 38 (.tmp 8) rfl b8 rfl 38 (bva y1) (0, 0) _ Y6.out.1 Try.underlying38 rfl HIV.out ?_)
              | (refine wpList_execg8 rfl (exec_load 38 (.tmp 6) rfl rfl X6.out.1 Try.underlying38 rfl HIY.out) ?_)
              | (refine wpList_execg8 rfl (exec_load 38 (.tmp 8) rfl rfl Y6.out.1 Try.underlying38 rfl HIV.out) ?_))
            exact bodyPost_ret (results_tmp2 Try.results116 _ _ _) rfl ⟨by rw [HEND.out]; rfl, F2, by rw [HEND.out]; exact M6.out⟩
          · have hEQ : ∀ W, (Op.equalIn 10000 38 (.agg (bva y0)) (.agg (bva y1))).run Try.prog W = .ok false W := fun W => by rw [eq_sec _ _ HY3.out HY4.out, decide_eq_false hyy]
            have HNE := Lib.hid hyy
            clear hyy
            have HEND := Lib.hid (show RV = s.healTo 1 j y0 by rw [HRV2.out, if_pos rfl, if_pos rfl, if_neg HNE.out])
            have HME := Lib.hid (mend_any M6.out.at_ (i := 1) (by omega) (HJ.out 1) y0 HY3.out HM.out)
            obtain ⟨r, hr⟩ : ∃ r, r = s.mend 1 j y0 := ⟨_, rfl⟩
            have HE2 := Lib.hid (show RV = (if r.1 = 0 then (1, 0) else (0, r.1), r.2) by rw [HEND.out, Mr.healTo, hr])
            rw [← hr] at HME
            clear hr HRV2 HEND
            go_wp2_with (first
              | (refine wpList_load_row rfl 38 (.tmp 6) rfl b6 rfl 38 (bva y0) (0, 0) _ X6.out.1 Try.underlying38 rfl HIY.out ?_)
              | (refine wpList_load_row rfl 38 (.tmp 8) rfl b8 rfl 38 (bva y1) (0, 0) _ Y6.out.1 Try.underlying38 rfl HIV.out ?_)
              | (refine wpList_execg8 rfl (exec_load 38 (.tmp 6) rfl rfl X6.out.1 Try.underlying38 rfl HIY.out) ?_)
              | (refine wpList_execg8 rfl (exec_load 38 (.tmp 8) rfl rfl Y6.out.1 Try.underlying38 rfl HIV.out) ?_))
            refine HME.out.mono ?_
            rintro e w7 ⟨rfl, F7, hm7⟩
            have M7 := Lib.hid (M6.out.trans hm7)
            clear hm7 M6 HME X6 Y6
            obtain ⟨r1, hr1⟩ : ∃ r1, r1 = r.1 := ⟨_, rfl⟩
            rw [← hr1]
            by_cases hr0 : r1 = 0
            · have HE3 := Lib.hid (show RV = ((1, 0), r.2) by rw [HE2.out, ← hr1, if_pos hr0])
              subst hr0
              clear hr1
              go_wp2_with fail
              refine (healed_ok _).mono ?_
              rintro e w8 ⟨rfl, rfl⟩
              go_wp2_with fail
              exact bodyPost_ret (results_tmp2 Try.results116 _ _ _) rfl ⟨by rw [HE3.out]; rfl, F7, by rw [HE3.out]; exact M7.out⟩
            · have HE3 := Lib.hid (show RV = ((0, r1), r.2) by rw [HE2.out, ← hr1, if_neg hr0])
              have HR0 := Lib.hid hr0
              clear hr1 hr0
              go_wp2_with fail
              refine (healed_no _ r1 HR0.out).mono ?_
              rintro e w8 ⟨rfl, rfl⟩
              go_wp2_with fail
              exact bodyPost_ret (results_tmp2 Try.results116 _ _ _) rfl ⟨by rw [HE3.out]; rfl, F7, by rw [HE3.out]; exact M7.out⟩
end
end Go.Proofs.Ytnplhagfmfggcaa.Mi
/-
  The contract of the mirror's Flush.
-/
namespace Go.Proofs.Ytnplhagfmfggcaa.Mi
open Go.RowKit Kd
attribute [local go_sem ↓] Go.wp_at_zero Go.wp_at_succ
section
variable {C : Duo} {G : Gd} {g : Nat} {w : World} {s : Mr C} {F : Nat → Prop}
def Mr.fl0 (s : Mr C) (i : Nat) : Mr C := ⟨(C.fl s.d i).2, s.a, s.b⟩
/-- What both tell as they are flushed. -/
def Mr.flushed (s : Mr C) : Bool × Bool := ((C.fl s.d 0).1 == 0, (C.fl (s.fl0 0).d 1).1 == 0)
def Mr.flush (s : Mr C) : Int × Mr C :=
  (if (C.there s.d 0 || C.there s.d 1) && s.flushed == (C.there s.d 0, C.there s.d 1) then 0 else 13, (s.fl0 0).fl0 1)
theorem each_flush (h : (ML C G g).At w s F) : Calls Try.prog 107 #[.func (.func 109) #[.pointer (some ⟨g, 0, none⟩)] #[]] w (RetA (ML C G g) (.agg (two2 s.flushed.1 s.flushed.2)) ((s.fl0 0).fl0 1) F w) :=
  each_any h flush_enter (fun _ _ h => mflush_any h (i := 0) (by omega)) (fun _ _ h => mflush_any (s := s.fl0 0) h (i := 1) (by omega))
theorem flush_nil (w : World) : Calls Try.prog 56 #[.pointer none] w (RetB (.int .i64 13) w) := by
  go_enter Try.func56, Try.ntmps56
  go_wp2_with fail
  go_ret
  exact ⟨rfl, Below.refl _ _⟩
set_option maxRecDepth 100000 in
set_option maxHeartbeats 6400000 in
theorem mflushm_any (h : (ML C G g).At w s F) : Calls Try.prog 56 #[.pointer (some ⟨g, 0, none⟩)] w (RetA (ML C G g) (.int .i64 s.flush.1) s.flush.2 F w) := by
  obtain ⟨a, ha⟩ : ∃ a, a = C.there s.d 0 := ⟨_, rfl⟩
  obtain ⟨b, hb⟩ : ∃ b, b = C.there s.d 1 := ⟨_, rfl⟩
  obtain ⟨c, hc⟩ : ∃ c, c = s.flushed.1 := ⟨_, rfl⟩
  obtain ⟨d, hd⟩ : ∃ d, d = s.flushed.2 := ⟨_, rfl⟩
  obtain ⟨s2, hs2⟩ : ∃ s2, s2 = (s.fl0 0).fl0 1 := ⟨_, rfl⟩
  obtain ⟨RV, hRV⟩ : ∃ RV, RV = s.flush := ⟨_, rfl⟩
  have HRV := Lib.hid (show RV = (if (a || b) && (c, d) == (a, b) then 0 else 13, s2) by rw [hRV, Mr.flush, ← ha, ← hb, hs2, show s.flushed = (c, d) by rw [hc, hd]])
  rw [← hRV]
  have HT := Lib.hid (each_there h)
  rw [← ha, ← hb] at HT
  have HF := Lib.hid (show ∀ w F, (ML C G g).At w s F → Calls Try.prog 107 #[.func (.func 109) #[.pointer (some ⟨g, 0, none⟩)] #[]] w (RetA (ML C G g) (.agg (two2 c d)) s2 F w) from fun w F h => by
    rw [hc, hd, hs2]; exact each_flush h)
  clear ha hb hc hd hs2 hRV h
  go_enter Try.func56, Try.ntmps56
  go_wp2_with fail
  refine HT.out.mono ?_
  rintro e w1 ⟨rfl, F1, hm⟩
  have M1 := Lib.hid hm
  clear hm HT
  have HI2 : ∀ a b, (Try.prog.info? 185).map (·.size) = some (two2 a b).size := fun _ _ => by kernel_rfl
  have HII := Lib.hid HI2
  clear HI2
  go_wp2_with (show wpList _ _ _ ({ dst := none, op := .store 185 (.tmp 3) (.tmp 9), type := _, pos := _, after := _, guard := _ } :: _) _ _; apply Classical.byContradiction; intro hneg)
  refine hneg ?_
  clear hneg
  refine wpList_store_row rfl 185 (.tmp 3) (.tmp 9) rfl w1.heap.size (two2 a b) rfl rfl 185 (two2 false false) (heap_alloc_new _ _) (HII.out _ _) (by rfl) (two2_one _ _) ?_
  obtain ⟨w2, hw2⟩ : ∃ w2, w2 = (w1.alloc (.cells #[.bool false, .bool false] 185)).setRow w1.heap.size (two2 a b) := ⟨_, rfl⟩
  have hb2 : Below w1.heap.size w1 w2 := by rw [hw2]; exact below_setRow ((Below.refl _ _).alloc (Nat.le_refl _) _) (Nat.le_refl _) _
  have X2 := Lib.hid (show Bx w w2 F1 w1.heap.size (two2 a b) 185 from Bx.new M1.out (by rw [hw2]; exact setRow_heap _ _ _ _ _ _ (heap_alloc_new _ _)) (Nat.le_refl _))
  have M2 := Lib.hid (M1.out.below hb2)
  rw [← hw2]
  clear hw2 hb2 M1
  obtain ⟨b3, hb3⟩ : ∃ b3, b3 = w1.heap.size := ⟨_, rfl⟩
  rw [← hb3] at X2
  rw [← hb3]
  clear hb3
  go_wp2_with fail
  refine (HF.out _ _ M2.out.at_).mono ?_
  rintro e w3 ⟨rfl, F3, hm⟩
  have M3 := Lib.hid (M2.out.trans hm)
  have X3 := Lib.hid (X2.out.step hm)
  clear hm HF M2 X2
  go_wp2_with (show wpList _ _ _ ({ dst := none, op := .store 185 (.tmp 4) (.tmp 12), type := _, pos := _, after := _, guard := _ } :: _) _ _; apply Classical.byContradiction; intro hneg)
  refine hneg ?_
  clear hneg
  refine wpList_store_row rfl 185 (.tmp 4) (.tmp 12) rfl w3.heap.size (two2 c d) rfl rfl 185 (two2 false false) (heap_alloc_new _ _) (HII.out _ _) (by rfl) (two2_one _ _) ?_
  obtain ⟨w4, hw4⟩ : ∃ w4, w4 = (w3.alloc (.cells #[.bool false, .bool false] 185)).setRow w3.heap.size (two2 c d) := ⟨_, rfl⟩
  have hb4 : Below w3.heap.size w3 w4 := by rw [hw4]; exact below_setRow ((Below.refl _ _).alloc (Nat.le_refl _) _) (Nat.le_refl _) _
  have X4 := Lib.hid (show Bx w w4 F3 w3.heap.size (two2 c d) 185 from Bx.new M3.out (by rw [hw4]; exact setRow_heap _ _ _ _ _ _ (heap_alloc_new _ _)) (Nat.le_refl _))
  have X5 := Lib.hid (X3.out.below hb4)
  have M4 := Lib.hid (M3.out.below hb4)
  rw [← hw4]
  clear hw4 hb4 M3 X3
  obtain ⟨b4, hb4⟩ : ∃ b4, b4 = w3.heap.size := ⟨_, rfl⟩
  rw [← hb4] at X4
  rw [← hb4]
  clear hb4
  have hE1 : ∀ W, (Op.equalIn 10000 185 (.agg #[.bool a, .bool b]) (.agg #[.bool false, .bool false])).run Try.prog W = .ok (!(a || b)) W := eq_ff a b
  have hE2 : ∀ W, (Op.equalIn 10000 185 (.agg (two2 c d)) (.agg (two2 a b))).run Try.prog W = .ok ((c == a) && (d == b)) W := eq_two c d a b
  obtain ⟨o, ho⟩ : ∃ o, o = (a || b) := ⟨_, rfl⟩
  rw [← ho] at hE1 HRV
  obtain ⟨q, hq⟩ : ∃ q, q = ((c == a) && (d == b)) := ⟨_, rfl⟩
  rw [← hq] at hE2
  have HEND := Lib.hid (show RV = (if o && q then 0 else 13, s2) by rw [HRV.out, hq]; rfl)
  clear ho hq
  cases o
  · go_wp2_with (refine wpList_load_row rfl 185 (.tmp 3) rfl b3 rfl 185 #[.bool a, .bool b] (0, 0) _ X5.out.1 Try.underlying185 rfl (HII.out _ _) ?_)
    go_ret
    exact ⟨by rw [HEND.out]; rfl, F3, by rw [HEND.out]; exact M4.out⟩
  · cases q
    · go_wp2_with (first
        | (refine wpList_load_row rfl 185 (.tmp 3) rfl b3 rfl 185 #[.bool a, .bool b] (0, 0) _ X5.out.1 Try.underlying185 rfl (HII.out _ _) ?_)
        | (refine wpList_execg8 rfl (exec_load 185 (.tmp 4) rfl rfl X4.out.1 Try.underlying185 rfl (HII.out _ _)) ?_)
        | (refine wpList_execg8 rfl (exec_load 185 (.tmp 3) rfl rfl X5.out.1 Try.underlying185 rfl (HII.out _ _)) ?_))
      go_ret
      exact ⟨by rw [HEND.out]; rfl, F3, by rw [HEND.out]; exact M4.out⟩
    · go_wp2_with (first
        | (refine wpList_load_row rfl 185 (.tmp 3) rfl b3 rfl 185 #[.bool a, .bool b] (0, 0) _ X5.out.1 Try.underlying185 rfl (HII.out _ _) ?_)
        | (refine wpList_execg8 rfl (exec_load 185 (.tmp 4) rfl rfl X4.out.1 Try.underlying185 rfl (HII.out _ _)) ?_)
        | (refine wpList_execg8 rfl (exec_load 185 (.tmp 3) rfl rfl X5.out.1 Try.underlying185 rfl (HII.out _ _)) ?_))
      go_ret
      exact ⟨by rw [HEND.out]; rfl, F3, by rw [HEND.out]; exact M4.out⟩
end
end Go.Proofs.Ytnplhagfmfggcaa.Mi
/-
  The contracts of catchUp and Sync.
-/
namespace Go.Proofs.Ytnplhagfmfggcaa.Mi
open Go.RowKit Kd
attribute [local go_sem ↓] Go.wp_at_zero Go.wp_at_succ
section
variable {C : Duo} {G : Gd} {g : Nat} {w : World} {s : Mr C} {F : Nat → Prop}
/-- One place of a device catches up. -/
def Mr.catch1 (G : Gd) (s : Mr C) (i n : Nat) : Mr C := if (s.st i).getD n false && right C G s (1 - i) n then (s.mend i n (rightV C G s (1 - i) n)).2 else s
def Mr.catchTo (G : Gd) (s : Mr C) (i : Nat) : Nat → Mr C
  | 0 => s
  | n + 1 => (s.catchTo G i n).catch1 G i n
theorem mend_ok {k i n : Nat} {x : List UInt8} (h : s.ok k) : (s.mend i n x).2.ok k := by
  unfold Mr.mend; dsimp only; split
  · exact Mr.ok.put h
  · exact h
theorem mend_most {i n : Nat} {x : List UInt8} (hi : i < 2) : C.most (s.mend i n x).2.d ≤ C.most s.d + 1 := by
  unfold Mr.mend; dsimp only; split
  · rw [put_d]; exact C.wr_most hi
  · exact C.wr_most hi
theorem catch1_ok {k i n : Nat} (h : s.ok k) : (s.catch1 G i n).ok k := by
  unfold Mr.catch1; split
  · exact mend_ok h
  · exact h
theorem catch1_most {i n : Nat} (hi : i < 2) : C.most (s.catch1 G i n).d ≤ C.most s.d + 1 := by
  unfold Mr.catch1; split
  · exact mend_most hi
  · exact Nat.le_succ _
theorem catchTo_ok {k i : Nat} (h : s.ok k) : ∀ n, (s.catchTo G i n).ok k
  | 0 => h
  | n + 1 => catch1_ok (catchTo_ok h n)
theorem catchTo_most {i : Nat} (hi : i < 2) : ∀ n, C.most (s.catchTo G i n).d ≤ C.most s.d + n
  | 0 => Nat.le_refl _
  | n + 1 => Nat.le_trans (catch1_most hi) (by have := catchTo_most hi n; omega)
theorem pin_cell {A B : Option Addr} {n c m e : Nat} {w : World} {s : Mr C} (h : (ML C (G.at A n c B m e) g).At w s F) {i : Nat} (hi : i < 2) :
    w.cell? ⟨g, 2 + i, none⟩ = some (if i = 0 then .slice A n c else .slice B m e) ∧ (s.st i).length = (if i = 0 then n else m) := by
  obtain ⟨A', n', c', B', m', e', F1, h, _⟩ := h
  obtain ⟨rfl, rfl, rfl, rfl, rfl, rfl⟩ := h.pin
  rcases two hi with rfl | rfl
  · exact ⟨h.blk.cell 2, h.an⟩
  · exact ⟨h.blk.cell 3, h.bn⟩
/-- What Sync makes of a mirror, and tells. -/
def Mr.caught (G : Gd) (s : Mr C) (k : Nat) : Mr C := (s.catchTo G 0 k).catchTo G 1 k
def Mr.sync (G : Gd) (s : Mr C) (k : Nat) : Int × Mr C :=
  if C.there s.d 0 && C.there s.d 1 then
    (if (s.caught G k).flushed = (true, true) then (if cnt (((s.caught G k).fl0 0).fl0 1).a = 0 ∧ cnt (((s.caught G k).fl0 0).fl0 1).b = 0 then 0 else 9) else 13, ((s.caught G k).fl0 0).fl0 1)
  else (13, s)
end
end Go.Proofs.Ytnplhagfmfggcaa.Mi
/-
  The contract of the mirror's Read.
-/
namespace Go.Proofs.Ytnplhagfmfggcaa.Mi
open Go.RowKit Kd
attribute [local go_sem ↓] Go.wp_at_zero Go.wp_at_succ
section
variable {C : Duo} {G : Gd} {g : Nat} {w : World} {s : Mr C} {F1 F : Nat → Prop}
/-- What Read tells of a place: the sector; how it went. -/
def readM (C : Duo) (G : Gd) (s : Mr C) (n : Int) : List UInt8 × Int :=
  if has s n then
    (if right C G s 0 n.toNat then ((C.rd s.d 0 n).2, 0) else if right C G s 1 n.toNat then ((C.rd s.d 1 n).2, 0)
     else (zeroS, if C.there s.d 0 || C.there s.d 1 then 9 else 13))
  else (zeroS, 2)
set_option maxRecDepth 100000 in
set_option maxHeartbeats 3200000 in
theorem mread_no {P : Value} {n : Int} (hc : ∀ w', Below w.heap.size w w' → Calls Try.prog 121 #[P, .int .i64 n] w' (RetB (.bool false) w')) : Calls Try.prog 95 #[P, .int .i64 n] w (RetB (.tuple #[.agg (bva zeroS), .int .i64 2]) w) := by
  obtain ⟨z, hz0⟩ : ∃ z : List UInt8, z = zeroS := ⟨_, rfl⟩
  rw [← hz0]
  have hz : ∀ W, (zeroValue 38).run Try.prog W = .ok (.agg (bva z)) W := fun _ => by rw [hz0]; kernel_rfl
  have HBZ := Lib.hid (show ∀ W, (Instr.build 38 #[]).run Try.prog W = .ok (.agg (bva z)) W from fun _ => by rw [hz0]; kernel_rfl)
  have HIZ : Hid ((Try.prog.info? 38).map (·.size) = some (bva z).size) := by rw [bva_size, hz0, zeroS_length]; exact info_sec
  have R0 := Lib.hid (show Blk (w.alloc (.cells (bva z) 38)) w.heap.size (bva z) 38 from heap_alloc_new _ _)
  have HC := Lib.hid (hc _ ((Below.refl _ _).alloc (Nat.le_refl _) (.cells (bva z) 38)))
  clear hz0 hc
  go_enter Try.func95, Try.ntmps95
  go_wp2_with fail
  refine HC.out.mono ?_
  rintro e w1 ⟨rfl, bw⟩
  rw [World.size_alloc] at bw
  have R1 := Lib.hid (R0.out.below (by rw [World.size_alloc]; exact bw))
  have B1 := Lib.hid (show Below w.heap.size w w1 from ((Below.refl _ _).alloc (Nat.le_refl _) _).trans (bw.mono (Nat.le_succ _)))
  clear bw R0
  go_wp2_with (first
    | (refine wpList_build rfl 38 #[] rfl (v := .agg (bva z)) ?hbld ?_; case hbld => exact HBZ.out _)
    | (refine wpList_store_row rfl 38 (.tmp 4) (.tmp 13) rfl w.heap.size (bva z) rfl rfl 38 (bva z) R1.out HIZ.out (by rfl) (bva_one _) ?_))
  exact bodyPost_ret (v := .tuple #[.agg (bva z), .int .i64 2]) (results_ct8 Try.results95 _ _ w.heap.size 38 (bva z) _ rfl (setRow_heap _ _ _ _ _ _ R1.out) Try.underlying38 rfl HIZ.out) rfl ⟨rfl, below_setRow B1.out (Nat.le_refl _) _⟩
theorem mread_nil (n : Int) : Calls Try.prog 95 #[.pointer none, .int .i64 n] w (RetB (.tuple #[.agg (bva zeroS), .int .i64 2]) w) := mread_no (fun w' _ => has_nil w' n)
set_option maxRecDepth 100000 in
set_option maxHeartbeats 6400000 in
theorem mread_any (h : (ML C G g).At w s F) (hab : s.b.length = s.a.length) (n : Int) : Calls Try.prog 95 #[.pointer (some ⟨g, 0, none⟩), .int .i64 n] w (RetA (ML C G g) (.tuple #[.agg (bva (readM C G s n).1), .int .i64 (readM C G s n).2]) s F w) := by
  cases hh : has s n with
  | false =>
    rw [readM, hh, if_neg (by simp)]
    refine (mread_no (fun w' hb => ?_)).mono fun _ _ hr => RetB.reta h hr
    have := has_any ((ML C G g).below h hb) n
    rwa [hh] at this
  | true =>
    obtain ⟨k, rfl⟩ : ∃ k : Nat, n = (k : Int) := ⟨n.toNat, by rw [has] at hh; simp at hh; omega⟩
    have hk : k < s.a.length := by rw [has] at hh; simp at hh; exact hh
    have HK := Lib.hid (show ∀ i, i < 2 → k < (s.st i).length from fun i hi => by rcases two hi with rfl | rfl; exact hk; show k < s.b.length; omega)
    obtain ⟨z, hz0⟩ : ∃ z : List UInt8, z = zeroS := ⟨_, rfl⟩
    have hz : ∀ W, (zeroValue 38).run Try.prog W = .ok (.agg (bva z)) W := fun _ => by rw [hz0]; kernel_rfl
    have HBZ := Lib.hid (show ∀ W, (Instr.build 38 #[]).run Try.prog W = .ok (.agg (bva z)) W from fun _ => by rw [hz0]; kernel_rfl)
    have HZ3 := Lib.hid (show z.length = 128 by rw [hz0]; exact zeroS_length)
    have HIZ : Hid ((Try.prog.info? 38).map (·.size) = some (bva z).size) := by rw [bva_size, HZ3.out]; exact info_sec
    have R0 := Lib.hid (show Bx w (w.alloc (.cells (bva z) 38)) F w.heap.size (bva z) 38 from ⟨heap_alloc_new _ _, Nat.le_refl _, fun hf => by have := (ML C G g).lt h _ hf; omega⟩)
    have M0 := Lib.hid (show Mv (ML C G g) w F (w.alloc (.cells (bva z) 38)) s F from (Mv.start h).below ((Below.refl _ _).alloc (Nat.le_refl _) _))
    have hcc := has_any M0.out.at_ (k : Int)
    rw [hh] at hcc
    have HC := Lib.hid hcc
    obtain ⟨RV, hRV⟩ : ∃ RV, RV = Value.tuple #[.agg (bva (readM C G s k).1), .int .i64 (readM C G s k).2] := ⟨_, rfl⟩
    rw [← hRV]
    rw [readM, hh, if_pos rfl, Int.toNat_natCast, ← hz0] at hRV
    have HRV := Lib.hid hRV
    clear hRV hz0 hcc hh hk hab h
    go_enter Try.func95, Try.ntmps95
    go_wp2_with fail
    refine HC.out.mono ?_
    rintro e w1 ⟨rfl, bw⟩
    have M1 := Lib.hid (M0.out.below bw)
    have R1 := Lib.hid (R0.out.below bw)
    clear bw M0 R0
    obtain ⟨q, hq⟩ : ∃ q, q = w.heap.size := ⟨_, rfl⟩
    rw [← hq] at R1
    rw [← hq]
    clear hq
    go_wp2_with fail
    go_loopw [14] (fun i wr => ∃ (j : Nat) (F' : Nat → Prop), i = .int .i64 j ∧ j ≤ 2 ∧ Mv (ML C G g) w F wr s F' ∧ Bx w wr F' q (bva z) 38 ∧ ∀ i, i < j → right C G s i k = false) (fun i _ => 2 - (intOf i).toNat)
    case atStart => exact ⟨0, F, rfl, by omega, M1.out, R1.out, fun i hi => by omega⟩
    case round =>
      clear M1 R1
      obtain ⟨j, F', rfl, hj, hm, hr, hno⟩ := hrel
      have M := Lib.hid hm
      have R := Lib.hid hr
      have HJ := Lib.hid hj
      have HN := Lib.hid hno
      clear hm hr hj hno
      by_cases hlt : j < 2
      · have HJ2 := Lib.hid hlt
        have j0 : (0 : Int) ≤ (j : Int) := by omega
        have j1 : (j : Int) < 2 := by omega
        clear hlt
        go_wp2_with fail
        refine (right_any M.out.at_ HJ2.out (HK.out j HJ2.out)).mono ?_
        rintro e w2 ⟨rfl, bw⟩
        have M2 := Lib.hid (M.out.below bw)
        have R2 := Lib.hid (R.out.below bw)
        clear bw M R
        obtain ⟨y, hy⟩ : ∃ y, y = rightV C G s j k := ⟨_, rfl⟩
        have HY3 := Lib.hid (show y.length = 128 by rw [hy]; exact rightV_len M2.out.at_ HJ2.out k)
        have HIY : Hid ((Try.prog.info? 38).map (·.size) = some (bva y).size) := by rw [bva_size, HY3.out]; exact info_sec
        have HY := Lib.hid hy
        rw [← hy]
        clear hy
        go_wp2_with (show wpList _ _ _ ({ dst := none, op := .store 38 (.tmp 7) (.tmp 22), type := _, pos := _, after := _, guard := _ } :: _) _ _; apply Classical.byContradiction; intro hneg)
        refine hneg ?_
        clear hneg
        refine wpList_store_row rfl 38 (.tmp 7) (.tmp 22) rfl w2.heap.size (bva y) rfl rfl 38 (bva z) (heap_alloc_new _ _) HIY.out (by rw [bva_size, bva_size, HY3.out, HZ3.out]) (bva_one _) ?_
        obtain ⟨w3, hw3⟩ : ∃ w3, w3 = (w2.alloc (.cells (bva z) 38)).setRow w2.heap.size (bva y) := ⟨_, rfl⟩
        have hbw3 : Below w2.heap.size w2 w3 := by rw [hw3]; exact below_setRow ((Below.refl _ _).alloc (Nat.le_refl _) _) (Nat.le_refl _) _
        have BXw3 := Lib.hid (show Blk w3 w2.heap.size (bva y) 38 from by rw [hw3]; exact setRow_heap _ _ _ _ _ _ (heap_alloc_new _ _))
        rw [← hw3]
        clear hw3
        have M3 := Lib.hid (M2.out.below hbw3)
        have R3 := Lib.hid (R2.out.below hbw3)
        clear hbw3 M2 R2
        cases ho : right C G s j k with
        | false =>
          go_wp2_with fail
          go_roundw
          case rel => exact ⟨j + 1, F', by go_num, HJ2.out, M3.out, R3.out, fun i hi => by
            by_cases h : i < j
            · exact HN.out i h
            · obtain rfl : i = j := by omega
              exact ho⟩
          case measure => (have := HJ2.out; simp [intOf]; omega)
        | true =>
          have HEND := Lib.hid (show RV = .tuple #[.agg (bva y), .int .i64 0] by
            rw [HRV.out, HY.out, rightV, ho, if_pos rfl]
            rcases two HJ2.out with rfl | rfl
            · rw [ho, if_pos rfl]
            · rw [HN.out 0 (by omega), if_neg (by simp), ho, if_pos rfl])
          clear ho
          go_wp2_with (first
            | (refine wpList_load_row rfl 38 (.tmp 7) rfl w2.heap.size rfl 38 (bva y) (0, 0) _ BXw3.out Try.underlying38 rfl HIY.out ?_)
            | (refine wpList_store_row rfl 38 (.tmp 4) (.tmp 25) rfl q (bva y) rfl rfl 38 (bva z) R3.out.1 HIY.out (by rw [bva_size, bva_size, HY3.out, HZ3.out]) (bva_one _) ?_))
          exact bodyPost_ret (v := .tuple #[.agg (bva y), .int .i64 0]) (results_ct8 Try.results95 _ _ q 38 (bva y) _ rfl (setRow_heap _ _ _ _ _ _ R3.out.1) Try.underlying38 rfl HIY.out) rfl ⟨by rw [HEND.out], F', M3.out.own (But.setRow (S := fun x => x = q) (But.refl _) (.inl rfl) _) (fun x e => by rw [e]; exact R3.out.2.1) (fun x hx e => R3.out.2.2 (e ▸ hx))⟩
      · obtain rfl : j = 2 := by have := HJ.out; omega
        have hE := eq_ff
        obtain ⟨a, ha⟩ : ∃ a, a = C.there s.d 0 := ⟨_, rfl⟩
        obtain ⟨b, hb⟩ : ∃ b, b = C.there s.d 1 := ⟨_, rfl⟩
        have HEND := Lib.hid (show RV = .tuple #[.agg (bva z), .int .i64 (if a || b then 9 else 13)] by
          rw [HRV.out, HN.out 0 (by omega), if_neg (by simp), HN.out 1 (by omega), if_neg (by simp), ha, hb])
        have HT := Lib.hid (each_there M.out.at_)
        rw [← ha, ← hb] at HT
        clear hlt ha hb
        go_wp2_with fail
        refine HT.out.mono ?_
        rintro e w2 ⟨rfl, F2, hm2⟩
        have M2 := Lib.hid (M.out.trans hm2)
        have R2 := Lib.hid (R.out.step hm2)
        clear hm2 M R
        cases a <;> cases b
        · go_wp2_with (first
            | (refine wpList_build rfl 185 #[] rfl (v := .agg (two2 false false)) ?hbld ?_; case hbld => exact build_ff _)
            | (refine wpList_build rfl 38 #[] rfl (v := .agg (bva z)) ?hbld ?_; case hbld => exact HBZ.out _)
            | (refine wpList_store_row rfl 38 (.tmp 4) (.tmp 32) rfl q (bva z) rfl rfl 38 (bva z) R2.out.1 HIZ.out (by rfl) (bva_one _) ?_))
          exact bodyPost_ret (v := .tuple #[.agg (bva z), .int .i64 13]) (results_ct8 Try.results95 _ _ q 38 (bva z) _ rfl (setRow_heap _ _ _ _ _ _ R2.out.1) Try.underlying38 rfl HIZ.out) rfl ⟨by rw [HEND.out]; rfl, F2, M2.out.own (But.setRow (S := fun x => x = q) (But.refl _) (.inl rfl) _) (fun x e => by rw [e]; exact R2.out.2.1) (fun x hx e => R2.out.2.2 (e ▸ hx))⟩
        · go_wp2_with (first
            | (refine wpList_build rfl 185 #[] rfl (v := .agg (two2 false false)) ?hbld ?_; case hbld => exact build_ff _)
            | (refine wpList_build rfl 38 #[] rfl (v := .agg (bva z)) ?hbld ?_; case hbld => exact HBZ.out _)
            | (refine wpList_store_row rfl 38 (.tmp 4) (.tmp 33) rfl q (bva z) rfl rfl 38 (bva z) R2.out.1 HIZ.out (by rfl) (bva_one _) ?_))
          exact bodyPost_ret (v := .tuple #[.agg (bva z), .int .i64 9]) (results_ct8 Try.results95 _ _ q 38 (bva z) _ rfl (setRow_heap _ _ _ _ _ _ R2.out.1) Try.underlying38 rfl HIZ.out) rfl ⟨by rw [HEND.out]; rfl, F2, M2.out.own (But.setRow (S := fun x => x = q) (But.refl _) (.inl rfl) _) (fun x e => by rw [e]; exact R2.out.2.1) (fun x hx e => R2.out.2.2 (e ▸ hx))⟩
        · go_wp2_with (first
            | (refine wpList_build rfl 185 #[] rfl (v := .agg (two2 false false)) ?hbld ?_; case hbld => exact build_ff _)
            | (refine wpList_build rfl 38 #[] rfl (v := .agg (bva z)) ?hbld ?_; case hbld => exact HBZ.out _)
            | (refine wpList_store_row rfl 38 (.tmp 4) (.tmp 33) rfl q (bva z) rfl rfl 38 (bva z) R2.out.1 HIZ.out (by rfl) (bva_one _) ?_))
          exact bodyPost_ret (v := .tuple #[.agg (bva z), .int .i64 9]) (results_ct8 Try.results95 _ _ q 38 (bva z) _ rfl (setRow_heap _ _ _ _ _ _ R2.out.1) Try.underlying38 rfl HIZ.out) rfl ⟨by rw [HEND.out]; rfl, F2, M2.out.own (But.setRow (S := fun x => x = q) (But.refl _) (.inl rfl) _) (fun x e => by rw [e]; exact R2.out.2.1) (fun x hx e => R2.out.2.2 (e ▸ hx))⟩
        · go_wp2_with (first
            | (refine wpList_build rfl 185 #[] rfl (v := .agg (two2 false false)) ?hbld ?_; case hbld => exact build_ff _)
            | (refine wpList_build rfl 38 #[] rfl (v := .agg (bva z)) ?hbld ?_; case hbld => exact HBZ.out _)
            | (refine wpList_store_row rfl 38 (.tmp 4) (.tmp 33) rfl q (bva z) rfl rfl 38 (bva z) R2.out.1 HIZ.out (by rfl) (bva_one _) ?_))
          exact bodyPost_ret (v := .tuple #[.agg (bva z), .int .i64 9]) (results_ct8 Try.results95 _ _ q 38 (bva z) _ rfl (setRow_heap _ _ _ _ _ _ R2.out.1) Try.underlying38 rfl HIZ.out) rfl ⟨by rw [HEND.out]; rfl, F2, M2.out.own (But.setRow (S := fun x => x = q) (But.refl _) (.inl rfl) _) (fun x e => by rw [e]; exact R2.out.2.1) (fun x hx e => R2.out.2.2 (e ▸ hx))⟩
end
end Go.Proofs.Ytnplhagfmfggcaa.Mi
/-
  A mirror of two devices of powers of their own that never fail, as the document tells of it: two lists, which of them are there, what is stale. No program.
-/
namespace Go.Proofs.Ytnplhagfmfggcaa.Mi
open Kd
structure Md where
  l0 : List (List UInt8)
  l1 : List (List UInt8)
  o0 : Bool
  o1 : Bool
  a : List Bool
  b : List Bool
def Md.l (x : Md) (i : Nat) : List (List UInt8) := if i = 0 then x.l0 else x.l1
def Md.o (x : Md) (i : Nat) : Bool := if i = 0 then x.o0 else x.o1
def Md.st (x : Md) (i : Nat) : List Bool := if i = 0 then x.a else x.b
def Md.setL (x : Md) (i k : Nat) (y : List UInt8) : Md := if i = 0 then { x with l0 := x.l0.set k y } else { x with l1 := x.l1.set k y }
def Md.put (x : Md) (i k : Nat) (v : Bool) : Md := if i = 0 then { x with a := x.a.set k v } else { x with b := x.b.set k v }
/-- A sector is written to a device, if it is there. -/
def Md.wd (x : Md) (i k : Nat) (y : List UInt8) : Md := if x.o i then x else x.setL i k y
def Md.has (x : Md) (n : Int) : Bool := decide (0 ≤ n) && decide (n < x.a.length)
section
variable {p1 g1 p2 g2 : Nat}
abbrev Two (p1 g1 p2 g2 : Nat) : Duo := duo (uno p1 g1) (uno p2 g2)
structure Sees (s : Mr (Two p1 g1 p2 g2)) (x : Md) (m : Nat) : Prop where
  d0 : See s.d.1 x.l0 x.o0 m
  d1 : See s.d.2 x.l1 x.o1 m
  a : s.a = x.a
  b : s.b = x.b
  n0 : x.l0.length = x.a.length
  n1 : x.l1.length = x.a.length
  nb : x.b.length = x.a.length
variable {s : Mr (Two p1 g1 p2 g2)} {x : Md} {m : Nat} {G : Gd}
theorem Sees.more (h : Sees s x m) {m' : Nat} (hm : m ≤ m') : Sees s x m' := ⟨h.d0.more hm, h.d1.more hm, h.a, h.b, h.n0, h.n1, h.nb⟩
theorem Sees.ok (h : Sees s x m) : s.ok x.a.length := ⟨by rw [h.a], by rw [h.b]; exact h.nb⟩
theorem Sees.st (h : Sees s x m) (i : Nat) : s.st i = x.st i := by
  unfold Mr.st Md.st; split
  · exact h.a
  · exact h.b
theorem Sees.most (h : Sees s x m) : (Two p1 g1 p2 g2).most s.d ≤ m := by
  have h0 := h.d0.few
  have h1 := h.d1.few
  show max (mostS s.d.1) (mostS s.d.2) ≤ m
  unfold mostS
  rw [if_pos h.d0.ds, if_pos h.d1.ds]
  omega
theorem Sees.has (h : Sees s x m) (n : Int) : Mi.has s n = x.has n := by rw [Mi.has, Md.has, h.a]
theorem Sees.rd (h : Sees s x m) {i : Nat} (hi : i < 2) (n : Int) :
    (Two p1 g1 p2 g2).rd s.d i n = (if x.o i then 13 else if n < 0 ∨ (x.a.length : Int) ≤ n then 2 else 0, if x.o i = false ∧ 0 ≤ n ∧ n < (x.a.length : Int) then (x.l i).getD n.toNat zeroS else zeroS) := by
  rcases two hi with rfl | rfl
  · show (refuseN s.d.1.p (s.d.1.at 0) n, readS s.d.1.p (s.d.1.at 0) n) = _
    rw [h.d0.refuse, h.d0.read, h.n0]; rfl
  · show (refuseN s.d.2.p (s.d.2.at 0) n, readS s.d.2.p (s.d.2.at 0) n) = _
    rw [h.d1.refuse, h.d1.read, h.n1]; rfl
theorem Sees.there (h : Sees s x m) {i : Nat} (hi : i < 2) : (Two p1 g1 p2 g2).there s.d i = !(x.o i) := by
  have hp : ((Two p1 g1 p2 g2).ptr i).isSome = true := by rcases two hi with rfl | rfl <;> rfl
  rw [Duo.there, hp, h.rd hi]
  cases x.o i
  · show (true && ((if false = true then (13 : Int) else if (0 : Int) < 0 ∨ (x.a.length : Int) ≤ 0 then 2 else 0) != 13)) = true
    rw [if_neg (by simp)]
    split <;> rfl
  · rfl
/-- A place's reading. -/
theorem Sees.rd_at (h : Sees s x m) {i k : Nat} (hi : i < 2) (hk : k < x.a.length) : (Two p1 g1 p2 g2).rd s.d i (k : Int) = (if x.o i then 13 else 0, if x.o i then zeroS else (x.l i).getD k zeroS) := by
  rw [h.rd hi]
  cases x.o i
  · simp only [Bool.false_eq_true, if_false, true_and]
    rw [if_neg (by omega), if_pos ⟨by omega, by omega⟩, Int.toNat_natCast]
  · simp
theorem Sees.rdOk (h : Sees s x m) {i k : Nat} (hi : i < 2) (hk : k < x.a.length) : Mi.rdOk (Two p1 g1 p2 g2) G s.d i (k : Int) = (!(x.o i) && G.f k ((x.l i).getD k zeroS)) := by
  rw [Mi.rdOk, h.rd_at hi hk]
  cases x.o i <;> rfl
/-- Does a device have a place right? -/
def Md.right (f : Int → List UInt8 → Bool) (x : Md) (i k : Nat) : Bool := !((x.st i).getD k false) && (!(x.o i) && f k ((x.l i).getD k zeroS))
theorem Sees.right (h : Sees s x m) {i k : Nat} (hi : i < 2) (hk : k < x.a.length) : Mi.right (Two p1 g1 p2 g2) G s i k = x.right G.f i k := by
  rw [Mi.right, Md.right, h.st, h.rdOk hi hk]
theorem Sees.rightV (h : Sees s x m) {i k : Nat} (hi : i < 2) (hk : k < x.a.length) (hr : x.right G.f i k = true) : Mi.rightV (Two p1 g1 p2 g2) G s i k = (x.l i).getD k zeroS := by
  have ho : x.o i = false := by
    rw [Md.right] at hr
    cases ho : x.o i
    · rfl
    · rw [ho] at hr; simp at hr
  rw [Mi.rightV, h.right hi hk, hr, if_pos rfl, h.rd_at hi hk, ho]; rfl
/-! ### Writing -/
theorem Sees.put (h : Sees s x m) (i k : Nat) (v : Bool) : Sees (s.put i k v) (x.put i k v) m := by
  unfold Mr.put Md.put
  split
  · exact ⟨h.d0, h.d1, by show s.a.set k v = x.a.set k v; rw [h.a], h.b, by show x.l0.length = (x.a.set k v).length; rw [List.length_set]; exact h.n0, by show x.l1.length = (x.a.set k v).length; rw [List.length_set]; exact h.n1, by show x.b.length = (x.a.set k v).length; rw [List.length_set]; exact h.nb⟩
  · exact ⟨h.d0, h.d1, h.a, by show s.b.set k v = x.b.set k v; rw [h.b], h.n0, h.n1, by show (x.b.set k v).length = x.a.length; rw [List.length_set]; exact h.nb⟩
theorem Sees.wd (h : Sees s x m) {i k : Nat} (hi : i < 2) (hk : k < x.a.length) (y : List UInt8) :
    ((Two p1 g1 p2 g2).wr s.d i (k : Int) y).1 = (if x.o i then 13 else 0) ∧ Sees (s.dev ((Two p1 g1 p2 g2).wr s.d i (k : Int) y).2) (x.wd i k y) (m + 1) := by
  rcases two hi with rfl | rfl
  · cases ho : x.o0 with
    | true =>
      have hw := h.d0.write_no (n := (k : Int)) (x := y) (by rw [ho]; simp)
      have e : (Two p1 g1 p2 g2).wr s.d 0 (k : Int) y = (13, s.d) := by
        show ((s.d.1.write 0 k y).1, ((s.d.1.write 0 k y).2, s.d.2)) = _
        rw [hw, ho]; rfl
      rw [e]
      refine ⟨by rw [show x.o 0 = true from ho]; rfl, ?_⟩
      rw [Md.wd, show x.o 0 = true from ho, if_pos rfl]
      exact h.more (Nat.le_succ _)
    | false =>
      obtain ⟨h1, h2⟩ := h.d0.write_yes (x := y) ho (k := k) (by rw [h.n0]; exact hk)
      refine ⟨by show (s.d.1.write 0 k y).1 = _; rw [h1, show x.o 0 = false from ho]; rfl, ?_⟩
      rw [Md.wd, show x.o 0 = false from ho, if_neg (by simp)]
      exact ⟨h2, h.d1.more (Nat.le_succ _), h.a, h.b, by show (x.l0.set k y).length = _; rw [List.length_set]; exact h.n0, h.n1, h.nb⟩
  · cases ho : x.o1 with
    | true =>
      have hw := h.d1.write_no (n := (k : Int)) (x := y) (by rw [ho]; simp)
      have e : (Two p1 g1 p2 g2).wr s.d 1 (k : Int) y = (13, s.d) := by
        show ((s.d.2.write 0 k y).1, (s.d.1, (s.d.2.write 0 k y).2)) = _
        rw [hw, ho]; rfl
      rw [e]
      refine ⟨by rw [show x.o 1 = true from ho]; rfl, ?_⟩
      rw [Md.wd, show x.o 1 = true from ho, if_pos rfl]
      exact h.more (Nat.le_succ _)
    | false =>
      obtain ⟨h1, h2⟩ := h.d1.write_yes (x := y) ho (k := k) (by rw [h.n1]; exact hk)
      refine ⟨by show (s.d.2.write 0 k y).1 = _; rw [h1, show x.o 1 = false from ho]; rfl, ?_⟩
      rw [Md.wd, show x.o 1 = false from ho, if_neg (by simp)]
      exact ⟨h.d0.more (Nat.le_succ _), h2, h.a, h.b, h.n0, by show (x.l1.set k y).length = _; rw [List.length_set]; exact h.n1, h.nb⟩
theorem wd_o (x : Md) (i k j : Nat) (y : List UInt8) : (x.wd i k y).o j = x.o j := by
  unfold Md.wd Md.setL Md.o; (repeat' split) <;> rfl
theorem wd_a (x : Md) (i k : Nat) (y : List UInt8) : (x.wd i k y).a = x.a := by
  unfold Md.wd Md.setL; (repeat' split) <;> rfl
/-- What Write, and Choose, tell and make of it. -/
def Md.write (x : Md) (n : Int) (y : List UInt8) : Int × Md :=
  if x.has n then (if x.o0 && x.o1 then (13, x) else (0, (((x.wd 0 n.toNat y).wd 1 n.toNat y).put 0 n.toNat x.o0).put 1 n.toNat x.o1)) else (2, x)
theorem has_place {x : Md} {n : Int} (h : x.has n = true) : ∃ k : Nat, n = (k : Int) ∧ k < x.a.length := by
  rw [Md.has] at h
  simp at h
  exact ⟨n.toNat, by omega, by omega⟩
theorem eq13 (o : Bool) : ((if o then (13 : Int) else 0) == 0) = !o := by cases o <;> rfl
theorem Sees.write (h : Sees s x m) (n : Int) (y : List UInt8) : (s.write n y).1 = (x.write n y).1 ∧ Sees (s.write n y).2 (x.write n y).2 (m + 2) := by
  rw [Mr.write, Md.write, h.has]
  cases hh : x.has n with
  | false => exact ⟨rfl, h.more (by omega)⟩
  | true =>
    obtain ⟨k, rfl, hk⟩ := has_place hh
    rw [if_pos rfl, if_pos rfl, Int.toNat_natCast]
    obtain ⟨e0, h0⟩ := h.wd (i := 0) (by omega) hk y
    obtain ⟨e1, h1⟩ := h0.wd (i := 1) (by omega) (by rw [wd_a]; exact hk) y
    have e1' : ((Two p1 g1 p2 g2).wr (s.w0 (k : Int) y 0).d 1 (k : Int) y).1 = _ := e1
    rw [wd_o] at e1'
    rw [e0, e1', eq13, eq13]
    have h2 : Sees ((s.w0 (k : Int) y 0).w0 (k : Int) y 1) ((x.wd 0 k y).wd 1 k y) (m + 1 + 1) := h1
    rw [Mr.reach, show x.o 0 = x.o0 from rfl, show x.o 1 = x.o1 from rfl]
    cases ho0 : x.o0 <;> cases ho1 : x.o1
    · exact ⟨rfl, (h2.put 0 k false).put 1 k false⟩
    · exact ⟨rfl, (h2.put 0 k false).put 1 k true⟩
    · exact ⟨rfl, (h2.put 0 k true).put 1 k false⟩
    · refine ⟨rfl, ?_⟩
      have hx : (x.wd 0 k y).wd 1 k y = x := by
        have h3 : x.wd 0 k y = x := by rw [Md.wd, show x.o 0 = true from ho0, if_pos rfl]
        rw [h3, Md.wd, show x.o 1 = true from ho1, if_pos rfl]
      rw [hx] at h2
      exact h2
end
end Go.Proofs.Ytnplhagfmfggcaa.Mi
/-
  .. and what Choose, Flush, Read, Heal, Both, Sync, New, Out and Rot make of it. No program.
-/
namespace Go.Proofs.Ytnplhagfmfggcaa.Mi
open Kd
section
variable {p1 g1 p2 g2 : Nat} {s : Mr (Two p1 g1 p2 g2)} {x : Md} {m : Nat} {G : Gd}
theorem list_set_self {α : Type} (l : List α) (k : Nat) (d : α) : l.set k (l.getD k d) = l := by
  apply List.ext_getElem?
  intro j
  rw [List.getElem?_set]
  split
  · rename_i h; subst h
    split
    · rename_i h; rw [List.getD_eq_getElem?_getD, List.getElem?_eq_getElem h]; rfl
    · rename_i h; rw [List.getElem?_eq_none (by omega)]
  · rfl
theorem wd_same {i k : Nat} (h : x.o i = false) : x.wd i k ((x.l i).getD k zeroS) = x := by
  rw [Md.wd, h, if_neg (by simp), Md.setL]
  unfold Md.l
  split
  · show { x with l0 := x.l0.set k (x.l0.getD k zeroS) } = x
    rw [list_set_self]
  · show { x with l1 := x.l1.set k (x.l1.getD k zeroS) } = x
    rw [list_set_self]
theorem Sees.c1 (h : Sees s x m) {i k : Nat} (hi : i < 2) (hk : k < x.a.length) (y : List UInt8) : (s.c1 (k : Int) y i).1 = !(x.o i) ∧ Sees (s.c1 (k : Int) y i).2 (x.wd i k y) (m + 1) := by
  obtain ⟨e, hw⟩ := h.wd hi hk y
  rw [Mr.c1, h.rd_at hi hk]
  cases ho : x.o i with
  | true =>
    rw [if_neg (by simp)]
    refine ⟨rfl, ?_⟩
    rw [Md.wd, ho, if_pos rfl]
    exact h.more (Nat.le_succ _)
  | false =>
    rw [if_pos (by simp)]
    by_cases hy : (x.l i).getD k zeroS = y
    · rw [if_pos (by simpa using hy)]
      refine ⟨rfl, ?_⟩
      rw [← hy, wd_same ho]
      exact h.more (Nat.le_succ _)
    · rw [if_neg (by simpa using hy)]
      exact ⟨by rw [e, eq13, ho], hw⟩
theorem Sees.choose (h : Sees s x m) (n : Int) (y : List UInt8) : (s.choose n y).1 = (x.write n y).1 ∧ Sees (s.choose n y).2 (x.write n y).2 (m + 2) := by
  rw [Mr.choose, Md.write, h.has]
  cases hh : x.has n with
  | false => exact ⟨rfl, h.more (by omega)⟩
  | true =>
    obtain ⟨k, rfl, hk⟩ := has_place hh
    rw [if_pos rfl, if_pos rfl, Int.toNat_natCast]
    obtain ⟨e0, h0⟩ := h.c1 (i := 0) (by omega) hk y
    obtain ⟨e1, h1⟩ := h0.c1 (i := 1) (by omega) (by rw [wd_a]; exact hk) y
    rw [wd_o] at e1
    rw [e0, e1]
    have h2 : Sees ((s.c1 (k : Int) y 0).2.c1 (k : Int) y 1).2 ((x.wd 0 k y).wd 1 k y) (m + 1 + 1) := h1
    rw [Mr.reach, show x.o 0 = x.o0 from rfl, show x.o 1 = x.o1 from rfl]
    cases ho0 : x.o0 <;> cases ho1 : x.o1
    · exact ⟨rfl, (h2.put 0 k false).put 1 k false⟩
    · exact ⟨rfl, (h2.put 0 k false).put 1 k true⟩
    · exact ⟨rfl, (h2.put 0 k true).put 1 k false⟩
    · refine ⟨rfl, ?_⟩
      have hx : (x.wd 0 k y).wd 1 k y = x := by
        have h3 : x.wd 0 k y = x := by rw [Md.wd, show x.o 0 = true from ho0, if_pos rfl]
        rw [h3, Md.wd, show x.o 1 = true from ho1, if_pos rfl]
      rw [hx] at h2
      exact h2
/-! ### Flushing: m is 0 of what is out -/
/-- Nothing waits of a device that is out. -/
structure Dry (s : Mr (Two p1 g1 p2 g2)) (x : Md) : Prop where
  d0 : x.o0 = true → See s.d.1 x.l0 x.o0 0
  d1 : x.o1 = true → See s.d.2 x.l1 x.o1 0
theorem Sees.dry (h : Sees s x 0) : Dry s x := ⟨fun _ => h.d0, fun _ => h.d1⟩
theorem Dry.put (h : Dry s x) (i k : Nat) (v : Bool) : Dry (s.put i k v) (x.put i k v) := by
  unfold Mr.put Md.put; split <;> exact ⟨h.d0, h.d1⟩
theorem Dry.wd (h : Dry s x) (hs : Sees s x m) {i k : Nat} (hi : i < 2) (y : List UInt8) : Dry (s.dev ((Two p1 g1 p2 g2).wr s.d i (k : Int) y).2) (x.wd i k y) := by
  rcases two hi with rfl | rfl
  · cases ho : x.o0 with
    | true =>
      have hw := hs.d0.write_no (n := (k : Int)) (x := y) (by rw [ho]; simp)
      have e : ((Two p1 g1 p2 g2).wr s.d 0 (k : Int) y).2 = s.d := by
        show ((s.d.1.write 0 k y).2, s.d.2) = _
        rw [hw]; rfl
      rw [e, Md.wd, show x.o 0 = true from ho, if_pos rfl]
      exact h
    | false =>
      rw [Md.wd, show x.o 0 = false from ho, if_neg (by simp)]
      exact ⟨fun h1 => (by have h2 : x.o0 = true := h1; rw [ho] at h2; cases h2), h.d1⟩
  · cases ho : x.o1 with
    | true =>
      have hw := hs.d1.write_no (n := (k : Int)) (x := y) (by rw [ho]; simp)
      have e : ((Two p1 g1 p2 g2).wr s.d 1 (k : Int) y).2 = s.d := by
        show (s.d.1, (s.d.2.write 0 k y).2) = _
        rw [hw]; rfl
      rw [e, Md.wd, show x.o 1 = true from ho, if_pos rfl]
      exact h
    | false =>
      rw [Md.wd, show x.o 1 = false from ho, if_neg (by simp)]
      exact ⟨h.d0, fun h1 => (by have h2 : x.o1 = true := h1; rw [ho] at h2; cases h2)⟩
theorem Sees.fl (h : Sees s x m) (hd : Dry s x) : s.flushed = (!x.o0, !x.o1) ∧ Sees ((s.fl0 0).fl0 1) x 0 := by
  have e0 : ((Two p1 g1 p2 g2).fl s.d 0) = ((s.d.1.flush 0).1, ((s.d.1.flush 0).2, s.d.2)) := rfl
  have e1 : ((Two p1 g1 p2 g2).fl (s.fl0 0).d 1) = ((s.d.2.flush 0).1, ((s.d.1.flush 0).2, (s.d.2.flush 0).2)) := rfl
  have h0 : ((s.d.1.flush 0).1 == 0) = !x.o0 ∧ See (s.d.1.flush 0).2 x.l0 x.o0 0 := by
    cases ho : x.o0 with
    | true => rw [h.d0.flush_no ho]; exact ⟨rfl, ho ▸ hd.d0 ho⟩
    | false => obtain ⟨h1, h2⟩ := h.d0.flush_yes ho; rw [h1]; exact ⟨rfl, ho ▸ h2⟩
  have h1 : ((s.d.2.flush 0).1 == 0) = !x.o1 ∧ See (s.d.2.flush 0).2 x.l1 x.o1 0 := by
    cases ho : x.o1 with
    | true => rw [h.d1.flush_no ho]; exact ⟨rfl, ho ▸ hd.d1 ho⟩
    | false => obtain ⟨h1, h2⟩ := h.d1.flush_yes ho; rw [h1]; exact ⟨rfl, ho ▸ h2⟩
  refine ⟨?_, h0.2, h1.2, h.a, h.b, h.n0, h.n1, h.nb⟩
  rw [Mr.flushed, e1]
  show (((s.d.1.flush 0).1 == 0), ((s.d.2.flush 0).1 == 0)) = _
  rw [h0.1, h1.1]
theorem Sees.flush (h : Sees s x m) (hd : Dry s x) : s.flush.1 = (if x.o0 && x.o1 then 13 else 0) ∧ Sees s.flush.2 x 0 := by
  obtain ⟨h1, h2⟩ := h.fl hd
  rw [Mr.flush, h1, h.there (by omega), h.there (by omega), show x.o 0 = x.o0 from rfl, show x.o 1 = x.o1 from rfl]
  refine ⟨?_, h2⟩
  cases x.o0 <;> cases x.o1 <;> rfl
/-! ### Reading -/
def Md.read (f : Int → List UInt8 → Bool) (x : Md) (n : Int) : List UInt8 × Int :=
  if x.has n then (if x.right f 0 n.toNat then (x.l0.getD n.toNat zeroS, 0) else if x.right f 1 n.toNat then (x.l1.getD n.toNat zeroS, 0) else (zeroS, if x.o0 && x.o1 then 13 else 9)) else (zeroS, 2)
theorem right_in {f : Int → List UInt8 → Bool} {i k : Nat} (hr : x.right f i k = true) : x.o i = false := by
  rw [Md.right] at hr
  cases ho : x.o i
  · rfl
  · rw [ho] at hr; simp at hr
theorem Sees.read (h : Sees s x m) (n : Int) : readM (Two p1 g1 p2 g2) G s n = x.read G.f n := by
  rw [readM, Md.read, h.has]
  cases hh : x.has n with
  | false => rfl
  | true =>
    obtain ⟨k, rfl, hk⟩ := has_place hh
    rw [if_pos rfl, if_pos rfl, Int.toNat_natCast, h.right (by omega) hk, h.right (by omega) hk, h.rd_at (by omega) hk, h.rd_at (by omega) hk, h.there (by omega), h.there (by omega)]
    cases h0 : x.right G.f 0 k with
    | true => simp only [if_true, right_in h0]; rfl
    | false =>
      simp only [Bool.false_eq_true, if_false]
      cases h1 : x.right G.f 1 k with
      | true => simp only [if_true, right_in h1]; rfl
      | false =>
        simp only [Bool.false_eq_true, if_false]
        rw [show x.o 0 = x.o0 from rfl, show x.o 1 = x.o1 from rfl]
        cases x.o0 <;> cases x.o1 <;> rfl
/-- What Both tells. -/
def Md.bothTo (f : Int → List UInt8 → Bool) (x : Md) (k : Nat) : Nat → List (List UInt8)
  | 0 => []
  | p + 1 => x.bothTo f k p ++ if !(x.o p) && f k ((x.l p).getD k zeroS) then [(x.l p).getD k zeroS] else []
def Md.both (f : Int → List UInt8 → Bool) (x : Md) (n : Int) : List (List UInt8) := if x.has n then x.bothTo f n.toNat 2 else []
theorem Sees.bothTo (h : Sees s x m) {k : Nat} (hk : k < x.a.length) : ∀ p, p ≤ 2 → Mi.bothTo (Two p1 g1 p2 g2) G s.d (k : Int) p = x.bothTo G.f k p
  | 0, _ => rfl
  | p + 1, hp => by
    rw [Mi.bothTo, Md.bothTo, h.bothTo hk p (by omega), h.rdOk (by omega) hk, h.rd_at (by omega) hk]
    cases ho : x.o p
    · rfl
    · rfl
theorem Sees.both (h : Sees s x m) (n : Int) : bothL G s n = x.both G.f n := by
  rw [bothL, Md.both, h.has]
  cases hh : x.has n with
  | false => rfl
  | true =>
    obtain ⟨k, rfl, hk⟩ := has_place hh
    rw [if_pos rfl, if_pos rfl, Int.toNat_natCast, h.bothTo hk 2 (by omega)]
/-! ### Healing -/
def Md.mend (x : Md) (i k : Nat) (y : List UInt8) : Md := (x.setL i k y).put i k false
theorem Sees.mend (h : Sees s x m) {i k : Nat} (hi : i < 2) (hk : k < x.a.length) (ho : x.o i = false) (y : List UInt8) : (s.mend i k y).1 = 0 ∧ Sees (s.mend i k y).2 (x.mend i k y) (m + 1) := by
  obtain ⟨e, hw⟩ := h.wd hi hk y
  rw [ho] at e
  rw [Md.wd, ho, if_neg (by simp)] at hw
  rw [Mr.mend]
  rw [e]
  exact ⟨rfl, hw.put i k false⟩
def Md.heal (f : Int → List UInt8 → Bool) (x : Md) (n : Int) : (Int × Int) × Md :=
  if x.has n then
    if x.o0 || x.o1 then ((0, 13), x)
    else if x.right f 0 n.toNat then
      (if x.right f 1 n.toNat && decide (x.l0.getD n.toNat zeroS = x.l1.getD n.toNat zeroS) then ((0, 0), x) else ((1, 0), x.mend 1 n.toNat (x.l0.getD n.toNat zeroS)))
    else if x.right f 1 n.toNat then ((1, 0), x.mend 0 n.toNat (x.l1.getD n.toNat zeroS)) else ((2, 0), x)
  else ((0, 2), x)
theorem Sees.healTo (h : Sees s x m) {i k : Nat} (hi : i < 2) (hk : k < x.a.length) (ho : x.o i = false) (y : List UInt8) : (s.healTo i k y).1 = (1, 0) ∧ Sees (s.healTo i k y).2 (x.mend i k y) (m + 1) := by
  obtain ⟨e, hw⟩ := h.mend hi hk ho y
  rw [Mr.healTo, e]
  exact ⟨rfl, hw⟩
theorem Sees.heal (h : Sees s x m) (n : Int) : (s.heal G n).1 = (x.heal G.f n).1 ∧ Sees (s.heal G n).2 (x.heal G.f n).2 (m + 1) := by
  rw [Mr.heal, Md.heal, h.has]
  cases hh : x.has n with
  | false => exact ⟨rfl, h.more (by omega)⟩
  | true =>
    obtain ⟨k, rfl, hk⟩ := has_place hh
    rw [if_pos rfl, if_pos rfl, Int.toNat_natCast, h.there (by omega), h.there (by omega), h.right (by omega) hk, h.right (by omega) hk, show x.o 0 = x.o0 from rfl, show x.o 1 = x.o1 from rfl]
    cases ho0 : x.o0 with
    | true => exact ⟨rfl, h.more (by omega)⟩
    | false =>
      cases ho1 : x.o1 with
      | true => exact ⟨rfl, h.more (by omega)⟩
      | false =>
        rw [if_pos (show ((!false) && !false) = true from rfl), if_neg (show ¬ (false || false) = true by simp)]
        cases h0 : x.right G.f 0 k with
        | true =>
          have v0 : Mi.rightV (Two p1 g1 p2 g2) G s 0 k = x.l0.getD k zeroS := h.rightV (i := 0) (by omega) hk h0
          simp only [if_true, v0]
          cases h1 : x.right G.f 1 k with
          | true =>
            have v1 : Mi.rightV (Two p1 g1 p2 g2) G s 1 k = x.l1.getD k zeroS := h.rightV (i := 1) (by omega) hk h1
            simp only [if_true, v1, Bool.true_and]
            by_cases he : x.l0.getD k zeroS = x.l1.getD k zeroS
            · rw [if_pos he, if_pos (decide_eq_true he)]; exact ⟨rfl, h.more (by omega)⟩
            · rw [if_neg he, if_neg (by rw [decide_eq_false he]; simp)]; exact h.healTo (i := 1) (by omega) hk ho1 _
          | false => simp only [Bool.false_eq_true, if_false, Bool.false_and]; exact h.healTo (i := 1) (by omega) hk ho1 _
        | false =>
          simp only [Bool.false_eq_true, if_false]
          cases h1 : x.right G.f 1 k with
          | true =>
            have v1 : Mi.rightV (Two p1 g1 p2 g2) G s 1 k = x.l1.getD k zeroS := h.rightV (i := 1) (by omega) hk h1
            simp only [if_true, v1]; exact h.healTo (i := 0) (by omega) hk ho0 _
          | false => simp only [Bool.false_eq_true, if_false]; exact ⟨trivial, h.more (by omega)⟩
/-! ### New -/
def Md.new (n : Nat) : Md := ⟨List.replicate n zeroS, List.replicate n zeroS, false, false, List.replicate n false, List.replicate n false⟩
theorem sees_new {S T : Sy} {L0 L1 : List (List UInt8)} {o0 o1 : Bool} {n : Nat} (h0 : See S L0 o0 m) (h1 : See T L1 o1 m) (e0 : L0.length = n) (e1 : L1.length = n) :
    Sees (newM (Two p1 g1 p2 g2) (S, T)) ⟨L0, L1, o0, o1, List.replicate n o0, List.replicate n o1⟩ m := by
  have hs : Sees (⟨(S, T), List.replicate n o0, List.replicate n o1⟩ : Mr (Two p1 g1 p2 g2)) ⟨L0, L1, o0, o1, List.replicate n o0, List.replicate n o1⟩ m :=
    ⟨h0, h1, rfl, rfl, by rw [List.length_replicate]; exact e0, by rw [List.length_replicate]; exact e1, by rw [List.length_replicate, List.length_replicate]⟩
  have hp : (Two p1 g1 p2 g2).places (S, T) = n := by
    show min (S.at 0).st.length (T.at 0).st.length = n
    rw [h0.len, h1.len, e0, e1, Nat.min_self]
  have t0 : (Two p1 g1 p2 g2).there (S, T) 0 = !o0 := hs.there (i := 0) (by omega)
  have t1 : (Two p1 g1 p2 g2).there (S, T) 1 = !o1 := hs.there (i := 1) (by omega)
  have e : newM (Two p1 g1 p2 g2) (S, T) = ⟨(S, T), List.replicate n o0, List.replicate n o1⟩ := by
    show (⟨(S, T), List.replicate ((Two p1 g1 p2 g2).places (S, T)) (!((Two p1 g1 p2 g2).there (S, T) 0)), List.replicate ((Two p1 g1 p2 g2).places (S, T)) (!((Two p1 g1 p2 g2).there (S, T) 1))⟩ : Mr (Two p1 g1 p2 g2)) = _
    rw [hp, t0, t1, Bool.not_not, Bool.not_not]
  rw [e]
  exact hs
end
end Go.Proofs.Ytnplhagfmfggcaa.Mi
/-
  .. Sync, Out, Rot; what waits of what is out. No program.
-/
namespace Go.Proofs.Ytnplhagfmfggcaa.Mi
open Kd
section
variable {p1 g1 p2 g2 : Nat} {s : Mr (Two p1 g1 p2 g2)} {x : Md} {m : Nat} {G : Gd}
theorem dry_in (h0 : x.o0 = false) (h1 : x.o1 = false) : Dry s x := ⟨fun h => (by rw [h0] at h; cases h), fun h => (by rw [h1] at h; cases h)⟩
theorem Dry.write (hd : Dry s x) (h : Sees s x m) (n : Int) (y : List UInt8) : Dry (s.write n y).2 (x.write n y).2 := by
  rw [Mr.write, Md.write, h.has]
  cases hh : x.has n with
  | false => exact hd
  | true =>
    obtain ⟨k, rfl, hk⟩ := has_place hh
    rw [if_pos rfl, if_pos rfl, Int.toNat_natCast]
    obtain ⟨e0, h0⟩ := h.wd (i := 0) (by omega) hk y
    obtain ⟨e1, _⟩ := h0.wd (i := 1) (by omega) (by rw [wd_a]; exact hk) y
    have e1' : ((Two p1 g1 p2 g2).wr (s.w0 (k : Int) y 0).d 1 (k : Int) y).1 = _ := e1
    rw [wd_o] at e1'
    rw [e0, e1', eq13, eq13]
    have h2 : Dry ((s.w0 (k : Int) y 0).w0 (k : Int) y 1) ((x.wd 0 k y).wd 1 k y) := (hd.wd h (by omega) y).wd h0 (by omega) y
    rw [Mr.reach, show x.o 0 = x.o0 from rfl, show x.o 1 = x.o1 from rfl]
    cases ho0 : x.o0 <;> cases ho1 : x.o1
    · exact (h2.put 0 k false).put 1 k false
    · exact (h2.put 0 k false).put 1 k true
    · exact (h2.put 0 k true).put 1 k false
    · have hx : (x.wd 0 k y).wd 1 k y = x := by
        have h3 : x.wd 0 k y = x := by rw [Md.wd, show x.o 0 = true from ho0, if_pos rfl]
        rw [h3, Md.wd, show x.o 1 = true from ho1, if_pos rfl]
      rw [hx] at h2
      exact h2
theorem Dry.c1 (hd : Dry s x) (h : Sees s x m) {i k : Nat} (hi : i < 2) (hk : k < x.a.length) (y : List UInt8) : Dry (s.c1 (k : Int) y i).2 (x.wd i k y) := by
  have hw := hd.wd h hi y (k := k)
  rw [Mr.c1, h.rd_at hi hk]
  cases ho : x.o i with
  | true =>
    rw [if_neg (by simp), Md.wd, ho, if_pos rfl]
    exact hd
  | false =>
    rw [if_pos (by simp)]
    by_cases hy : (x.l i).getD k zeroS = y
    · rw [if_pos (by simpa using hy), ← hy, wd_same ho]
      exact hd
    · rw [if_neg (by simpa using hy)]
      exact hw
theorem Dry.choose (hd : Dry s x) (h : Sees s x m) (n : Int) (y : List UInt8) : Dry (s.choose n y).2 (x.write n y).2 := by
  rw [Mr.choose, Md.write, h.has]
  cases hh : x.has n with
  | false => exact hd
  | true =>
    obtain ⟨k, rfl, hk⟩ := has_place hh
    rw [if_pos rfl, if_pos rfl, Int.toNat_natCast]
    obtain ⟨e0, h0⟩ := h.c1 (i := 0) (by omega) hk y
    obtain ⟨e1, _⟩ := h0.c1 (i := 1) (by omega) (by rw [wd_a]; exact hk) y
    rw [wd_o] at e1
    rw [e0, e1]
    have h2 : Dry ((s.c1 (k : Int) y 0).2.c1 (k : Int) y 1).2 ((x.wd 0 k y).wd 1 k y) := (hd.c1 h (by omega) hk y).c1 h0 (by omega) (by rw [wd_a]; exact hk) y
    rw [Mr.reach, show x.o 0 = x.o0 from rfl, show x.o 1 = x.o1 from rfl]
    cases ho0 : x.o0 <;> cases ho1 : x.o1
    · exact (h2.put 0 k false).put 1 k false
    · exact (h2.put 0 k false).put 1 k true
    · exact (h2.put 0 k true).put 1 k false
    · have hx : (x.wd 0 k y).wd 1 k y = x := by
        have h3 : x.wd 0 k y = x := by rw [Md.wd, show x.o 0 = true from ho0, if_pos rfl]
        rw [h3, Md.wd, show x.o 1 = true from ho1, if_pos rfl]
      rw [hx] at h2
      exact h2
theorem setL_o (x : Md) (i k : Nat) (y : List UInt8) : (x.setL i k y).o0 = x.o0 ∧ (x.setL i k y).o1 = x.o1 ∧ (x.setL i k y).a = x.a := by unfold Md.setL; split <;> exact ⟨rfl, rfl, rfl⟩
theorem put_o (x : Md) (i k : Nat) (v : Bool) : (x.put i k v).o0 = x.o0 ∧ (x.put i k v).o1 = x.o1 ∧ (x.put i k v).a.length = x.a.length := by
  unfold Md.put; split
  · exact ⟨rfl, rfl, by simp⟩
  · exact ⟨rfl, rfl, rfl⟩
theorem mend_o (x : Md) (i k : Nat) (y : List UInt8) : (x.mend i k y).o0 = x.o0 ∧ (x.mend i k y).o1 = x.o1 ∧ (x.mend i k y).a.length = x.a.length := by
  obtain ⟨h1, h2, h3⟩ := put_o (x.setL i k y) i k false
  obtain ⟨h4, h5, h6⟩ := setL_o x i k y
  exact ⟨h1.trans h4, h2.trans h5, h3.trans (by rw [h6])⟩
theorem Dry.heal (hd : Dry s x) (h : Sees s x m) (n : Int) : Dry (s.heal G n).2 (x.heal G.f n).2 := by
  by_cases hc : x.has n = true ∧ x.o0 = false ∧ x.o1 = false
  · obtain ⟨hh, h0, h1⟩ := hc
    have e : (x.heal G.f n).2.o0 = false ∧ (x.heal G.f n).2.o1 = false := by
      rw [Md.heal, hh, if_pos rfl, if_neg (by rw [h0, h1]; simp)]
      split
      · split
        · exact ⟨h0, h1⟩
        · obtain ⟨a, b, _⟩ := mend_o x 1 n.toNat (x.l0.getD n.toNat zeroS); exact ⟨a.trans h0, b.trans h1⟩
      · split
        · obtain ⟨a, b, _⟩ := mend_o x 0 n.toNat (x.l1.getD n.toNat zeroS); exact ⟨a.trans h0, b.trans h1⟩
        · exact ⟨h0, h1⟩
    exact dry_in e.1 e.2
  · have e : (s.heal G n).2 = s ∧ (x.heal G.f n).2 = x := by
      rw [Mr.heal, Md.heal, h.has]
      cases hh : x.has n with
      | false => exact ⟨rfl, rfl⟩
      | true =>
        rw [if_pos rfl, if_pos rfl, h.there (by omega), h.there (by omega), show x.o 0 = x.o0 from rfl, show x.o 1 = x.o1 from rfl]
        cases h0 : x.o0 with
        | true => exact ⟨rfl, rfl⟩
        | false =>
          cases h1 : x.o1 with
          | true => exact ⟨rfl, rfl⟩
          | false => exact absurd ⟨hh, h0, h1⟩ hc
    rw [e.1, e.2]
    exact hd
/-! ### Sync -/
def Md.catch1 (f : Int → List UInt8 → Bool) (x : Md) (i k : Nat) : Md := if (x.st i).getD k false && x.right f (1 - i) k then x.mend i k ((x.l (1 - i)).getD k zeroS) else x
def Md.catchTo (f : Int → List UInt8 → Bool) (x : Md) (i : Nat) : Nat → Md
  | 0 => x
  | k + 1 => (x.catchTo f i k).catch1 f i k
theorem catch1_o (f : Int → List UInt8 → Bool) (x : Md) (i k : Nat) : (x.catch1 f i k).o0 = x.o0 ∧ (x.catch1 f i k).o1 = x.o1 ∧ (x.catch1 f i k).a.length = x.a.length := by
  unfold Md.catch1; split
  · exact mend_o _ _ _ _
  · exact ⟨rfl, rfl, rfl⟩
theorem catchTo_o (f : Int → List UInt8 → Bool) (x : Md) (i : Nat) : ∀ k, (x.catchTo f i k).o0 = x.o0 ∧ (x.catchTo f i k).o1 = x.o1 ∧ (x.catchTo f i k).a.length = x.a.length
  | 0 => ⟨rfl, rfl, rfl⟩
  | k + 1 => by
    obtain ⟨a, b, c⟩ := catchTo_o f x i k
    obtain ⟨d, e, g⟩ := catch1_o f (x.catchTo f i k) i k
    exact ⟨d.trans a, e.trans b, g.trans c⟩
theorem Sees.catch1 (h : Sees s x m) {i k : Nat} (hi : i < 2) (hk : k < x.a.length) (ho : x.o i = false) : Sees (s.catch1 G i k) (x.catch1 G.f i k) (m + 1) := by
  rw [Mr.catch1, Md.catch1, h.st, h.right (by omega) hk]
  split
  · rename_i hc
    have hr : x.right G.f (1 - i) k = true := by
      cases hr : x.right G.f (1 - i) k
      · rw [hr, Bool.and_false] at hc; cases hc
      · rfl
    rw [h.rightV (by omega) hk hr]
    exact (h.mend hi hk ho _).2
  · exact h.more (Nat.le_succ _)
theorem Sees.catchTo (h : Sees s x m) {i : Nat} (hi : i < 2) (ho0 : x.o0 = false) (ho1 : x.o1 = false) : ∀ k, k ≤ x.a.length → Sees (s.catchTo G i k) (x.catchTo G.f i k) (m + k)
  | 0, _ => h
  | k + 1, hk => by
    obtain ⟨a, b, c⟩ := catchTo_o G.f x i k
    refine (h.catchTo hi ho0 ho1 k (by omega)).catch1 hi (by rw [c]; omega) ?_
    rcases two hi with rfl | rfl
    · exact a.trans ho0
    · exact b.trans ho1
def Md.caught (f : Int → List UInt8 → Bool) (x : Md) : Md := (x.catchTo f 0 x.a.length).catchTo f 1 x.a.length
def Md.sync (f : Int → List UInt8 → Bool) (x : Md) : Int × Md :=
  if x.o0 || x.o1 then (13, x) else (if cnt (x.caught f).a = 0 ∧ cnt (x.caught f).b = 0 then 0 else 9, x.caught f)
theorem Sees.sync (h : Sees s x 0) : (s.sync G x.a.length).1 = (x.sync G.f).1 ∧ Sees (s.sync G x.a.length).2 (x.sync G.f).2 0 := by
  rw [Mr.sync, Md.sync, h.there (by omega), h.there (by omega), show x.o 0 = x.o0 from rfl, show x.o 1 = x.o1 from rfl]
  cases ho0 : x.o0 with
  | true => exact ⟨rfl, h⟩
  | false =>
    cases ho1 : x.o1 with
    | true => exact ⟨rfl, h⟩
    | false =>
      rw [if_pos (show ((!false) && !false) = true from rfl), if_neg (show ¬ (false || false) = true by simp)]
      obtain ⟨a, b, c⟩ := catchTo_o G.f x 0 x.a.length
      have h1 := h.catchTo (G := G) (i := 0) (by omega) ho0 ho1 x.a.length (Nat.le_refl _)
      have h2 : Sees (s.caught G x.a.length) (x.caught G.f) (0 + x.a.length + x.a.length) := h1.catchTo (i := 1) (by omega) (a.trans ho0) (b.trans ho1) x.a.length (by rw [c]; exact Nat.le_refl _)
      obtain ⟨d, e, g⟩ := catchTo_o G.f (x.catchTo G.f 0 x.a.length) 1 x.a.length
      have o0 : (x.caught G.f).o0 = false := (d.trans a).trans ho0
      have o1 : (x.caught G.f).o1 = false := (e.trans b).trans ho1
      obtain ⟨h3, h4⟩ := h2.fl (dry_in o0 o1)
      rw [o0, o1] at h3
      rw [if_pos (show (s.caught G x.a.length).flushed = (true, true) from h3)]
      refine ⟨?_, h4⟩
      rw [show (((s.caught G x.a.length).fl0 0).fl0 1).a = (x.caught G.f).a from h4.a, show (((s.caught G x.a.length).fl0 0).fl0 1).b = (x.caught G.f).b from h4.b]
theorem Dry.sync (h : Sees s x 0) : Dry (s.sync G x.a.length).2 (x.sync G.f).2 := (h.sync).2.dry
/-! ### Out, Rot -/
def Md.out (x : Md) (i : Nat) (on : Bool) : Md := if i = 0 then { x with o0 := on } else { x with o1 := on }
theorem Sees.out0 (h : Sees s x 0) (on : Bool) : Sees (⟨(s.d.1.put 0 ((s.d.1.at 0).out on), s.d.2), s.a, s.b⟩ : Mr (Two p1 g1 p2 g2)) (x.out 0 on) 0 := ⟨h.d0.out on, h.d1, h.a, h.b, h.n0, h.n1, h.nb⟩
theorem Sees.out1 (h : Sees s x 0) (on : Bool) : Sees (⟨(s.d.1, s.d.2.put 0 ((s.d.2.at 0).out on)), s.a, s.b⟩ : Mr (Two p1 g1 p2 g2)) (x.out 1 on) 0 := ⟨h.d0, h.d1.out on, h.a, h.b, h.n0, h.n1, h.nb⟩
theorem See.rot {S : Sy} {L : List (List UInt8)} {g : Bool} (h : See S L g 0) (i a : Int) (b : UInt8) : See (S.rot 0 i a b) (if hasByte L.length i a then rotL L i.toNat a.toNat b else L) g 0 := by
  have hl : (S.at 0).st.length = L.length := h.len
  rw [Sy.rot, hl]
  split
  · have hd0 : 0 < S.ds.length := by rw [h.ds]; omega
    have ha : (S.put 0 ((S.at 0).rot i.toNat a.toNat b)).at 0 = (S.at 0).rot i.toNat a.toNat b := by rw [at_put _ hd0, if_pos rfl]
    refine ⟨by rw [len_put]; exact h.ds, h.p, ?_, fun j hj => ?_, by rw [ha]; exact h.gone, by rw [ha]; exact h.lies, by rw [ha]; exact h.few⟩
    · rw [ha, ← h.stable]; rfl
    · rw [ha, Dv.now]
      show nowL (rotL (S.at 0).st i.toNat a.toNat b) (S.at 0).wt j = _
      rw [h.dry, Kd.flush_nil, h.stable]
  · exact h
def Md.rot (x : Md) (i : Nat) (n a : Int) (b : UInt8) : Md := if hasByte x.a.length n a then (if i = 0 then { x with l0 := rotL x.l0 n.toNat a.toNat b } else { x with l1 := rotL x.l1 n.toNat a.toNat b }) else x
theorem rotL_length (L : List (List UInt8)) (n a : Nat) (b : UInt8) : (rotL L n a b).length = L.length := by rw [rotL, List.length_set]
theorem Sees.rot0 (h : Sees s x 0) (n a : Int) (b : UInt8) : Sees (⟨(s.d.1.rot 0 n a b, s.d.2), s.a, s.b⟩ : Mr (Two p1 g1 p2 g2)) (x.rot 0 n a b) 0 := by
  have h1 := h.d0.rot n a b
  rw [h.n0] at h1
  rw [Md.rot]
  split
  · rename_i hc
    rw [if_pos hc] at h1
    exact ⟨h1, h.d1, h.a, h.b, by show (rotL _ _ _ _).length = _; rw [rotL_length]; exact h.n0, h.n1, h.nb⟩
  · rename_i hc
    rw [if_neg hc] at h1
    exact ⟨h1, h.d1, h.a, h.b, h.n0, h.n1, h.nb⟩
theorem Sees.rot1 (h : Sees s x 0) (n a : Int) (b : UInt8) : Sees (⟨(s.d.1, s.d.2.rot 0 n a b), s.a, s.b⟩ : Mr (Two p1 g1 p2 g2)) (x.rot 1 n a b) 0 := by
  have h1 := h.d1.rot n a b
  rw [h.n1] at h1
  rw [Md.rot]
  split
  · rename_i hc
    rw [if_pos hc] at h1
    exact ⟨h.d0, h1, h.a, h.b, h.n0, by show (rotL _ _ _ _).length = _; rw [rotL_length]; exact h.n1, h.nb⟩
  · rename_i hc
    rw [if_neg hc] at h1
    exact ⟨h.d0, h1, h.a, h.b, h.n0, h.n1, h.nb⟩
end
end Go.Proofs.Ytnplhagfmfggcaa.Mi
/-
  A mirror of two devices of one power that never fails, as the document tells of it. No program.
-/
namespace Go.Proofs.Ytnplhagfmfggcaa.Mu
open Kd Mi
section
variable {pw g1 g2 : Nat} {s : Mr (one pw g1 g2)} {x : Md} {m : Nat} {G : Gd}
structure Sees (s : Mr (one pw g1 g2)) (x : Md) (m : Nat) : Prop where
  d0 : See s.d 0 x.l0 x.o0 m
  d1 : See s.d 1 x.l1 x.o1 m
  a : s.a = x.a
  b : s.b = x.b
  n0 : x.l0.length = x.a.length
  n1 : x.l1.length = x.a.length
  nb : x.b.length = x.a.length
theorem Sees.more (h : Sees s x m) {m' : Nat} (hm : m ≤ m') : Sees s x m' := ⟨h.d0.more hm, h.d1.more hm, h.a, h.b, h.n0, h.n1, h.nb⟩
theorem Sees.ok (h : Sees s x m) : s.ok x.a.length := ⟨by rw [h.a], by rw [h.b]; exact h.nb⟩
theorem Sees.st (h : Sees s x m) (i : Nat) : s.st i = x.st i := by
  unfold Mr.st Md.st; split
  · exact h.a
  · exact h.b
theorem Sees.most (h : Sees s x m) : (one pw g1 g2).most s.d ≤ m := by
  show mostD s.d ≤ m
  unfold mostD
  rw [if_pos h.d0.ds]
  exact Nat.max_le.2 ⟨h.d0.few, h.d1.few⟩
theorem Sees.has (h : Sees s x m) (n : Int) : Mi.has s n = x.has n := by rw [Mi.has, Md.has, h.a]
theorem Sees.rd (h : Sees s x m) {i : Nat} (hi : i < 2) (n : Int) :
    (one pw g1 g2).rd s.d i n = (if x.o i then 13 else if n < 0 ∨ (x.a.length : Int) ≤ n then 2 else 0, if x.o i = false ∧ 0 ≤ n ∧ n < (x.a.length : Int) then (x.l i).getD n.toNat zeroS else zeroS) := by
  rcases two hi with rfl | rfl
  · show (refuseN s.d.p (s.d.at 0) n, readS s.d.p (s.d.at 0) n) = _
    rw [h.d0.refuse, h.d0.read, h.n0]; rfl
  · show (refuseN s.d.p (s.d.at 1) n, readS s.d.p (s.d.at 1) n) = _
    rw [h.d1.refuse, h.d1.read, h.n1]; rfl
theorem Sees.there (h : Sees s x m) {i : Nat} (hi : i < 2) : (one pw g1 g2).there s.d i = !(x.o i) := by
  have hp : ((one pw g1 g2).ptr i).isSome = true := by rcases two hi with rfl | rfl <;> rfl
  rw [Duo.there, hp, h.rd hi]
  cases x.o i
  · show (true && ((if false = true then (13 : Int) else if (0 : Int) < 0 ∨ (x.a.length : Int) ≤ 0 then 2 else 0) != 13)) = true
    rw [if_neg (by simp)]
    split <;> rfl
  · rfl
/-- A place's reading. -/
theorem Sees.rd_at (h : Sees s x m) {i k : Nat} (hi : i < 2) (hk : k < x.a.length) : (one pw g1 g2).rd s.d i (k : Int) = (if x.o i then 13 else 0, if x.o i then zeroS else (x.l i).getD k zeroS) := by
  rw [h.rd hi]
  cases x.o i
  · simp only [Bool.false_eq_true, if_false, true_and]
    rw [if_neg (by omega), if_pos ⟨by omega, by omega⟩, Int.toNat_natCast]
  · simp
theorem Sees.rdOk (h : Sees s x m) {i k : Nat} (hi : i < 2) (hk : k < x.a.length) : Mi.rdOk (one pw g1 g2) G s.d i (k : Int) = (!(x.o i) && G.f k ((x.l i).getD k zeroS)) := by
  rw [Mi.rdOk, h.rd_at hi hk]
  cases x.o i <;> rfl
theorem Sees.right (h : Sees s x m) {i k : Nat} (hi : i < 2) (hk : k < x.a.length) : Mi.right (one pw g1 g2) G s i k = x.right G.f i k := by
  rw [Mi.right, Md.right, h.st, h.rdOk hi hk]
theorem Sees.rightV (h : Sees s x m) {i k : Nat} (hi : i < 2) (hk : k < x.a.length) (hr : x.right G.f i k = true) : Mi.rightV (one pw g1 g2) G s i k = (x.l i).getD k zeroS := by
  have ho : x.o i = false := by
    rw [Md.right] at hr
    cases ho : x.o i
    · rfl
    · rw [ho] at hr; simp at hr
  rw [Mi.rightV, h.right hi hk, hr, if_pos rfl, h.rd_at hi hk, ho]; rfl
theorem Sees.put (h : Sees s x m) (i k : Nat) (v : Bool) : Sees (s.put i k v) (x.put i k v) m := by
  unfold Mr.put Md.put
  split
  · exact ⟨h.d0, h.d1, by show s.a.set k v = x.a.set k v; rw [h.a], h.b, by show x.l0.length = (x.a.set k v).length; rw [List.length_set]; exact h.n0, by show x.l1.length = (x.a.set k v).length; rw [List.length_set]; exact h.n1, by show x.b.length = (x.a.set k v).length; rw [List.length_set]; exact h.nb⟩
  · exact ⟨h.d0, h.d1, h.a, by show s.b.set k v = x.b.set k v; rw [h.b], h.n0, h.n1, by show (x.b.set k v).length = x.a.length; rw [List.length_set]; exact h.nb⟩
theorem Sees.wd (h : Sees s x m) {i k : Nat} (hi : i < 2) (hk : k < x.a.length) (y : List UInt8) :
    ((one pw g1 g2).wr s.d i (k : Int) y).1 = (if x.o i then 13 else 0) ∧ Sees (s.dev ((one pw g1 g2).wr s.d i (k : Int) y).2) (x.wd i k y) (m + 1) := by
  rcases two hi with rfl | rfl
  · cases ho : x.o0 with
    | true =>
      have hw : (one pw g1 g2).wr s.d 0 (k : Int) y = _ := h.d0.write_no (n := (k : Int)) (x := y) (by rw [ho]; simp)
      rw [hw, ho]
      refine ⟨by rw [show x.o 0 = true from ho]; rfl, ?_⟩
      rw [Md.wd, show x.o 0 = true from ho, if_pos rfl]
      exact h.more (Nat.le_succ _)
    | false =>
      obtain ⟨h1, h2, h3⟩ := h.d0.write_yes (x := y) ho (k := k) (by rw [h.n0]; exact hk)
      refine ⟨by show (s.d.write 0 k y).1 = _; rw [h1, show x.o 0 = false from ho]; rfl, ?_⟩
      rw [Md.wd, show x.o 0 = false from ho, if_neg (by simp)]
      exact ⟨h2, (h3 (by omega) h.d1).more (Nat.le_succ _), h.a, h.b, by show (x.l0.set k y).length = _; rw [List.length_set]; exact h.n0, h.n1, h.nb⟩
  · cases ho : x.o1 with
    | true =>
      have hw : (one pw g1 g2).wr s.d 1 (k : Int) y = _ := h.d1.write_no (n := (k : Int)) (x := y) (by rw [ho]; simp)
      rw [hw, ho]
      refine ⟨by rw [show x.o 1 = true from ho]; rfl, ?_⟩
      rw [Md.wd, show x.o 1 = true from ho, if_pos rfl]
      exact h.more (Nat.le_succ _)
    | false =>
      obtain ⟨h1, h2, h3⟩ := h.d1.write_yes (x := y) ho (k := k) (by rw [h.n1]; exact hk)
      refine ⟨by show (s.d.write 1 k y).1 = _; rw [h1, show x.o 1 = false from ho]; rfl, ?_⟩
      rw [Md.wd, show x.o 1 = false from ho, if_neg (by simp)]
      exact ⟨(h3 (by omega) h.d0).more (Nat.le_succ _), h2, h.a, h.b, h.n0, by show (x.l1.set k y).length = _; rw [List.length_set]; exact h.n1, h.nb⟩
theorem Sees.write (h : Sees s x m) (n : Int) (y : List UInt8) : (s.write n y).1 = (x.write n y).1 ∧ Sees (s.write n y).2 (x.write n y).2 (m + 2) := by
  rw [Mr.write, Md.write, h.has]
  cases hh : x.has n with
  | false => exact ⟨rfl, h.more (by omega)⟩
  | true =>
    obtain ⟨k, rfl, hk⟩ := has_place hh
    rw [if_pos rfl, if_pos rfl, Int.toNat_natCast]
    obtain ⟨e0, h0⟩ := h.wd (i := 0) (by omega) hk y
    obtain ⟨e1, h1⟩ := h0.wd (i := 1) (by omega) (by rw [wd_a]; exact hk) y
    have e1' : ((one pw g1 g2).wr (s.w0 (k : Int) y 0).d 1 (k : Int) y).1 = _ := e1
    rw [wd_o] at e1'
    rw [e0, e1', eq13, eq13]
    have h2 : Sees ((s.w0 (k : Int) y 0).w0 (k : Int) y 1) ((x.wd 0 k y).wd 1 k y) (m + 1 + 1) := h1
    rw [Mr.reach, show x.o 0 = x.o0 from rfl, show x.o 1 = x.o1 from rfl]
    cases ho0 : x.o0 <;> cases ho1 : x.o1
    · exact ⟨rfl, (h2.put 0 k false).put 1 k false⟩
    · exact ⟨rfl, (h2.put 0 k false).put 1 k true⟩
    · exact ⟨rfl, (h2.put 0 k true).put 1 k false⟩
    · refine ⟨rfl, ?_⟩
      have hx : (x.wd 0 k y).wd 1 k y = x := by
        have h3 : x.wd 0 k y = x := by rw [Md.wd, show x.o 0 = true from ho0, if_pos rfl]
        rw [h3, Md.wd, show x.o 1 = true from ho1, if_pos rfl]
      rw [hx] at h2
      exact h2
end
end Go.Proofs.Ytnplhagfmfggcaa.Mu
/-
  .. and what Choose, Flush, Read, Heal, Both, New make of it. No program.
-/
namespace Go.Proofs.Ytnplhagfmfggcaa.Mu
open Kd Mi
section
variable {pw g1 g2 : Nat} {s : Mr (one pw g1 g2)} {x : Md} {m : Nat} {G : Gd}
theorem Sees.c1 (h : Sees s x m) {i k : Nat} (hi : i < 2) (hk : k < x.a.length) (y : List UInt8) : (s.c1 (k : Int) y i).1 = !(x.o i) ∧ Sees (s.c1 (k : Int) y i).2 (x.wd i k y) (m + 1) := by
  obtain ⟨e, hw⟩ := h.wd hi hk y
  rw [Mr.c1, h.rd_at hi hk]
  cases ho : x.o i with
  | true =>
    rw [if_neg (by simp)]
    refine ⟨rfl, ?_⟩
    rw [Md.wd, ho, if_pos rfl]
    exact h.more (Nat.le_succ _)
  | false =>
    rw [if_pos (by simp)]
    by_cases hy : (x.l i).getD k zeroS = y
    · rw [if_pos (by simpa using hy)]
      refine ⟨rfl, ?_⟩
      rw [← hy, wd_same ho]
      exact h.more (Nat.le_succ _)
    · rw [if_neg (by simpa using hy)]
      exact ⟨by rw [e, eq13, ho], hw⟩
theorem Sees.choose (h : Sees s x m) (n : Int) (y : List UInt8) : (s.choose n y).1 = (x.write n y).1 ∧ Sees (s.choose n y).2 (x.write n y).2 (m + 2) := by
  rw [Mr.choose, Md.write, h.has]
  cases hh : x.has n with
  | false => exact ⟨rfl, h.more (by omega)⟩
  | true =>
    obtain ⟨k, rfl, hk⟩ := has_place hh
    rw [if_pos rfl, if_pos rfl, Int.toNat_natCast]
    obtain ⟨e0, h0⟩ := h.c1 (i := 0) (by omega) hk y
    obtain ⟨e1, h1⟩ := h0.c1 (i := 1) (by omega) (by rw [wd_a]; exact hk) y
    rw [wd_o] at e1
    rw [e0, e1]
    have h2 : Sees ((s.c1 (k : Int) y 0).2.c1 (k : Int) y 1).2 ((x.wd 0 k y).wd 1 k y) (m + 1 + 1) := h1
    rw [Mr.reach, show x.o 0 = x.o0 from rfl, show x.o 1 = x.o1 from rfl]
    cases ho0 : x.o0 <;> cases ho1 : x.o1
    · exact ⟨rfl, (h2.put 0 k false).put 1 k false⟩
    · exact ⟨rfl, (h2.put 0 k false).put 1 k true⟩
    · exact ⟨rfl, (h2.put 0 k true).put 1 k false⟩
    · refine ⟨rfl, ?_⟩
      have hx : (x.wd 0 k y).wd 1 k y = x := by
        have h3 : x.wd 0 k y = x := by rw [Md.wd, show x.o 0 = true from ho0, if_pos rfl]
        rw [h3, Md.wd, show x.o 1 = true from ho1, if_pos rfl]
      rw [hx] at h2
      exact h2
structure Dry (s : Mr (one pw g1 g2)) (x : Md) : Prop where
  d0 : x.o0 = true → See s.d 0 x.l0 x.o0 0
  d1 : x.o1 = true → See s.d 1 x.l1 x.o1 0
theorem Sees.dry (h : Sees s x 0) : Dry s x := ⟨fun _ => h.d0, fun _ => h.d1⟩
theorem Dry.put (h : Dry s x) (i k : Nat) (v : Bool) : Dry (s.put i k v) (x.put i k v) := by
  unfold Mr.put Md.put; split <;> exact ⟨h.d0, h.d1⟩
theorem Dry.wd (h : Dry s x) (hs : Sees s x m) {i k : Nat} (hi : i < 2) (hk : k < x.a.length) (y : List UInt8) : Dry (s.dev ((one pw g1 g2).wr s.d i (k : Int) y).2) (x.wd i k y) := by
  rcases two hi with rfl | rfl
  · cases ho : x.o0 with
    | true =>
      have hw : (one pw g1 g2).wr s.d 0 (k : Int) y = _ := hs.d0.write_no (n := (k : Int)) (x := y) (by rw [ho]; simp)
      rw [hw, Md.wd, show x.o 0 = true from ho, if_pos rfl]
      exact h
    | false =>
      obtain ⟨h1, h2, h3⟩ := hs.d0.write_yes (x := y) ho (k := k) (by rw [hs.n0]; exact hk)
      rw [Md.wd, show x.o 0 = false from ho, if_neg (by simp)]
      exact ⟨fun h1 => (by have h2 : x.o0 = true := h1; rw [ho] at h2; cases h2), fun h4 => h3 (by omega) (h.d1 h4)⟩
  · cases ho : x.o1 with
    | true =>
      have hw : (one pw g1 g2).wr s.d 1 (k : Int) y = _ := hs.d1.write_no (n := (k : Int)) (x := y) (by rw [ho]; simp)
      rw [hw, Md.wd, show x.o 1 = true from ho, if_pos rfl]
      exact h
    | false =>
      obtain ⟨h1, h2, h3⟩ := hs.d1.write_yes (x := y) ho (k := k) (by rw [hs.n1]; exact hk)
      rw [Md.wd, show x.o 1 = false from ho, if_neg (by simp)]
      exact ⟨fun h4 => h3 (by omega) (h.d0 h4), fun h1 => (by have h2 : x.o1 = true := h1; rw [ho] at h2; cases h2)⟩
theorem Sees.fl (h : Sees s x m) (hd : Dry s x) : s.flushed = (!x.o0, !x.o1) ∧ Sees ((s.fl0 0).fl0 1) x 0 := by
  have h0 : ((s.d.flush 0).1 == 0) = !x.o0 ∧ See (s.d.flush 0).2 0 x.l0 x.o0 0 ∧ ∀ {L' g' m'}, See s.d 1 L' g' m' → See (s.d.flush 0).2 1 L' g' m' := by
    cases ho : x.o0 with
    | true => rw [h.d0.flush_no ho]; exact ⟨rfl, ho ▸ hd.d0 ho, fun h => h⟩
    | false => obtain ⟨h1, h2, h3⟩ := h.d0.flush_yes ho; rw [h1]; exact ⟨rfl, ho ▸ h2, fun h => h3 (by omega) h⟩
  have hs1 := h0.2.2 h.d1
  have h1 : (((s.d.flush 0).2.flush 1).1 == 0) = !x.o1 ∧ See ((s.d.flush 0).2.flush 1).2 1 x.l1 x.o1 0 ∧ See ((s.d.flush 0).2.flush 1).2 0 x.l0 x.o0 0 := by
    cases ho : x.o1 with
    | true => rw [hs1.flush_no ho]; exact ⟨rfl, ho ▸ h0.2.2 (hd.d1 ho), h0.2.1⟩
    | false => obtain ⟨h1, h2, h3⟩ := hs1.flush_yes ho; rw [h1]; exact ⟨rfl, ho ▸ h2, h3 (by omega) h0.2.1⟩
  refine ⟨?_, h1.2.2, h1.2.1, h.a, h.b, h.n0, h.n1, h.nb⟩
  rw [Mr.flushed]
  show (((s.d.flush 0).1 == 0), (((s.d.flush 0).2.flush 1).1 == 0)) = _
  rw [h0.1, h1.1]
theorem Sees.flush (h : Sees s x m) (hd : Dry s x) : s.flush.1 = (if x.o0 && x.o1 then 13 else 0) ∧ Sees s.flush.2 x 0 := by
  obtain ⟨h1, h2⟩ := h.fl hd
  rw [Mr.flush, h1, h.there (by omega), h.there (by omega), show x.o 0 = x.o0 from rfl, show x.o 1 = x.o1 from rfl]
  refine ⟨?_, h2⟩
  cases x.o0 <;> cases x.o1 <;> rfl
theorem Sees.read (h : Sees s x m) (n : Int) : readM (one pw g1 g2) G s n = x.read G.f n := by
  rw [readM, Md.read, h.has]
  cases hh : x.has n with
  | false => rfl
  | true =>
    obtain ⟨k, rfl, hk⟩ := has_place hh
    rw [if_pos rfl, if_pos rfl, Int.toNat_natCast, h.right (by omega) hk, h.right (by omega) hk, h.rd_at (by omega) hk, h.rd_at (by omega) hk, h.there (by omega), h.there (by omega)]
    cases h0 : x.right G.f 0 k with
    | true => simp only [if_true, right_in h0]; rfl
    | false =>
      simp only [Bool.false_eq_true, if_false]
      cases h1 : x.right G.f 1 k with
      | true => simp only [if_true, right_in h1]; rfl
      | false =>
        simp only [Bool.false_eq_true, if_false]
        rw [show x.o 0 = x.o0 from rfl, show x.o 1 = x.o1 from rfl]
        cases x.o0 <;> cases x.o1 <;> rfl
theorem Sees.bothTo (h : Sees s x m) {k : Nat} (hk : k < x.a.length) : ∀ p, p ≤ 2 → Mi.bothTo (one pw g1 g2) G s.d (k : Int) p = x.bothTo G.f k p
  | 0, _ => rfl
  | p + 1, hp => by
    rw [Mi.bothTo, Md.bothTo, h.bothTo hk p (by omega), h.rdOk (by omega) hk, h.rd_at (by omega) hk]
    cases ho : x.o p
    · rfl
    · rfl
theorem Sees.both (h : Sees s x m) (n : Int) : bothL G s n = x.both G.f n := by
  rw [bothL, Md.both, h.has]
  cases hh : x.has n with
  | false => rfl
  | true =>
    obtain ⟨k, rfl, hk⟩ := has_place hh
    rw [if_pos rfl, if_pos rfl, Int.toNat_natCast, h.bothTo hk 2 (by omega)]
theorem Sees.mend (h : Sees s x m) {i k : Nat} (hi : i < 2) (hk : k < x.a.length) (ho : x.o i = false) (y : List UInt8) : (s.mend i k y).1 = 0 ∧ Sees (s.mend i k y).2 (x.mend i k y) (m + 1) := by
  obtain ⟨e, hw⟩ := h.wd hi hk y
  rw [ho] at e
  rw [Md.wd, ho, if_neg (by simp)] at hw
  rw [Mr.mend]
  rw [e]
  exact ⟨rfl, hw.put i k false⟩
theorem Sees.healTo (h : Sees s x m) {i k : Nat} (hi : i < 2) (hk : k < x.a.length) (ho : x.o i = false) (y : List UInt8) : (s.healTo i k y).1 = (1, 0) ∧ Sees (s.healTo i k y).2 (x.mend i k y) (m + 1) := by
  obtain ⟨e, hw⟩ := h.mend hi hk ho y
  rw [Mr.healTo, e]
  exact ⟨rfl, hw⟩
theorem Sees.heal (h : Sees s x m) (n : Int) : (s.heal G n).1 = (x.heal G.f n).1 ∧ Sees (s.heal G n).2 (x.heal G.f n).2 (m + 1) := by
  rw [Mr.heal, Md.heal, h.has]
  cases hh : x.has n with
  | false => exact ⟨rfl, h.more (by omega)⟩
  | true =>
    obtain ⟨k, rfl, hk⟩ := has_place hh
    rw [if_pos rfl, if_pos rfl, Int.toNat_natCast, h.there (by omega), h.there (by omega), h.right (by omega) hk, h.right (by omega) hk, show x.o 0 = x.o0 from rfl, show x.o 1 = x.o1 from rfl]
    cases ho0 : x.o0 with
    | true => exact ⟨rfl, h.more (by omega)⟩
    | false =>
      cases ho1 : x.o1 with
      | true => exact ⟨rfl, h.more (by omega)⟩
      | false =>
        rw [if_pos (show ((!false) && !false) = true from rfl), if_neg (show ¬ (false || false) = true by simp)]
        cases h0 : x.right G.f 0 k with
        | true =>
          have v0 : Mi.rightV (one pw g1 g2) G s 0 k = x.l0.getD k zeroS := h.rightV (i := 0) (by omega) hk h0
          simp only [if_true, v0]
          cases h1 : x.right G.f 1 k with
          | true =>
            have v1 : Mi.rightV (one pw g1 g2) G s 1 k = x.l1.getD k zeroS := h.rightV (i := 1) (by omega) hk h1
            simp only [if_true, v1, Bool.true_and]
            by_cases he : x.l0.getD k zeroS = x.l1.getD k zeroS
            · rw [if_pos he, if_pos (decide_eq_true he)]; exact ⟨rfl, h.more (by omega)⟩
            · rw [if_neg he, if_neg (by rw [decide_eq_false he]; simp)]; exact h.healTo (i := 1) (by omega) hk ho1 _
          | false => simp only [Bool.false_eq_true, if_false, Bool.false_and]; exact h.healTo (i := 1) (by omega) hk ho1 _
        | false =>
          simp only [Bool.false_eq_true, if_false]
          cases h1 : x.right G.f 1 k with
          | true =>
            have v1 : Mi.rightV (one pw g1 g2) G s 1 k = x.l1.getD k zeroS := h.rightV (i := 1) (by omega) hk h1
            simp only [if_true, v1]; exact h.healTo (i := 0) (by omega) hk ho0 _
          | false => simp only [Bool.false_eq_true, if_false]; exact ⟨trivial, h.more (by omega)⟩
theorem sees_new {S : Sy} {L0 L1 : List (List UInt8)} {o0 o1 : Bool} {n : Nat} (h0 : See S 0 L0 o0 m) (h1 : See S 1 L1 o1 m) (e0 : L0.length = n) (e1 : L1.length = n) :
    Sees (newM (one pw g1 g2) S) ⟨L0, L1, o0, o1, List.replicate n o0, List.replicate n o1⟩ m := by
  have hs : Sees (⟨S, List.replicate n o0, List.replicate n o1⟩ : Mr (one pw g1 g2)) ⟨L0, L1, o0, o1, List.replicate n o0, List.replicate n o1⟩ m :=
    ⟨h0, h1, rfl, rfl, by rw [List.length_replicate]; exact e0, by rw [List.length_replicate]; exact e1, by rw [List.length_replicate, List.length_replicate]⟩
  have hp : (one pw g1 g2).places S = n := by
    show min (S.at 0).st.length (S.at 1).st.length = n
    rw [h0.len, h1.len, e0, e1, Nat.min_self]
  have t0 : (one pw g1 g2).there S 0 = !o0 := hs.there (i := 0) (by omega)
  have t1 : (one pw g1 g2).there S 1 = !o1 := hs.there (i := 1) (by omega)
  have e : newM (one pw g1 g2) S = ⟨S, List.replicate n o0, List.replicate n o1⟩ := by
    show (⟨S, List.replicate ((one pw g1 g2).places S) (!((one pw g1 g2).there S 0)), List.replicate ((one pw g1 g2).places S) (!((one pw g1 g2).there S 1))⟩ : Mr (one pw g1 g2)) = _
    rw [hp, t0, t1, Bool.not_not, Bool.not_not]
  rw [e]
  exact hs
end
end Go.Proofs.Ytnplhagfmfggcaa.Mu
/-
  .. Sync, Out, Rot; what waits of what is out. No program.
-/
namespace Go.Proofs.Ytnplhagfmfggcaa.Mu
open Kd Mi
section
variable {pw g1 g2 : Nat} {s : Mr (one pw g1 g2)} {x : Md} {m : Nat} {G : Gd}
theorem dry_in (h0 : x.o0 = false) (h1 : x.o1 = false) : Dry s x := ⟨fun h => (by rw [h0] at h; cases h), fun h => (by rw [h1] at h; cases h)⟩
theorem Dry.write (hd : Dry s x) (h : Sees s x m) (n : Int) (y : List UInt8) : Dry (s.write n y).2 (x.write n y).2 := by
  rw [Mr.write, Md.write, h.has]
  cases hh : x.has n with
  | false => exact hd
  | true =>
    obtain ⟨k, rfl, hk⟩ := has_place hh
    rw [if_pos rfl, if_pos rfl, Int.toNat_natCast]
    obtain ⟨e0, h0⟩ := h.wd (i := 0) (by omega) hk y
    obtain ⟨e1, _⟩ := h0.wd (i := 1) (by omega) (by rw [wd_a]; exact hk) y
    have e1' : ((one pw g1 g2).wr (s.w0 (k : Int) y 0).d 1 (k : Int) y).1 = _ := e1
    rw [wd_o] at e1'
    rw [e0, e1', eq13, eq13]
    have h2 : Dry ((s.w0 (k : Int) y 0).w0 (k : Int) y 1) ((x.wd 0 k y).wd 1 k y) := (hd.wd h (by omega) hk y).wd h0 (by omega) (by rw [wd_a]; exact hk) y
    rw [Mr.reach, show x.o 0 = x.o0 from rfl, show x.o 1 = x.o1 from rfl]
    cases ho0 : x.o0 <;> cases ho1 : x.o1
    · exact (h2.put 0 k false).put 1 k false
    · exact (h2.put 0 k false).put 1 k true
    · exact (h2.put 0 k true).put 1 k false
    · have hx : (x.wd 0 k y).wd 1 k y = x := by
        have h3 : x.wd 0 k y = x := by rw [Md.wd, show x.o 0 = true from ho0, if_pos rfl]
        rw [h3, Md.wd, show x.o 1 = true from ho1, if_pos rfl]
      rw [hx] at h2
      exact h2
theorem Dry.c1 (hd : Dry s x) (h : Sees s x m) {i k : Nat} (hi : i < 2) (hk : k < x.a.length) (y : List UInt8) : Dry (s.c1 (k : Int) y i).2 (x.wd i k y) := by
  have hw := hd.wd h hi hk y
  rw [Mr.c1, h.rd_at hi hk]
  cases ho : x.o i with
  | true =>
    rw [if_neg (by simp), Md.wd, ho, if_pos rfl]
    exact hd
  | false =>
    rw [if_pos (by simp)]
    by_cases hy : (x.l i).getD k zeroS = y
    · rw [if_pos (by simpa using hy), ← hy, wd_same ho]
      exact hd
    · rw [if_neg (by simpa using hy)]
      exact hw
theorem Dry.choose (hd : Dry s x) (h : Sees s x m) (n : Int) (y : List UInt8) : Dry (s.choose n y).2 (x.write n y).2 := by
  rw [Mr.choose, Md.write, h.has]
  cases hh : x.has n with
  | false => exact hd
  | true =>
    obtain ⟨k, rfl, hk⟩ := has_place hh
    rw [if_pos rfl, if_pos rfl, Int.toNat_natCast]
    obtain ⟨e0, h0⟩ := h.c1 (i := 0) (by omega) hk y
    obtain ⟨e1, _⟩ := h0.c1 (i := 1) (by omega) (by rw [wd_a]; exact hk) y
    rw [wd_o] at e1
    rw [e0, e1]
    have h2 : Dry ((s.c1 (k : Int) y 0).2.c1 (k : Int) y 1).2 ((x.wd 0 k y).wd 1 k y) := (hd.c1 h (by omega) hk y).c1 h0 (by omega) (by rw [wd_a]; exact hk) y
    rw [Mr.reach, show x.o 0 = x.o0 from rfl, show x.o 1 = x.o1 from rfl]
    cases ho0 : x.o0 <;> cases ho1 : x.o1
    · exact (h2.put 0 k false).put 1 k false
    · exact (h2.put 0 k false).put 1 k true
    · exact (h2.put 0 k true).put 1 k false
    · have hx : (x.wd 0 k y).wd 1 k y = x := by
        have h3 : x.wd 0 k y = x := by rw [Md.wd, show x.o 0 = true from ho0, if_pos rfl]
        rw [h3, Md.wd, show x.o 1 = true from ho1, if_pos rfl]
      rw [hx] at h2
      exact h2
theorem Dry.heal (hd : Dry s x) (h : Sees s x m) (n : Int) : Dry (s.heal G n).2 (x.heal G.f n).2 := by
  by_cases hc : x.has n = true ∧ x.o0 = false ∧ x.o1 = false
  · obtain ⟨hh, h0, h1⟩ := hc
    have e : (x.heal G.f n).2.o0 = false ∧ (x.heal G.f n).2.o1 = false := by
      rw [Md.heal, hh, if_pos rfl, if_neg (by rw [h0, h1]; simp)]
      split
      · split
        · exact ⟨h0, h1⟩
        · obtain ⟨a, b, _⟩ := mend_o x 1 n.toNat (x.l0.getD n.toNat zeroS); exact ⟨a.trans h0, b.trans h1⟩
      · split
        · obtain ⟨a, b, _⟩ := mend_o x 0 n.toNat (x.l1.getD n.toNat zeroS); exact ⟨a.trans h0, b.trans h1⟩
        · exact ⟨h0, h1⟩
    exact dry_in e.1 e.2
  · have e : (s.heal G n).2 = s ∧ (x.heal G.f n).2 = x := by
      rw [Mr.heal, Md.heal, h.has]
      cases hh : x.has n with
      | false => exact ⟨rfl, rfl⟩
      | true =>
        rw [if_pos rfl, if_pos rfl, h.there (by omega), h.there (by omega), show x.o 0 = x.o0 from rfl, show x.o 1 = x.o1 from rfl]
        cases h0 : x.o0 with
        | true => exact ⟨rfl, rfl⟩
        | false =>
          cases h1 : x.o1 with
          | true => exact ⟨rfl, rfl⟩
          | false => exact absurd ⟨hh, h0, h1⟩ hc
    rw [e.1, e.2]
    exact hd
theorem Sees.catch1 (h : Sees s x m) {i k : Nat} (hi : i < 2) (hk : k < x.a.length) (ho : x.o i = false) : Sees (s.catch1 G i k) (x.catch1 G.f i k) (m + 1) := by
  rw [Mr.catch1, Md.catch1, h.st, h.right (by omega) hk]
  split
  · rename_i hc
    have hr : x.right G.f (1 - i) k = true := by
      cases hr : x.right G.f (1 - i) k
      · rw [hr, Bool.and_false] at hc; cases hc
      · rfl
    rw [h.rightV (by omega) hk hr]
    exact (h.mend hi hk ho _).2
  · exact h.more (Nat.le_succ _)
theorem Sees.catchTo (h : Sees s x m) {i : Nat} (hi : i < 2) (ho0 : x.o0 = false) (ho1 : x.o1 = false) : ∀ k, k ≤ x.a.length → Sees (s.catchTo G i k) (x.catchTo G.f i k) (m + k)
  | 0, _ => h
  | k + 1, hk => by
    obtain ⟨a, b, c⟩ := catchTo_o G.f x i k
    refine (h.catchTo hi ho0 ho1 k (by omega)).catch1 hi (by rw [c]; omega) ?_
    rcases two hi with rfl | rfl
    · exact a.trans ho0
    · exact b.trans ho1
theorem Sees.sync (h : Sees s x 0) : (s.sync G x.a.length).1 = (x.sync G.f).1 ∧ Sees (s.sync G x.a.length).2 (x.sync G.f).2 0 := by
  rw [Mr.sync, Md.sync, h.there (by omega), h.there (by omega), show x.o 0 = x.o0 from rfl, show x.o 1 = x.o1 from rfl]
  cases ho0 : x.o0 with
  | true => exact ⟨rfl, h⟩
  | false =>
    cases ho1 : x.o1 with
    | true => exact ⟨rfl, h⟩
    | false =>
      rw [if_pos (show ((!false) && !false) = true from rfl), if_neg (show ¬ (false || false) = true by simp)]
      obtain ⟨a, b, c⟩ := catchTo_o G.f x 0 x.a.length
      have h1 := h.catchTo (G := G) (i := 0) (by omega) ho0 ho1 x.a.length (Nat.le_refl _)
      have h2 : Sees (s.caught G x.a.length) (x.caught G.f) (0 + x.a.length + x.a.length) := h1.catchTo (i := 1) (by omega) (a.trans ho0) (b.trans ho1) x.a.length (by rw [c]; exact Nat.le_refl _)
      obtain ⟨d, e, g⟩ := catchTo_o G.f (x.catchTo G.f 0 x.a.length) 1 x.a.length
      have o0 : (x.caught G.f).o0 = false := (d.trans a).trans ho0
      have o1 : (x.caught G.f).o1 = false := (e.trans b).trans ho1
      obtain ⟨h3, h4⟩ := h2.fl (dry_in o0 o1)
      rw [o0, o1] at h3
      rw [if_pos (show (s.caught G x.a.length).flushed = (true, true) from h3)]
      refine ⟨?_, h4⟩
      rw [show (((s.caught G x.a.length).fl0 0).fl0 1).a = (x.caught G.f).a from h4.a, show (((s.caught G x.a.length).fl0 0).fl0 1).b = (x.caught G.f).b from h4.b]
theorem Dry.sync (h : Sees s x 0) : Dry (s.sync G x.a.length).2 (x.sync G.f).2 := (h.sync).2.dry
theorem Sees.out0 (h : Sees s x 0) (on : Bool) : Sees (⟨s.d.put 0 ((s.d.at 0).out on), s.a, s.b⟩ : Mr (one pw g1 g2)) (x.out 0 on) 0 := ⟨h.d0.out on, h.d1.put _ (by omega), h.a, h.b, h.n0, h.n1, h.nb⟩
theorem Sees.out1 (h : Sees s x 0) (on : Bool) : Sees (⟨s.d.put 1 ((s.d.at 1).out on), s.a, s.b⟩ : Mr (one pw g1 g2)) (x.out 1 on) 0 := ⟨h.d0.put _ (by omega), h.d1.out on, h.a, h.b, h.n0, h.n1, h.nb⟩
theorem Sees.rot0 (h : Sees s x 0) (n a : Int) (b : UInt8) : Sees (⟨s.d.rot 0 n a b, s.a, s.b⟩ : Mr (one pw g1 g2)) (x.rot 0 n a b) 0 := by
  have h1 := h.d0.rot n a b
  have h2 := h.d1.rot_other (i := 0) n a b (by omega)
  rw [h.n0] at h1
  rw [Md.rot]
  split
  · rename_i hc
    rw [if_pos hc] at h1
    exact ⟨h1, h2, h.a, h.b, by show (rotL _ _ _ _).length = _; rw [Mi.rotL_length]; exact h.n0, h.n1, h.nb⟩
  · rename_i hc
    rw [if_neg hc] at h1
    exact ⟨h1, h2, h.a, h.b, h.n0, h.n1, h.nb⟩
theorem Sees.rot1 (h : Sees s x 0) (n a : Int) (b : UInt8) : Sees (⟨s.d.rot 1 n a b, s.a, s.b⟩ : Mr (one pw g1 g2)) (x.rot 1 n a b) 0 := by
  have h1 := h.d1.rot n a b
  have h2 := h.d0.rot_other (i := 1) n a b (by omega)
  rw [h.n1] at h1
  rw [Md.rot]
  split
  · rename_i hc
    rw [if_pos hc] at h1
    exact ⟨h2, h1, h.a, h.b, h.n0, by show (rotL _ _ _ _).length = _; rw [Mi.rotL_length]; exact h.n1, h.nb⟩
  · rename_i hc
    rw [if_neg hc] at h1
    exact ⟨h2, h1, h.a, h.b, h.n0, h.n1, h.nb⟩
end
end Go.Proofs.Ytnplhagfmfggcaa.Mu
