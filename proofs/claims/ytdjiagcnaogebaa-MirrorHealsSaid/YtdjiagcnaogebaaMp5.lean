/-
  Texts of this seat, one behind the other: MiAct, MiSectors, LateHeld, MrPlay, MiAwake, OpenA.
-/
import Derived.OrdersHeld
import Derived.Deep.RegionHeld
import Derived.Deep.CutBlock
import Derived.OpenShut
import Derived.ProofKit
import Derived.Test.YtdjiagcnaogebaaMp4
/-
  Acts: how a row of them that came in is opened, and how one is read.
-/
namespace Go.Proofs.Ytdjiagcnaogebaa.Mi
open Go.RowKit Kd
/-- An act: Kind, N, X, Y, On. -/
structure Ac where
  kind : Int
  n : Int
  x : UInt8
  y : UInt8
  on : Bool
def acV (a : Ac) : List Value := [.int .i64 a.kind, .int .i64 a.n, .int .u8 (a.x.toNat : Int), .int .u8 (a.y.toNat : Int), .bool a.on]
def acs : List Ac → List Value
  | [] => []
  | x :: l => acV x ++ acs l
theorem acs_append (a b : List Ac) : acs (a ++ b) = acs a ++ acs b := by
  induction a with
  | nil => rfl
  | cons x l ih => simp [acs, ih]
theorem acV_length (x : Ac) : (acV x).length = 5 := rfl
theorem acs_length (l : List Ac) : (acs l).length = l.length * 5 := by
  induction l with
  | nil => rfl
  | cons x l ih => rw [acs, List.length_append, acV_length, ih, List.length_cons]; omega
theorem acs_get {l : List Ac} {k : Nat} (hk : k < l.length) {j : Nat} {v : Value} (hv : (acV l[k])[j]? = some v) : (acs l)[5 * k + j]? = some v := by
  induction l generalizing k with
  | nil => simp at hk
  | cons x l ih =>
    cases k with
    | zero =>
      have hj : j < 5 := (List.getElem?_eq_some_iff.1 hv).1
      rw [acs, Nat.mul_zero, Nat.zero_add, List.getElem?_append_left (by rw [acV_length]; omega)]
      exact hv
    | succ k =>
      rw [acs, List.getElem?_append_right (by rw [acV_length]; omega), acV_length, show 5 * (k + 1) + j - 5 = 5 * k + j by omega]
      exact ih (by simpa using hk) (by simpa using hv)
/-- All of a deed's numbers are numbers. -/
def Ac.ok (x : Ac) : Prop := (-9223372036854775808 ≤ x.kind ∧ x.kind ≤ 9223372036854775807) ∧ (-9223372036854775808 ≤ x.n ∧ x.n ≤ 9223372036854775807)
/-- A deed of a row, read. -/
theorem rd_act {B : Nat} {w : World} {A : Option Addr} {l : List Ac} (h : Rd B w A (acs l)) {k : Nat} (hk : k < l.length) :
    ∃ ad, A = some ad ∧ ad.block < B ∧ ∀ j v, (acV l[k])[j]? = some v → w.cell? ((ad.add (k * 5)).add j) = some v := by
  obtain ⟨ad, hA, hb, _⟩ := h _ _ (acs_get hk (j := 0) (v := .int .i64 l[k].kind) rfl)
  refine ⟨ad, hA, hb, fun j v hv => ?_⟩
  obtain ⟨ad', hA', _, hc⟩ := h _ _ (acs_get hk hv)
  rw [hA] at hA'; injection hA' with hA'
  rw [hA', add_twice8, Nat.mul_comm k 5]
  exact hc
section
open Go.ChangeShapes Go.WideShapes
variable {H : Type} {enc : TypeId × Value → H} {w : World} {base : Nat} {spare : Nat → Bool} {held : Bool}
theorem act_fields : (Try.prog.fieldsOf 61).toList.map (fun f => (f.name == "_", f.type, f.offset)) = [(false, 3, 0), (false, 3, 1), (false, 5, 2), (false, 5, 3), (false, 4, 4)] := by kernel_rfl
theorem act_under : Try.prog.underlying 61 = some (.struct (Try.prog.fieldsOf 61)) := by kernel_rfl
set_option maxRecDepth 100000 in
theorem act_of_trod {fuel : Nat} {cs : List Value} {x : DataW H × List MemPlace} (h : DataW.trod enc Try.prog w base spare held fuel 61 cs = some x) :
    ∃ y : Ac, cs = acV y ∧ y.ok := by
  obtain ⟨xs, n, _, _, hl, hlen, hf⟩ := DataW.trod_struct act_under h
  have hfs := act_fields
  have hcn : Try.prog.cellsOf 61 = 5 := by kernel_rfl
  have hci : Try.prog.cellsOf 3 = 1 := by kernel_rfl
  have hcb : Try.prog.cellsOf 5 = 1 := by kernel_rfl
  have hco : Try.prog.cellsOf 4 = 1 := by kernel_rfl
  generalize Try.prog.fieldsOf 61 = fs at hfs hlen hf
  rw [hcn] at hl
  obtain ⟨L⟩ := fs
  have hL5 : L.length = 5 := by simpa using congrArg List.length hfs
  match L, hL5, hfs, hf, hlen with
  | [f0, f1, f2, f3, f4], _, hfs, hf, hlen =>
    simp only [List.map_cons, List.map_nil, List.cons.injEq, Prod.mk.injEq, and_true] at hfs
    obtain ⟨⟨_, t0, o0⟩, ⟨_, t1, o1⟩, ⟨_, t2, o2⟩, ⟨_, t3, o3⟩, ⟨_, t4, o4⟩⟩ := hfs
    have h5 : xs.length = 5 := hlen
    have g0 := hf 0 f0 rfl
    have g1 := hf 1 f1 rfl
    have g2 := hf 2 f2 rfl
    have g3 := hf 3 f3 rfl
    have g4 := hf 4 f4 rfl
    rw [t0, o0, hci, List.getElem?_eq_getElem (by omega)] at g0
    rw [t1, o1, hci, List.getElem?_eq_getElem (by omega)] at g1
    rw [t2, o2, hcb, List.getElem?_eq_getElem (by omega)] at g2
    rw [t3, o3, hcb, List.getElem?_eq_getElem (by omega)] at g3
    rw [t4, o4, hco, List.getElem?_eq_getElem (by omega)] at g4
    obtain ⟨a0, e0, _, w0⟩ := DataW.trod_int Try.underlying3 g0
    obtain ⟨a1, e1, _, w1⟩ := DataW.trod_int Try.underlying3 g1
    obtain ⟨a2, e2, _, w2⟩ := DataW.trod_int Try.underlying5 g2
    obtain ⟨a3, e3, _, w3⟩ := DataW.trod_int Try.underlying5 g3
    obtain ⟨a4, e4, _⟩ := DataW.trod_bool Try.underlying4 g4
    match cs, hl with
    | [u0, u1, u2, u3, u4], _ =>
      simp at e0 e1 e2 e3 e4
      exact ⟨⟨a0, a1, byteOf a2, byteOf a3, a4⟩, by rw [e0, e1, e2, e3, e4]; unfold acV; rw [byteOf_val w2, byteOf_val w3], bounds_i64 w0, bounds_i64 w1⟩
/-- A row of deeds that came in. -/
theorem open_acts {a : Option Addr} {len cap : Nat} {d : DataW H} {ps : List MemPlace} (h : DataW.Trod enc Try.prog w base spare held 51 (.slice a len cap) d ps) :
    ∃ l : List Ac, l.length = len ∧ len ≤ cap ∧ cap ≤ maxLen ∧ Rd w.heap.size w a (acs l) ∧ ∀ y ∈ l, y.ok := by
  obtain ⟨fuel, hf⟩ := h
  have hf' : DataW.trod enc Try.prog w base spare held fuel 51 [Value.slice a len cap] = some (d, ps) := hf
  have hcn : Try.prog.cellsOf 61 = 5 := by kernel_rfl
  rcases Go.Deep.open_slice Try.underlying51 hf' with ⟨hcs, _⟩ | ⟨a', len', cap', m, n, D, Pl, hcs, _, hl, hm, hmm, _, hx⟩
  · simp only [List.cons.injEq, and_true] at hcs
    injection hcs with e1 e2 e3
    subst e1; subst e2; subst e3
    exact ⟨[], rfl, Nat.le_refl _, Nat.zero_le _, Rd.none, fun y hy => by simp at hy⟩
  · simp only [List.cons.injEq, and_true] at hcs
    injection hcs with e1 e2 e3
    subst e1; subst e2; subst e3
    have hlm : len ≤ m := by rw [hmm]; split <;> omega
    rw [hcn] at hx
    have hall : ∀ j, j ≤ len → ∃ l : List Ac, l.length = j ∧ (∀ y ∈ l, y.ok) ∧ ∀ k u, (acs l)[k]? = some u → w.cell? (a'.add k) = some u := by
      intro j
      induction j with
      | zero => exact fun _ => ⟨[], rfl, fun y hy => by simp at hy, fun k u hu => by simp [acs] at hu⟩
      | succ j ih =>
        intro hj
        obtain ⟨l, hl', hb, hc⟩ := ih (by omega)
        obtain ⟨cs', h1, h2⟩ := hx j (by omega)
        obtain ⟨y, hy, hyb⟩ := act_of_trod h2
        obtain ⟨_, _, hcl⟩ := World.cells?_some h1
        have hnl : (acs l).length = j * 5 := by rw [acs_length, hl']
        refine ⟨l ++ [y], by simp [hl'], fun z hz => ?_, fun k u hu => ?_⟩
        · rcases List.mem_append.1 hz with hz | hz
          · exact hb z hz
          · rw [List.mem_singleton] at hz; rw [hz]; exact hyb
        · rw [acs_append] at hu
          rcases Nat.lt_or_ge k (acs l).length with hk | hk
          · rw [List.getElem?_append_left hk] at hu
            exact hc k u hu
          · rw [List.getElem?_append_right hk, acs, acs, List.append_nil, ← hy, hnl] at hu
            have hk5 : k - j * 5 < 5 := by
              have := (List.getElem?_eq_some_iff.1 hu).1
              rw [hy, acV_length] at this; exact this
            have h3 := hcl (k - j * 5) hk5
            rw [add_twice8, show j * 5 + (k - j * 5) = k by omega, hu] at h3
            exact h3
    obtain ⟨l, hl', hb, hc⟩ := hall len (Nat.le_refl _)
    refine ⟨l, hl', hl, hm, fun k u hu => ⟨a', rfl, ?_, hc k u hu⟩, hb⟩
    have := World.block_lt_of_cell? _ _ (hc k u hu)
    rw [add_block] at this
    exact this
end
end Go.Proofs.Ytdjiagcnaogebaa.Mi
/-
  The contract of the reference's Sectors, of two rows that are the same.
-/
namespace Go.Proofs.Ytdjiagcnaogebaa.Mi
open Go.RowKit Kd
attribute [local go_sem ↓] Go.wp_at_zero Go.wp_at_succ
set_option maxRecDepth 100000 in
set_option maxHeartbeats 6400000 in
theorem sectors_same {B B' : Nat} {A A' : Option Addr} {n c c' : Nat} {l : List (List UInt8)} {w : World} (hn : l.length = n) (h3 : ∀ x ∈ l, x.length = 128) (ha : Rd B w A (svs l)) (hb : Rd B' w A' (svs l)) (hB : B ≤ w.heap.size) (hB' : B' ≤ w.heap.size) (hm : n ≤ 1000) :
    Calls Try.prog 66 #[.slice A n c, .slice A' n c'] w (RetB (.bool true) w) := by
  have HN := Lib.hid hn
  have H3 := Lib.hid h3
  have HA := Lib.hid ha
  have HB := Lib.hid hb
  have HBB := Lib.hid (show B ≤ w.heap.size ∧ B' ≤ w.heap.size from ⟨hB, hB'⟩)
  have HM := Lib.hid hm
  clear hn h3 ha hb hB hB' hm
  go_enter Try.func66, Try.ntmps66
  go_wp2_with fail
  go_loopw [5] (fun i wr => ∃ j : Nat, j ≤ n ∧ i = .int .i64 j ∧ Below w.heap.size w wr) (fun i _ => n - (intOf i).toNat)
  case atStart => exact ⟨0, Nat.zero_le _, rfl, Below.refl _ _⟩
  case round =>
    obtain ⟨j, hj, rfl, hbel⟩ := hrel
    have HJ := Lib.hid hj
    have HW := Lib.hid hbel
    clear hj hbel
    by_cases hlt : j < n
    · have HLT := Lib.hid hlt
      have j0 : (0 : Int) ≤ (j : Int) := by omega
      have j1 : (j : Int) < (n : Int) := by omega
      have wj : IntKind.i64.wrap ((j : Int) + 1) = ((j + 1 : Nat) : Int) := IntWalk.i64_in _ (by have := HM.out; omega)
      have hjl : j < l.length := by rw [HN.out]; exact hlt
      obtain ⟨y, hy⟩ : ∃ y, y = l[j] := ⟨_, rfl⟩
      obtain ⟨ad, hA1, hz1, hz2⟩ := rd_sec HA.out H3.out hjl
      obtain ⟨ad', hA2, hz3, hz4⟩ := rd_sec HB.out H3.out hjl
      subst hA1 hA2
      have HY3 := Lib.hid (show y.length = 128 by rw [hy]; exact H3.out _ (List.getElem_mem hjl))
      have HIL := Lib.hid (show (Try.prog.info? 38).map (·.size) = some (bv y).length by rw [bv_length, HY3.out]; exact info_sec)
      have HC1 := Lib.hid (show ∀ w', Below w.heap.size w w' → ∀ i v, (bv y)[i]? = some v → w'.cell? ((ad.add (j * 128)).add i) = some v from fun w' hb i v hv => by
        obtain ⟨a2, h1, _, h2⟩ := rd_sec (HA.out.below (hb.mono HBB.out.1)) H3.out hjl
        injection h1 with h1; subst h1
        exact h2 i v (by rw [← hy]; exact hv))
      have HC2 := Lib.hid (show ∀ w', Below w.heap.size w w' → ∀ i v, (bv y)[i]? = some v → w'.cell? ((ad'.add (j * 128)).add i) = some v from fun w' hb i v hv => by
        obtain ⟨a2, h1, _, h2⟩ := rd_sec (HB.out.below (hb.mono HBB.out.2)) H3.out hjl
        injection h1 with h1; subst h1
        exact h2 i v (by rw [← hy]; exact hv))
      have HQ := Lib.hid (show ∀ W, (Op.equalIn 10000 38 (.agg (bva y)) (.agg (bva y))).run Try.prog W = .ok true W from fun W => by rw [eq_sec y y HY3.out HY3.out, decide_eq_true rfl])
      clear hz1 hz2 hz3 hz4 hlt hy hjl
      go_wp2_with fail
      refine wp_region_held_drew (S := fun w' => Below w.heap.size w w') (by kernel_rfl) HW.out.drew (fun hh => ?_)
      have HH := Lib.hid hh
      clear hh
      refine wpAnyH_take (i := 0) (v := ?vS0) rfl (by kernel_rfl) (by kernel_rfl) (by kernel_rfl) (fun _ _ _ h => h) (Or.inl ⟨by rfl, fun w' _ => ?yS0⟩) HH.out ?_
      case yS0 => (go_simp; try with_reducible rfl)
      refine wpAnyH_take (i := 1) (v := ?vS1) rfl (by kernel_rfl) (by kernel_rfl) (by kernel_rfl) (fun _ _ _ h => h) (Or.inl ⟨by rfl, fun w' _ => ?yS1⟩) HH.out ?_
      case yS1 => (go_simp; try with_reducible rfl)
      try simp only [List.getElem_toArray, List.getElem_cons_succ, List.getElem_cons_zero, Act.put, List.setIfInBounds_toArray, List.set_cons_zero, List.set_cons_succ]
      refine wpAnyH_take (i := 2) (v := ?vS2) rfl (by kernel_rfl) (by kernel_rfl) (by kernel_rfl) (fun _ _ _ h => h) (Or.inl ⟨by rfl, fun w' _ => ?yS2⟩) HH.out ?_
      case yS2 => (go_simp; try with_reducible rfl)
      refine wpAnyH_take (i := 3) (v := .agg (bva y)) rfl (by kernel_rfl) (by kernel_rfl) (by kernel_rfl) (fun _ _ _ h => h) (Or.inl ⟨by rfl, fun w' hw' => ?yS3⟩) HH.out ?_
      case yS3 => exact exec_load_at 38 (.tmp 19) rfl (ad.add (j * 128)) rfl (HC1.out w' hw') Try.underlying38 rfl HIL.out
      refine wpAnyH_take (i := 4) (v := ?vS4) rfl (by kernel_rfl) (by kernel_rfl) (by kernel_rfl) (fun _ _ _ h => h) (Or.inl ⟨by rfl, fun w' _ => ?yS4⟩) HH.out ?_
      case yS4 => (go_simp; try with_reducible rfl)
      try simp only [List.getElem_toArray, List.getElem_cons_succ, List.getElem_cons_zero, Act.put, List.setIfInBounds_toArray, List.set_cons_zero, List.set_cons_succ]
      refine wpAnyH_take (i := 5) (v := ?vS5) rfl (by kernel_rfl) (by kernel_rfl) (by kernel_rfl) (fun _ _ _ h => h) (Or.inl ⟨by rfl, fun w' _ => ?yS5⟩) HH.out ?_
      case yS5 => (go_simp; try with_reducible rfl)
      refine wpAnyH_take (i := 6) (v := ?vS6) rfl (by kernel_rfl) (by kernel_rfl) (by kernel_rfl) (fun _ _ _ h => h) (Or.inl ⟨by rfl, fun w' _ => ?yS6⟩) HH.out ?_
      case yS6 => (go_simp; try with_reducible rfl)
      refine wpAnyH_take (i := 7) (v := .agg (bva y)) rfl (by kernel_rfl) (by kernel_rfl) (by kernel_rfl) (fun _ _ _ h => h) (Or.inl ⟨by rfl, fun w' hw' => ?yS7⟩) HH.out ?_
      case yS7 => exact exec_load_at 38 (.tmp 23) rfl (ad'.add (j * 128)) rfl (HC2.out w' hw') Try.underlying38 rfl HIL.out
      try simp only [List.getElem_toArray, List.getElem_cons_succ, List.getElem_cons_zero, Act.put, List.setIfInBounds_toArray, List.set_cons_zero, List.set_cons_succ]
      refine wpAnyH_take (i := 8) (v := .bool false) rfl (by kernel_rfl) (by kernel_rfl) (by kernel_rfl) (fun _ _ _ h => h) (Or.inl ⟨by rfl, fun w' hw' => ?yS8⟩) HH.out ?_
      case yS8 => (go_simp; rw [HQ.out]; try rfl)
      try simp only [List.getElem_toArray, List.getElem_cons_succ, List.getElem_cons_zero, Act.put, List.setIfInBounds_toArray, List.set_cons_zero, List.set_cons_succ]
      refine wpAnyH_done (by kernel_rfl) ?_ _
      go_wp2_with fail
      go_roundw
      case rel => exact ⟨j + 1, HLT.out, by go_num, HH.out⟩
      case measure => (have := HLT.out; simp [intOf]; omega)
    · obtain rfl : j = n := by have := HJ.out; omega
      clear hlt
      go_wp2_with fail
      go_ret
      exact ⟨rfl, HW.out⟩
end Go.Proofs.Ytdjiagcnaogebaa.Mi
/-
  A region that draws its order, of which the last operations WRITE what the first ones read: the condition S on the world is wanted only as long as none of the late operations W has come up (a load that each of them waits for is taken first under it), the condition S0 always.
-/
namespace Go.Proofs.Ytdjiagcnaogebaa
section
variable {P : Program} {ops : Array Oper} {Q : Exit → Act → World → Prop} {md : Region.Mode} {S S0 : World → Prop} {W : List Nat}
/-- Has a late one come up? -/
def Late (W : List Nat) (l : Array Bool) : Prop := ∃ k ∈ W, l.getD k true = true
def wpAnyL (P : Program) (md : Region.Mode) (ops : Array Oper) (Q : Exit → Act → World → Prop) (S0 S : World → Prop) (W : List Nat) : Nat → Array Bool → Act → World → Prop
  | 0, listed, a, w => Region.ready md ops listed = [] ∧ Q .normal a w
  | fuel + 1, listed, a, w =>
    (Region.ready md ops listed = [] → Q .normal a w) ∧
    ∀ i ∈ Region.ready md ops listed, wpOp P ops Q i (fun a' w' => (S0 w' ∧ (Late W (listed.setIfInBounds i true) ∨ S w')) ∧ wpAnyL P md ops Q S0 S W fuel (listed.setIfInBounds i true) a' w') a w
theorem wpAny_of_late : ∀ (fuel : Nat) (listed : Array Bool) (a : Act) (w : World), wpAnyL P md ops Q S0 S W fuel listed a w → wpAny P md ops Q fuel listed a w
  | 0, _, _, _, h => h
  | fuel + 1, _, _, _, h => ⟨h.1, fun i hi => wpOp_mono (fun a' w' h' => wpAny_of_late fuel _ a' w' h'.2) (h.2 i hi)⟩
theorem wpAnyL_first {i : Nat} {oi : Oper} {v : Value} (hi : ops[i]? = some oi) (hsel : ∀ (j : Nat) (o : Oper) cs b, ops[j]? = some o → o.op ≠ .select cs b)
    (hQ : ∀ c a w, Q (.panic c) (a.put oi.dst v) w → Q (.panic c) a w) (hW : ∀ k ∈ W, ∃ o e, ops[k]? = some o ∧ e ∈ o.after ∧ Region.binds md e = true ∧ e.on = i) (hiW : i ∉ W) :
    ∀ (fuel : Nat) (listed : Array Bool) (a : Act) (w : World),
      (∀ j oj, ops[j]? = some oj → j ≠ i → listed.getD j true = false → (∀ e ∈ oj.after, Region.binds md e = true → e.on ≠ i) → oi.apart ops oj = true) →
      (∀ k ∈ W, listed.getD k true = false) →
      i ∈ Region.ready md ops listed → YieldsIf P ops (fun w => S0 w ∧ S w) oi v a → S0 w ∧ S w →
      wpAnyL P md ops Q S0 S W fuel (listed.setIfInBounds i true) (a.put oi.dst v) w → wpAnyL P md ops Q S0 S W (fuel + 1) listed a w := by
  intro fuel
  induction fuel with
  | zero =>
    intro listed a w _ _ hr hy hS H
    refine ⟨fun h => (by rw [h] at hr; cases hr), fun j hj => ?_⟩
    by_cases hji : j = i
    · subst hji; exact hy.wpOp hi hS ⟨⟨hS.1, .inr hS.2⟩, H⟩
    · have := ready_mono hj hji
      rw [H.1] at this
      cases this
  | succ fuel ih =>
    intro listed a w hfree hwl hr hy hS H
    refine ⟨fun h => (by rw [h] at hr; cases hr), fun j hj => ?_⟩
    by_cases hji : j = i
    · subst hji; exact hy.wpOp hi hS ⟨⟨hS.1, .inr hS.2⟩, H⟩
    · have h1 := H.2 j (ready_mono hj hji)
      obtain ⟨hjun, oj, hoj, hall⟩ := mem_ready.1 hj
      have hnot : ∀ e ∈ oj.after, Region.binds md e = true → e.on ≠ i := fun e he hb heq => by
        have h1 := hall e he hb
        have h0 := (mem_ready.1 hr).1
        rw [heq] at h1
        rcases Nat.lt_or_ge i listed.size with h' | h'
        · simp [h'] at h0 h1; rw [h0] at h1; cases h1
        · simp [Array.getElem?_eq_none h'] at h1
      have hjW : j ∉ W := fun hm => by
        obtain ⟨o, e, ho, he, hb, hon⟩ := hW j hm
        rw [hoj] at ho; injection ho with ho; subst ho
        exact hnot e he hb hon
      have hwl' : ∀ k ∈ W, (listed.setIfInBounds j true).getD k true = false := fun k hk => by
        have hjk : j ≠ k := fun e => hjW (e ▸ hk)
        rw [getD_set_ne true hjk]; exact hwl k hk
      have hnl : ∀ w', (S0 w' ∧ (Late W ((listed.setIfInBounds i true).setIfInBounds j true) ∨ S w')) → S0 w' ∧ S w' := fun w' h => ⟨h.1, h.2.elim (fun ⟨k, hk, h2⟩ => by
        have hjk : j ≠ k := fun e => hjW (e ▸ hk)
        have hik : i ≠ k := fun e => hiW (e ▸ hk)
        rw [getD_set_ne true hjk, getD_set_ne true hik, hwl k hk] at h2; cases h2) id⟩
      have h2 := wpOp_putIf hoj (hfree j oj hoj hji hjun hnot) (fun cs b => hsel i oi cs b hi) (fun cs b => hsel j oj cs b hoj) hQ hy h1
      have hfree' : ∀ k ok, ops[k]? = some ok → k ≠ i → (listed.setIfInBounds j true).getD k true = false →
          (∀ e ∈ ok.after, Region.binds md e = true → e.on ≠ i) → oi.apart ops ok = true := fun k ok hk hki hun hno => by
        refine hfree k ok hk hki ?_ hno
        by_cases hjk : j = k
        · subst hjk; exact hjun
        · rw [getD_set_ne true hjk] at hun; exact hun
      refine wpOp_mono (fun a' w' h3 => ⟨⟨h3.2.1.1, .inr (hnl w' h3.2.1).2⟩, ih (listed.setIfInBounds j true) a' w' hfree' hwl' (ready_mono hr (Ne.symm hji)) h3.1 (hnl w' h3.2.1) ?_⟩) h2
      rw [Array.setIfInBounds_comm _ _ hji]
      exact h3.2.2
theorem wpAnyL_first0 {i : Nat} {oi : Oper} {v : Value} (hi : ops[i]? = some oi) (hsel : ∀ (j : Nat) (o : Oper) cs b, ops[j]? = some o → o.op ≠ .select cs b)
    (hQ : ∀ c a w, Q (.panic c) (a.put oi.dst v) w → Q (.panic c) a w) (hiW : i ∉ W) :
    ∀ (fuel : Nat) (listed : Array Bool) (a : Act) (w : World),
      (∀ j oj, ops[j]? = some oj → j ≠ i → listed.getD j true = false → (∀ e ∈ oj.after, Region.binds md e = true → e.on ≠ i) → oi.apart ops oj = true) →
      i ∈ Region.ready md ops listed → YieldsIf P ops S0 oi v a → S0 w → (Late W listed ∨ S w) →
      wpAnyL P md ops Q S0 S W fuel (listed.setIfInBounds i true) (a.put oi.dst v) w → wpAnyL P md ops Q S0 S W (fuel + 1) listed a w := by
  have hlate : ∀ {listed : Array Bool} {w : World}, i ∈ Region.ready md ops listed → (Late W listed ∨ S w) → (Late W (listed.setIfInBounds i true) ∨ S w) := fun {listed w} hr h => h.imp (fun ⟨k, hk, h2⟩ => ⟨k, hk, by
    by_cases hik : i = k
    · subst hik; have h0 := (mem_ready.1 hr).1; rw [h2] at h0; cases h0
    · rw [getD_set_ne true hik]; exact h2⟩) id
  have hback : ∀ {listed : Array Bool} {w : World} {j : Nat}, j ≠ i → (Late W ((listed.setIfInBounds i true).setIfInBounds j true) ∨ S w) → (Late W (listed.setIfInBounds j true) ∨ S w) := fun {listed w j} hji h => h.imp (fun ⟨k, hk, h2⟩ => by
    by_cases hik : i = k
    · exact absurd (hik ▸ hk) hiW
    · exact ⟨k, hk, by rw [Array.setIfInBounds_comm _ _ (Ne.symm hji), getD_set_ne true hik] at h2; exact h2⟩) id
  intro fuel
  induction fuel with
  | zero =>
    intro listed a w _ hr hy hS hSS H
    refine ⟨fun h => (by rw [h] at hr; cases hr), fun j hj => ?_⟩
    by_cases hji : j = i
    · subst hji; exact hy.wpOp hi hS ⟨⟨hS, hlate hr hSS⟩, H⟩
    · have := ready_mono hj hji
      rw [H.1] at this
      cases this
  | succ fuel ih =>
    intro listed a w hfree hr hy hS hSS H
    refine ⟨fun h => (by rw [h] at hr; cases hr), fun j hj => ?_⟩
    by_cases hji : j = i
    · subst hji; exact hy.wpOp hi hS ⟨⟨hS, hlate hr hSS⟩, H⟩
    · have h1 := H.2 j (ready_mono hj hji)
      obtain ⟨hjun, oj, hoj, hall⟩ := mem_ready.1 hj
      have hnot : ∀ e ∈ oj.after, Region.binds md e = true → e.on ≠ i := fun e he hb heq => by
        have h1 := hall e he hb
        have h0 := (mem_ready.1 hr).1
        rw [heq] at h1
        rcases Nat.lt_or_ge i listed.size with h' | h'
        · simp [h'] at h0 h1; rw [h0] at h1; cases h1
        · simp [Array.getElem?_eq_none h'] at h1
      have h2 := wpOp_putIf hoj (hfree j oj hoj hji hjun hnot) (fun cs b => hsel i oi cs b hi) (fun cs b => hsel j oj cs b hoj) hQ hy h1
      have hfree' : ∀ k ok, ops[k]? = some ok → k ≠ i → (listed.setIfInBounds j true).getD k true = false →
          (∀ e ∈ ok.after, Region.binds md e = true → e.on ≠ i) → oi.apart ops ok = true := fun k ok hk hki hun hno => by
        refine hfree k ok hk hki ?_ hno
        by_cases hjk : j = k
        · subst hjk; exact hjun
        · rw [getD_set_ne true hjk] at hun; exact hun
      refine wpOp_mono (fun a' w' h3 => ⟨⟨h3.2.1.1, hback hji h3.2.1.2⟩, ih (listed.setIfInBounds j true) a' w' hfree' (ready_mono hr (Ne.symm hji)) h3.1 h3.2.1.1 (hback hji h3.2.1.2) ?_⟩) h2
      rw [Array.setIfInBounds_comm _ _ hji]
      exact h3.2.2
/-- Do all of W wait for i? -/
def lateOf (md : Region.Mode) (ops : Array Oper) (W : List Nat) (i : Nat) : Bool := W.all fun k => match ops[k]? with
  | some o => o.after.any fun e => Region.binds md e && e.on == i
  | none => false
theorem lateOf_spec {i : Nat} (h : lateOf md ops W i = true) : ∀ k ∈ W, ∃ o e, ops[k]? = some o ∧ e ∈ o.after ∧ Region.binds md e = true ∧ e.on = i := fun k hk => by
  have h1 := List.all_eq_true.1 h k hk
  cases ho : ops[k]? with
  | none => simp [ho] at h1
  | some o =>
    simp only [ho] at h1
    obtain ⟨e, he, h2⟩ := Array.any_eq_true'.1 h1
    simp only [Bool.and_eq_true, beq_iff_eq] at h2
    exact ⟨o, e, rfl, he, h2.1, h2.2⟩
theorem wpAnyL_take {i : Nat} {oi : Oper} {v : Value} {fuel : Nat} {listed : Array Bool} {a : Act} {w : World} (hi : ops[i]? = some oi)
    (hs : Region.noSelect ops = true) (hf : Region.free md ops listed i = true) (hr : (Region.ready md ops listed).contains i = true)
    (hQ : ∀ c a w, Q (.panic c) (a.put oi.dst v) w → Q (.panic c) a w) (hW : lateOf md ops W i = true) (hiW : W.contains i = false) (hwl : (W.all fun k => listed.getD k true == false) = true) (hy : YieldsIf P ops (fun w => S0 w ∧ S w) oi v a) (hS : S0 w ∧ S w)
    (h : wpAnyL P md ops Q S0 S W fuel (listed.setIfInBounds i true) (a.put oi.dst v) w) : wpAnyL P md ops Q S0 S W (fuel + 1) listed a w :=
  wpAnyL_first hi (Region.noSelect_spec hs) hQ (lateOf_spec hW) (by simpa using hiW) fuel listed a w (Region.free_spec hi hf) (fun k hk => by simpa using List.all_eq_true.1 hwl k hk) (by simpa using hr) hy hS h
theorem wpAnyL_take0 {i : Nat} {oi : Oper} {v : Value} {fuel : Nat} {listed : Array Bool} {a : Act} {w : World} (hi : ops[i]? = some oi)
    (hs : Region.noSelect ops = true) (hf : Region.free md ops listed i = true) (hr : (Region.ready md ops listed).contains i = true)
    (hQ : ∀ c a w, Q (.panic c) (a.put oi.dst v) w → Q (.panic c) a w) (hiW : W.contains i = false) (hy : YieldsIf P ops S0 oi v a) (hS : S0 w) (hSS : Late W listed ∨ S w)
    (h : wpAnyL P md ops Q S0 S W fuel (listed.setIfInBounds i true) (a.put oi.dst v) w) : wpAnyL P md ops Q S0 S W (fuel + 1) listed a w :=
  wpAnyL_first0 hi (Region.noSelect_spec hs) hQ (by simpa using hiW) fuel listed a w (Region.free_spec hi hf) (by simpa using hr) hy hS hSS h
/-- Behind the last load no S is wanted. -/
def AllReadyL (P : Program) (md : Region.Mode) (ops : Array Oper) (Q : Exit → Act → World → Prop) (S0 S : World → Prop) (W : List Nat) (fuel : Nat) (listed : Array Bool) (a : Act) (w : World) (rs : List Nat) : Prop :=
  ∀ i ∈ rs, wpOp P ops Q i (fun a' w' => (S0 w' ∧ (Late W (listed.setIfInBounds i true) ∨ S w')) ∧ wpAnyL P md ops Q S0 S W fuel (listed.setIfInBounds i true) a' w') a w
theorem AllReadyL.nil {fuel : Nat} {listed : Array Bool} {a : Act} {w : World} : AllReadyL P md ops Q S0 S W fuel listed a w [] := fun _ h => by cases h
theorem AllReadyL.cons {fuel : Nat} {listed : Array Bool} {a : Act} {w : World} {i : Nat} {o : Oper} {rs : List Nat} (ho : ops[i]? = some o)
    (h : ∀ K' : Act → World → Prop, Shut (∀ a w, (S0 w ∧ (Late W (listed.setIfInBounds i true) ∨ S w)) → wpAnyL P md ops Q S0 S W fuel (listed.setIfInBounds i true) a w → K' a w) → if Region.wanted o (yielded ops a.tmps) = true then Oper.wp P o a w K' Q else K' (a.put o.dst undef) w)
    (hs : AllReadyL P md ops Q S0 S W fuel listed a w rs) : AllReadyL P md ops Q S0 S W fuel listed a w (i :: rs) := fun j hj => by
  rcases List.mem_cons.1 hj with rfl | hj
  · exact wpOp_step ho (fun K' hK => h K' (fun a w hS hW => hK a w ⟨hS, hW⟩))
  · exact hs j hj
theorem wpAnyL_ready {rs : List Nat} {fuel : Nat} {listed : Array Bool} {a : Act} {w : World} (hr : Region.ready md ops listed = rs) (hne : rs ≠ [])
    (h : AllReadyL P md ops Q S0 S W fuel listed a w rs) : wpAnyL P md ops Q S0 S W (fuel + 1) listed a w := ⟨fun h0 => absurd (hr ▸ h0) hne, hr ▸ h⟩
theorem wpAnyL_done {listed : Array Bool} {a : Act} {w : World} (hr : Region.ready md ops listed = []) (h : Q .normal a w) :
    ∀ fuel, wpAnyL P md ops Q S0 S W fuel listed a w
  | 0 => ⟨hr, h⟩
  | _ + 1 => ⟨fun _ => h, by rw [hr]; simp⟩
theorem wp_region_late {id : Nat} {a : Act} {w : World} (hm : P.follows .mixedOrders = true)
    (h : wpAnyL P .any ops Q S0 S W ops.size (Array.replicate ops.size false) a w.drew) : (Code.region id ops true).wp P Q a w :=
  wp_region_any hm (wpAny_of_late _ _ _ _ h)
end
end Go.Proofs.Ytdjiagcnaogebaa
/-
  An act, played by both: they tell the same.
-/
namespace Go.Proofs.Ytdjiagcnaogebaa.Mr
open Go.RowKit Kd Mi
attribute [local go_sem ↓] Go.wp_at_zero Go.wp_at_succ
def acR (a : Ac) : Array Value := (acV a).toArray
section
variable {p1 g1 p2 g2 g gr : Nat} {w0 w : World} {s : Mr (Two p1 g1 p2 g2)} {F R : Nat → Prop} {x : Md}
/-- What play leaves. -/
def Played (p1 g1 p2 g2 g gr : Nat) (w0 : World) (R : Nat → Prop) (N : Nat) (F : Nat → Prop) (w w' : World) (m : Nat) : Prop := ∃ (x : Md) (s : Mr (Two p1 g1 p2 g2)) (F' : Nat → Prop), PB p1 g1 p2 g2 g gr w0 w' s F' R x x m ∧ x.a.length = N ∧ (∀ q, F' q → F q ∨ w.heap.size ≤ q) ∧ But (fun q => F q ∨ R q) w w'
/-- From a world to a later one: whose blocks are whose. -/
structure Way (F R : Nat → Prop) (w w' : World) (F' : Nat → Prop) : Prop where
  new : ∀ q, F' q → F q ∨ w.heap.size ≤ q
  but : But (fun q => F q ∨ R q) w w'
theorem Way.start {w w' : World} (h : Below w.heap.size w w') : Way F R w w' F := ⟨fun _ h => .inl h, but_below h⟩
theorem Way.step {w w1 w2 : World} {F1 F2 : Nat → Prop} (h : Way F R w w1 F1) (hn : ∀ q, F2 q → F1 q ∨ w1.heap.size ≤ q) (hb : But (fun q => F1 q ∨ R q) w1 w2) : Way F R w w2 F2 :=
  ⟨fun q hq => by
    rcases hn q hq with h1 | h1
    · exact h.new q h1
    · exact .inr (Nat.le_trans h.but.size h1), Kd.but_step h.but hb (fun q hq => by
    rcases hq with h1 | h1
    · rcases h.new q h1 with h2 | h2
      · exact .inl (.inl h2)
      · exact .inr h2
    · exact .inl (.inr h1))⟩
theorem Way.below {w w1 w2 : World} {F1 : Nat → Prop} (h : Way F R w w1 F1) (hb : Below w1.heap.size w1 w2) : Way F R w w2 F1 := h.step (fun _ h => .inl h) (but_below hb)
theorem played {w w' : World} {F1 : Nat → Prop} {x1 : Md} {s1 : Mr (Two p1 g1 p2 g2)} {m N : Nat} (h : PB p1 g1 p2 g2 g gr w0 w' s1 F1 R x1 x1 m) (hN : x1.a.length = N) (hw : Way F R w w' F1) : Played p1 g1 p2 g2 g gr w0 R N F w w' m := ⟨x1, s1, F1, h, hN, hw.new, hw.but⟩
theorem wd_lenA (x : Md) (i k : Nat) (y : List UInt8) : (x.wd i k y).a.length = x.a.length := by
  unfold Md.wd Md.setL
  split
  · rfl
  · split <;> rfl
theorem write_lenA (x : Md) (n : Int) (y : List UInt8) : (x.write n y).2.a.length = x.a.length := by
  unfold Md.write
  split
  · split
    · rfl
    · show ((((x.wd 0 n.toNat y).wd 1 n.toNat y).put 0 n.toNat x.o0).put 1 n.toNat x.o1).a.length = _
      rw [(put_o _ 1 _ _).2.2, (put_o _ 0 _ _).2.2, wd_lenA, wd_lenA]
  · rfl
theorem heal_lenA (x : Md) (n : Int) : (x.heal goodN n).2.a.length = x.a.length := by
  unfold Md.heal
  split
  · split
    · rfl
    · split
      · split
        · rfl
        · exact (mend_o _ _ _ _).2.2
      · split
        · exact (mend_o _ _ _ _).2.2
        · rfl
  · rfl
theorem rot_lenA (x : Md) (i : Nat) (n a : Int) (b : UInt8) : (x.rot i n a b).a.length = x.a.length := by
  unfold Md.rot
  split
  · split <;> rfl
  · rfl
theorem sync_lenA (x : Md) : (x.sync goodN).2.a.length = x.a.length := by
  unfold Md.sync
  split
  · rfl
  · exact (catchTo_o goodN _ 1 _).2.2.trans (catchTo_o goodN _ 0 _).2.2
set_option maxRecDepth 100000 in
set_option maxHeartbeats 51200000 in
theorem play_any (h : PB p1 g1 p2 g2 g gr w0 w s F R x x 0) (hn : x.a.length ≤ 12) (a : Ac) (ha : a.ok) :
    Calls Try.prog 25 #[.agg (acR a), .pointer (some ⟨g, 0, none⟩), .agg #[.pointer (some ⟨g1, 0, none⟩), .pointer (some ⟨g2, 0, none⟩)], .pointer (some ⟨gr, 0, none⟩)] w (fun e w' => e = .returned (.bool true) ∧ Played p1 g1 p2 g2 g gr w0 R x.a.length F w w' 0) := by
  have H := Lib.hid h
  have HN := Lib.hid hn
  have HA := Lib.hid ha
  obtain ⟨kd, an, ax, ay, ao⟩ := a
  obtain ⟨z, hz0⟩ : ∃ z : List UInt8, z = zeroS := ⟨_, rfl⟩
  have hz : ∀ W, (zeroValue 38).run Try.prog W = .ok (.agg (bva z)) W := fun _ => by rw [hz0]; kernel_rfl
  have HZ3 := Lib.hid (show z.length = 128 by rw [hz0]; exact zeroS_length)
  obtain ⟨y, hy⟩ : ∃ y, y = secN ax ay := ⟨_, rfl⟩
  have HY3 := Lib.hid (show y.length = 128 by rw [hy]; exact secN_length _ _)
  have HIY := Lib.hid (show (Try.prog.info? 38).map (·.size) = some (bva y).size by rw [bva_size, HY3.out]; exact info_sec)
  have HSY := Lib.hid (show ∀ w, Calls Try.prog 33 #[.int .u8 (ax.toNat : Int), .int .u8 (ay.toNat : Int)] w (RetB (.agg (bva y)) w) from fun w => by rw [hy]; exact sector9_any w ax ay)
  obtain ⟨ca, hca⟩ : ∃ ca, ca = acR ⟨kd, an, ax, ay, ao⟩ := ⟨_, rfl⟩
  have HCA := Lib.hid (show ca[0]? = some (.int .i64 kd) ∧ ca[1]? = some (.int .i64 an) ∧ ca[2]? = some (.int .u8 (ax.toNat : Int)) ∧ ca[3]? = some (.int .u8 (ay.toNat : Int)) ∧ ca[4]? = some (.bool ao) from by rw [hca]; exact ⟨rfl, rfl, rfl, rfl, rfl⟩)
  rw [← hca]
  obtain ⟨cd, hcd⟩ : ∃ cd : Array Value, cd = #[.pointer (some ⟨g1, 0, none⟩), .pointer (some ⟨g2, 0, none⟩)] := ⟨_, rfl⟩
  have HCD := Lib.hid (show cd[0]? = some (.pointer (some ⟨g1, 0, none⟩)) ∧ cd[1]? = some (.pointer (some ⟨g2, 0, none⟩)) from by rw [hcd]; exact ⟨rfl, rfl⟩)
  rw [← hcd]
  obtain ⟨w1, hw1⟩ : ∃ w1, w1 = (w.alloc (.cells ca 61)).alloc (.cells cd 52) := ⟨_, rfl⟩
  have B1 := Lib.hid (show Below w.heap.size w w1 from by rw [hw1]; exact ((Below.refl _ _).alloc (Nat.le_refl _) _).alloc (by simp) _)
  have hba : Blk w1 w.heap.size ca 61 := by rw [hw1]; exact (show Blk _ _ _ _ from heap_alloc_new _ _ : Blk (w.alloc (.cells ca 61)) w.heap.size ca 61).below ((Below.refl _ _).alloc (Nat.le_refl _) _)
  have hbd : Blk w1 (w.heap.size + 1) cd 52 := by
    rw [hw1]
    have h : Blk _ _ cd 52 := heap_alloc_new (w.alloc (.cells ca 61)) (.cells cd 52)
    rwa [show (w.alloc (.cells ca 61)).heap.size = w.heap.size + 1 from by simp] at h
  clear hz0 hy hca hcd h hn ha
  go_enter Try.func25, Try.ntmps25
  go_upto_region 1 with fail
  rw [← hw1]
  have HW1 := Lib.hid (show w1.heap.size = w.heap.size + 2 from by rw [hw1]; simp)
  obtain ⟨ba, hb1⟩ : ∃ ba, ba = w.heap.size := ⟨_, rfl⟩
  obtain ⟨bd, hb2⟩ : ∃ bd, bd = w.heap.size + 1 := ⟨_, rfl⟩
  rw [← hb1] at hba
  rw [← hb2] at hbd
  rw [← hb2, ← hb1]
  have XA := Lib.hid (show BP w0 w1 F R ba ca 61 from ⟨hba, by rw [hb1]; exact H.out.lm.live.bel.size, fun hf => by have := ((ML (Two p1 g1 p2 g2) gG g).lt H.out.lm.live.at_ _ hf); omega, fun hf => by have := H.out.rm.lt _ hf; omega⟩)
  have XD := Lib.hid (show BP w0 w1 F R bd cd 52 from ⟨hbd, by have := H.out.lm.live.bel.size; omega, fun hf => by have := ((ML (Two p1 g1 p2 g2) gG g).lt H.out.lm.live.at_ _ hf); omega, fun hf => by have := H.out.rm.lt _ hf; omega⟩)
  have P1 := Lib.hid (H.out.below B1.out)
  clear hw1 hb1 hb2 hba hbd
  have c2 : w1.cell? ⟨ba, 2, none⟩ = some (.int .u8 (ax.toNat : Int)) := (XA.out.1.cell 2).trans HCA.out.2.2.1
  have c3 : w1.cell? ⟨ba, 3, none⟩ = some (.int .u8 (ay.toNat : Int)) := (XA.out.1.cell 3).trans HCA.out.2.2.2.1
  go_wp2_with fail
  refine (HSY.out _).mono ?_
  rintro e w2 ⟨rfl, bw⟩
  have P2 := Lib.hid (P1.out.below bw)
  have XA2 := Lib.hid (XA.out.below bw)
  have XD2 := Lib.hid (XD.out.below bw)
  have B2 := Lib.hid (B1.out.trans (bw.mono B1.out.size))
  clear bw c2 c3 P1 XA XD B1
  go_wp2_with (show wpList _ _ _ ({ dst := none, op := .store 38 (.tmp 9) (.tmp 26), type := _, pos := _, after := _, guard := _ } :: _) _ _; apply Classical.byContradiction; intro hneg)
  refine hneg ?_
  clear hneg
  refine wpList_store_row rfl 38 (.tmp 9) (.tmp 26) rfl w2.heap.size (bva y) rfl rfl 38 (bva z) (heap_alloc_new _ _) HIY.out (by rw [bva_size, bva_size, HY3.out, HZ3.out]) (bva_one _) ?_
  obtain ⟨w3, hw3⟩ : ∃ w3, w3 = (w2.alloc (.cells (bva z) 38)).setRow w2.heap.size (bva y) := ⟨_, rfl⟩
  have bw : Below w2.heap.size w2 w3 := by rw [hw3]; exact below_setRow ((Below.refl _ _).alloc (Nat.le_refl _) _) (Nat.le_refl _) _
  have hbx : Blk w3 w2.heap.size (bva y) 38 := by rw [hw3]; exact setRow_heap _ _ _ _ _ _ (heap_alloc_new _ _)
  rw [← hw3]
  clear hw3
  obtain ⟨bs, hbs⟩ : ∃ bs, bs = w2.heap.size := ⟨_, rfl⟩
  rw [← hbs] at hbx
  rw [← hbs]
  have XS := Lib.hid (show BP w0 w3 F R bs (bva y) 38 from ⟨hbx, by rw [hbs]; exact P2.out.lm.live.bel.size, fun hf => by have := ((ML (Two p1 g1 p2 g2) gG g).lt P2.out.lm.live.at_ _ hf); omega, fun hf => by have := P2.out.rm.lt _ hf; omega⟩)
  have PP := Lib.hid (P2.out.below bw)
  have XA := Lib.hid (XA2.out.below bw)
  have XD := Lib.hid (XD2.out.below bw)
  have BW := Lib.hid (B2.out.trans (bw.mono B2.out.size))
  clear hbs hbx bw P2 XA2 XD2 B2 H
  have c0 : w3.cell? ⟨ba, 0, none⟩ = some (.int .i64 kd) := (XA.out.1.cell 0).trans HCA.out.1
  go_upto_block 0 with fail
  clear c0
  have HOO := Lib.hid (show True from trivial)
  go_cut [10, 11, 12, 13, 14, 15, 16, 17, 18] from 29 to 185 (fun a10 a11 a12 a13 a14 a15 a16 a17 a18 wx => a10 = .bool true ∧ ∃ m', m' ≤ 2 ∧ Played p1 g1 p2 g2 g gr w0 R x.a.length F w wx m')
  case first =>
    have WW := Lib.hid (Way.start (F := F) (R := R) BW.out)
    have c0 := (XA.out.1.cell 0).trans HCA.out.1
    have c1 := (XA.out.1.cell 1).trans HCA.out.2.1
    have c2 := (XA.out.1.cell 2).trans HCA.out.2.2.1
    have c3 := (XA.out.1.cell 3).trans HCA.out.2.2.2.1
    have c4 := (XA.out.1.cell 4).trans HCA.out.2.2.2.2
    clear BW
    by_cases k0 : kd = 0
    · subst k0
      obtain ⟨r, hr⟩ : ∃ r, r = (x.write an y).1 := ⟨_, rfl⟩
      have HR := Lib.hid hr
      clear hr
      go_upto_region 5 with fail
      refine wp_region_held_drew (S := fun w' => w'.cell? ⟨ba, 1, none⟩ = some (.int .i64 an) ∧ Blk w' bs (bva y) 38) (by kernel_rfl) ⟨((XA.out.below (Below.refl w3.heap.size w3).drew).1.cell 1).trans HCA.out.2.1, (XS.out.below (Below.refl w3.heap.size w3).drew).1⟩ (fun hh => ?_)
      have HH := Lib.hid hh
      clear hh
      refine wpAnyH_take (i := 0) (v := ?vK00) rfl (by kernel_rfl) (by kernel_rfl) (by kernel_rfl) (fun _ _ _ h => h) (Or.inl ⟨by rfl, fun w' _ => ?yK00⟩) HH.out ?_
      case yK00 => (go_simp; try with_reducible rfl)
      refine wpAnyH_take (i := 1) (v := ?vK01) rfl (by kernel_rfl) (by kernel_rfl) (by kernel_rfl) (fun _ _ _ h => h) (Or.inl ⟨by rfl, fun w' _ => ?yK01⟩) HH.out ?_
      case yK01 => (go_simp; try with_reducible rfl)
      try simp only [List.getElem_toArray, List.getElem_cons_succ, List.getElem_cons_zero, Act.put, List.setIfInBounds_toArray, List.set_cons_zero, List.set_cons_succ]
      try simp only [List.getElem_toArray, List.getElem_cons_succ, List.getElem_cons_zero, Act.put, List.setIfInBounds_toArray, List.set_cons_zero, List.set_cons_succ]
      refine wpAnyH_take (i := 2) (v := .int .i64 an) rfl (by kernel_rfl) (by kernel_rfl) (by kernel_rfl) (fun _ _ _ h => h) (Or.inl ⟨by rfl, fun w' hw' => ?yK02⟩) HH.out ?_
      case yK02 => (have hc := hw'.1; go_simp; try with_reducible rfl)
      refine wpAnyH_take (i := 3) (v := .agg (bva y)) rfl (by kernel_rfl) (by kernel_rfl) (by kernel_rfl) (fun _ _ _ h => h) (Or.inl ⟨by rfl, fun w' hw' => ?yK03⟩) HH.out ?_
      case yK03 => exact exec_load 38 (.tmp 9) rfl rfl hw'.2 Try.underlying38 rfl HIY.out
      refine wpAnyH_take (i := 5) (v := ?vK05) rfl (by kernel_rfl) (by kernel_rfl) (by kernel_rfl) (fun _ _ _ h => h) (Or.inl ⟨by rfl, fun w' _ => ?yK05⟩) HH.out ?_
      case yK05 => (go_simp; try with_reducible rfl)
      try simp only [List.getElem_toArray, List.getElem_cons_succ, List.getElem_cons_zero, Act.put, List.setIfInBounds_toArray, List.set_cons_zero, List.set_cons_succ]
      refine wpAnyH_take (i := 6) (v := ?vK06) rfl (by kernel_rfl) (by kernel_rfl) (by kernel_rfl) (fun _ _ _ h => h) (Or.inl ⟨by rfl, fun w' _ => ?yK06⟩) HH.out ?_
      case yK06 => (go_simp; try with_reducible rfl)
      try simp only [List.getElem_toArray, List.getElem_cons_succ, List.getElem_cons_zero, Act.put, List.setIfInBounds_toArray, List.set_cons_zero, List.set_cons_succ]
      refine wpAnyH_take (i := 7) (v := .int .i64 an) rfl (by kernel_rfl) (by kernel_rfl) (by kernel_rfl) (fun _ _ _ h => h) (Or.inl ⟨by rfl, fun w' hw' => ?yK07⟩) HH.out ?_
      case yK07 => (have hc := hw'.1; go_simp; try with_reducible rfl)
      refine wpAnyH_take (i := 8) (v := .agg (bva y)) rfl (by kernel_rfl) (by kernel_rfl) (by kernel_rfl) (fun _ _ _ h => h) (Or.inl ⟨by rfl, fun w' hw' => ?yK08⟩) HH.out ?_
      case yK08 => exact exec_load 38 (.tmp 9) rfl rfl hw'.2 Try.underlying38 rfl HIY.out
      try simp only [List.getElem_toArray, List.getElem_cons_succ, List.getElem_cons_zero, Act.put, List.setIfInBounds_toArray, List.set_cons_zero, List.set_cons_succ]
      refine wpAnyH_ready (rs := [4]) (by kernel_rfl) (by simp) (AllReadyH.cons rfl (fun K hK => ?_) AllReadyH.nil)
      go_simp
      have hc := pb_write (PP.out.below (Below.refl w3.heap.size w3).drew) an y HY3.out (by omega)
      rw [← HR.out] at hc
      refine hc.mono ?_
      clear hc
      rintro e v10 ⟨rfl, s10, F10, hpb, hn, hb⟩
      have P10 := Lib.hid hpb
      have W10 := Lib.hid ((WW.out.below (Below.refl w3.heap.size w3).drew).step hn hb)
      have XA10 := Lib.hid ((XA.out.below (Below.refl w3.heap.size w3).drew).step hn hb)
      have XS10 := Lib.hid ((XS.out.below (Below.refl w3.heap.size w3).drew).step hn hb)
      go_simp
      refine hK.out _ _ ⟨(XA10.out.1.cell 1).trans HCA.out.2.1, XS10.out.1⟩ (fun hh => ?_)
      have HH' := Lib.hid hh
      clear hh hK K HH hpb hn hb PP WW XA XS XD c0 c1 c2 c3 c4
      have HH := Lib.hid HH'.out
      clear HH'
      try simp only [List.getElem_toArray, List.getElem_cons_succ, List.getElem_cons_zero, Act.put, List.setIfInBounds_toArray, List.set_cons_zero, List.set_cons_succ]
      refine wpAnyH_ready (rs := [9]) (by kernel_rfl) (by simp) (AllReadyH.cons rfl (fun K hK => ?_) AllReadyH.nil)
      go_simp
      have hc := pbr_write P10.out an y HY3.out
      rw [← HR.out] at hc
      refine hc.mono ?_
      clear hc
      rintro e v11 ⟨rfl, s11, F11, hpb, hn, hb⟩
      have P11 := Lib.hid hpb
      have W11 := Lib.hid (W10.out.step hn hb)
      have XA11 := Lib.hid (XA10.out.step hn hb)
      have XS11 := Lib.hid (XS10.out.step hn hb)
      go_simp
      refine hK.out _ _ ⟨(XA11.out.1.cell 1).trans HCA.out.2.1, XS11.out.1⟩ (fun hh => ?_)
      have HH' := Lib.hid hh
      clear hh hK K HH hpb hn hb P10 W10 XA10 XS10
      have HH := Lib.hid HH'.out
      clear HH'
      try simp only [List.getElem_toArray, List.getElem_cons_succ, List.getElem_cons_zero, Act.put, List.setIfInBounds_toArray, List.set_cons_zero, List.set_cons_succ]
      refine wpAnyH_take (i := 10) (v := .bool true) rfl (by kernel_rfl) (by kernel_rfl) (by kernel_rfl) (fun _ _ _ h => h) (Or.inl ⟨by rfl, fun w' hw' => ?yK010⟩) HH.out ?_
      case yK010 => (go_simp; try rfl)
      try simp only [List.getElem_toArray, List.getElem_cons_succ, List.getElem_cons_zero, Act.put, List.setIfInBounds_toArray, List.set_cons_zero, List.set_cons_succ]
      refine wpAnyH_take (i := 11) (v := ?vK011) rfl (by kernel_rfl) (by kernel_rfl) (by kernel_rfl) (fun _ _ _ h => h) (Or.inl ⟨by rfl, fun w' _ => ?yK011⟩) HH.out ?_
      case yK011 => (go_simp; try with_reducible rfl)
      try simp only [List.getElem_toArray, List.getElem_cons_succ, List.getElem_cons_zero, Act.put, List.setIfInBounds_toArray, List.set_cons_zero, List.set_cons_succ]
      refine wpAnyH_done (by kernel_rfl) ?_ _
      go_wp2_with fail
      go_meet
      exact ⟨rfl, 2, by omega, played P11.out (write_lenA x an y) W11.out⟩
    by_cases k1 : kd = 1
    · subst k1
      obtain ⟨rv, hrv⟩ : ∃ rv, rv = x.read goodN an := ⟨_, rfl⟩
      have HRV3 := Lib.hid (show rv.1.length = 128 from by
        have hat := PP.out.lm.live.at_
        have := PP.out.lm.sees.read (G := gG) an
        rw [hrv, show x.read goodN an = x.read gG.f an from rfl, ← this, readM]
        split
        · split
          · exact ml_rdlen hat (i := 0) (by omega) an
          · split
            · exact ml_rdlen hat (i := 1) (by omega) an
            · exact zeroS_length
        · exact zeroS_length)
      have HRV := Lib.hid hrv
      clear hrv
      obtain ⟨ra, re⟩ := rv
      have HIR := Lib.hid (show (Try.prog.info? 38).map (·.size) = some (bva ra).size by rw [bva_size, HRV3.out]; exact info_sec)
      have hQ := eq_sec ra ra HRV3.out HRV3.out
      rw [decide_eq_true (rfl : ra = ra)] at hQ
      go_wp2_with fail
      have hc := pb_read PP.out an
      rw [← HRV.out] at hc
      refine hc.mono ?_
      clear hc
      rintro e v10 ⟨rfl, s10, F10, hpb, hn, hb⟩
      have P10 := Lib.hid hpb
      have W10 := Lib.hid (WW.out.step hn hb)
      have XA10 := Lib.hid (XA.out.step hn hb)
      have XD10 := Lib.hid (XD.out.step hn hb)
      have XS10 := Lib.hid (XS.out.step hn hb)
      clear hpb hn hb PP WW XA XD XS c0 c1 c2 c3 c4
      clear XD10 XS10
      go_wp2_with (show wpList _ _ _ ({ dst := none, op := .store 38 (.tmp 11) (.tmp 49), type := _, pos := _, after := _, guard := _ } :: _) _ _; apply Classical.byContradiction; intro hneg)
      refine hneg ?_
      clear hneg
      refine wpList_store_row rfl 38 (.tmp 11) (.tmp 49) rfl v10.heap.size (bva ra) rfl rfl 38 (bva z) (heap_alloc_new _ _) HIR.out (by rw [bva_size, bva_size, HRV3.out, HZ3.out]) (bva_one _) ?_
      obtain ⟨v11, hv11⟩ : ∃ v11, v11 = (v10.alloc (.cells (bva z) 38)).setRow v10.heap.size (bva ra) := ⟨_, rfl⟩
      have bw : Below v10.heap.size v10 v11 := by rw [hv11]; exact below_setRow ((Below.refl _ _).alloc (Nat.le_refl _) _) (Nat.le_refl _) _
      have hbx : Blk v11 v10.heap.size (bva ra) 38 := by rw [hv11]; exact setRow_heap _ _ _ _ _ _ (heap_alloc_new _ _)
      rw [← hv11]
      clear hv11
      obtain ⟨br, hbr⟩ : ∃ br, br = v10.heap.size := ⟨_, rfl⟩
      rw [← hbr] at hbx
      rw [← hbr]
      have Xbr := Lib.hid hbx
      have P10b := Lib.hid (P10.out.below bw)
      have W10b := Lib.hid (W10.out.below bw)
      have XA10b := Lib.hid (XA10.out.below bw)
      clear hbr hbx bw P10 W10 XA10
      have c1 := (XA10b.out.1.cell 1).trans HCA.out.2.1
      go_wp2_with fail
      have hc := rread_any P10b.out.rm an
      rw [← HRV.out] at hc
      refine hc.mono ?_
      clear hc c1
      rintro e v12 ⟨rfl, bw⟩
      have P12 := Lib.hid (P10b.out.below bw)
      have W12 := Lib.hid (W10b.out.below bw)
      have Xbr2 := Lib.hid (Xbr.out.below bw)
      clear bw P10b W10b Xbr XA10b
      go_wp2_with (show wpList _ _ _ ({ dst := none, op := .store 38 (.tmp 13) (.tmp 56), type := _, pos := _, after := _, guard := _ } :: _) _ _; apply Classical.byContradiction; intro hneg)
      refine hneg ?_
      clear hneg
      refine wpList_store_row rfl 38 (.tmp 13) (.tmp 56) rfl v12.heap.size (bva ra) rfl rfl 38 (bva z) (heap_alloc_new _ _) HIR.out (by rw [bva_size, bva_size, HRV3.out, HZ3.out]) (bva_one _) ?_
      obtain ⟨v13, hv13⟩ : ∃ v13, v13 = (v12.alloc (.cells (bva z) 38)).setRow v12.heap.size (bva ra) := ⟨_, rfl⟩
      have bw : Below v12.heap.size v12 v13 := by rw [hv13]; exact below_setRow ((Below.refl _ _).alloc (Nat.le_refl _) _) (Nat.le_refl _) _
      have hbx : Blk v13 v12.heap.size (bva ra) 38 := by rw [hv13]; exact setRow_heap _ _ _ _ _ _ (heap_alloc_new _ _)
      rw [← hv13]
      clear hv13
      obtain ⟨bq, hbq⟩ : ∃ bq, bq = v12.heap.size := ⟨_, rfl⟩
      rw [← hbq] at hbx
      rw [← hbq]
      have Xbq := Lib.hid hbx
      have P12b := Lib.hid (P12.out.below bw)
      have W12b := Lib.hid (W12.out.below bw)
      have Xbr2b := Lib.hid (Xbr2.out.below bw)
      clear hbq hbx bw P12 W12 Xbr2
      go_wp2_with (first | (refine wpList_execg8 rfl (exec_load 38 (.tmp 11) rfl rfl Xbr2b.out Try.underlying38 rfl HIR.out) ?_) | (refine wpList_execg8 rfl (exec_load 38 (.tmp 13) rfl rfl Xbq.out Try.underlying38 rfl HIR.out) ?_))
      go_meet
      exact ⟨rfl, 0, by omega, played P12b.out (rfl) W12b.out⟩
    by_cases k2 : kd = 2
    · subst k2
      obtain ⟨r, hr⟩ : ∃ r, r = (x.sync goodN).1 := ⟨_, rfl⟩
      have HR := Lib.hid hr
      clear hr
      go_wp2_with fail
      have hc := pb_sync PP.out (by have := HN.out; omega)
      rw [← HR.out] at hc
      refine hc.mono ?_
      clear hc
      rintro e v10 ⟨rfl, s10, F10, hpb, hn, hb⟩
      have P10 := Lib.hid hpb
      have W10 := Lib.hid (WW.out.step hn hb)
      have XA10 := Lib.hid (XA.out.step hn hb)
      have XD10 := Lib.hid (XD.out.step hn hb)
      have XS10 := Lib.hid (XS.out.step hn hb)
      clear hpb hn hb PP WW XA XD XS c0 c1 c2 c3 c4
      have c0 := (XA10.out.1.cell 0).trans HCA.out.1
      have c1 := (XA10.out.1.cell 1).trans HCA.out.2.1
      have c2 := (XA10.out.1.cell 2).trans HCA.out.2.2.1
      have c3 := (XA10.out.1.cell 3).trans HCA.out.2.2.2.1
      have c4 := (XA10.out.1.cell 4).trans HCA.out.2.2.2.2
      go_wp2_with fail
      have hc := pbr_sync P10.out (by have := HN.out; omega)
      rw [← HR.out] at hc
      refine hc.mono ?_
      clear hc
      rintro e v11 ⟨rfl, s11, F11, hpb, hn, hb⟩
      have P11 := Lib.hid hpb
      have W11 := Lib.hid (W10.out.step hn hb)
      have XA11 := Lib.hid (XA10.out.step hn hb)
      have XD11 := Lib.hid (XD10.out.step hn hb)
      have XS11 := Lib.hid (XS10.out.step hn hb)
      clear hpb hn hb P10 W10 XA10 XD10 XS10 c0 c1 c2 c3 c4
      go_wp2_with fail
      go_meet
      exact ⟨rfl, 0, by omega, played P11.out (sync_lenA x) W11.out⟩
    by_cases k3 : kd = 3
    · subst k3
      obtain ⟨r, hr⟩ : ∃ r, r = (x.heal goodN an).1 := ⟨_, rfl⟩
      have HR := Lib.hid hr
      clear hr
      obtain ⟨r0, r1⟩ := r
      go_wp2_with fail
      have hc := pb_heal PP.out an (by omega)
      rw [← HR.out, show tup2 (r0, r1) = .tuple #[.int .i64 r0, .int .i64 r1] from rfl] at hc
      refine hc.mono ?_
      clear hc
      rintro e v10 ⟨rfl, s10, F10, hpb, hn, hb⟩
      have P10 := Lib.hid hpb
      have W10 := Lib.hid (WW.out.step hn hb)
      have XA10 := Lib.hid (XA.out.step hn hb)
      have XD10 := Lib.hid (XD.out.step hn hb)
      have XS10 := Lib.hid (XS.out.step hn hb)
      clear hpb hn hb PP WW XA XD XS c0 c1 c2 c3 c4
      have c0 := (XA10.out.1.cell 0).trans HCA.out.1
      have c1 := (XA10.out.1.cell 1).trans HCA.out.2.1
      have c2 := (XA10.out.1.cell 2).trans HCA.out.2.2.1
      have c3 := (XA10.out.1.cell 3).trans HCA.out.2.2.2.1
      have c4 := (XA10.out.1.cell 4).trans HCA.out.2.2.2.2
      go_wp2_with fail
      have hc := pbr_heal P10.out an
      rw [← HR.out, show tup2 (r0, r1) = .tuple #[.int .i64 r0, .int .i64 r1] from rfl] at hc
      refine hc.mono ?_
      clear hc
      rintro e v11 ⟨rfl, s11, F11, hpb, hn, hb⟩
      have P11 := Lib.hid hpb
      have W11 := Lib.hid (W10.out.step hn hb)
      have XA11 := Lib.hid (XA10.out.step hn hb)
      have XD11 := Lib.hid (XD10.out.step hn hb)
      have XS11 := Lib.hid (XS10.out.step hn hb)
      clear hpb hn hb P10 W10 XA10 XD10 XS10 c0 c1 c2 c3 c4
      go_wp2_with fail
      go_meet
      exact ⟨rfl, 1, by omega, played P11.out (heal_lenA x an) W11.out⟩
    by_cases k4 : kd = 4
    · subst k4
      obtain ⟨bl, hbl⟩ : ∃ bl, bl = x.both goodN an := ⟨_, rfl⟩
      have HBE := Lib.hid hbl
      have HBL := Lib.hid (show (∀ x ∈ bl, x.length = 128) ∧ bl.length ≤ 2 from by
        rw [hbl, show x.both goodN an = x.both gG.f an from rfl, ← PP.out.lm.sees.both (G := gG) an, bothL]
        split
        · exact ⟨bothTo_len PP.out.lm.live.at_ an 2 (by omega), bothTo_few _ _ 2⟩
        · exact ⟨fun x hx => (by cases hx), Nat.zero_le _⟩)
      clear hbl
      go_upto_region 17 with fail
      refine wp_region_held_drew (S := fun w' => Below w3.heap.size w3 w') (by kernel_rfl) (Below.refl w3.heap.size w3).drew (fun hh => ?_)
      have HH := Lib.hid hh
      clear hh
      refine wpAnyH_take (i := 0) (v := ?vK40) rfl (by kernel_rfl) (by kernel_rfl) (by kernel_rfl) (fun _ _ _ h => h) (Or.inl ⟨by rfl, fun w' _ => ?yK40⟩) HH.out ?_
      case yK40 => (go_simp; try with_reducible rfl)
      refine wpAnyH_take (i := 1) (v := ?vK41) rfl (by kernel_rfl) (by kernel_rfl) (by kernel_rfl) (fun _ _ _ h => h) (Or.inl ⟨by rfl, fun w' _ => ?yK41⟩) HH.out ?_
      case yK41 => (go_simp; try with_reducible rfl)
      try simp only [List.getElem_toArray, List.getElem_cons_succ, List.getElem_cons_zero, Act.put, List.setIfInBounds_toArray, List.set_cons_zero, List.set_cons_succ]
      try simp only [List.getElem_toArray, List.getElem_cons_succ, List.getElem_cons_zero, Act.put, List.setIfInBounds_toArray, List.set_cons_zero, List.set_cons_succ]
      refine wpAnyH_take (i := 2) (v := .int .i64 an) rfl (by kernel_rfl) (by kernel_rfl) (by kernel_rfl) (fun _ _ _ h => h) (Or.inl ⟨by rfl, fun w' hw' => ?yK42⟩) HH.out ?_
      case yK42 => (have hc := ((XA.out.1.below hw').cell 1).trans HCA.out.2.1; go_simp; try with_reducible rfl)
      refine wpAnyH_take (i := 4) (v := ?vK44) rfl (by kernel_rfl) (by kernel_rfl) (by kernel_rfl) (fun _ _ _ h => h) (Or.inl ⟨by rfl, fun w' _ => ?yK44⟩) HH.out ?_
      case yK44 => (go_simp; try with_reducible rfl)
      refine wpAnyH_take (i := 5) (v := ?vK45) rfl (by kernel_rfl) (by kernel_rfl) (by kernel_rfl) (fun _ _ _ h => h) (Or.inl ⟨by rfl, fun w' _ => ?yK45⟩) HH.out ?_
      case yK45 => (go_simp; try with_reducible rfl)
      try simp only [List.getElem_toArray, List.getElem_cons_succ, List.getElem_cons_zero, Act.put, List.setIfInBounds_toArray, List.set_cons_zero, List.set_cons_succ]
      try simp only [List.getElem_toArray, List.getElem_cons_succ, List.getElem_cons_zero, Act.put, List.setIfInBounds_toArray, List.set_cons_zero, List.set_cons_succ]
      refine wpAnyH_take (i := 6) (v := .int .i64 an) rfl (by kernel_rfl) (by kernel_rfl) (by kernel_rfl) (fun _ _ _ h => h) (Or.inl ⟨by rfl, fun w' hw' => ?yK46⟩) HH.out ?_
      case yK46 => (have hc := ((XA.out.1.below hw').cell 1).trans HCA.out.2.1; go_simp; try with_reducible rfl)
      try simp only [List.getElem_toArray, List.getElem_cons_succ, List.getElem_cons_zero, Act.put, List.setIfInBounds_toArray, List.set_cons_zero, List.set_cons_succ]
      refine wpAnyH_ready (rs := [3]) (by kernel_rfl) (by simp) (AllReadyH.cons rfl (fun K hK => ?_) AllReadyH.nil)
      go_simp
      have hc := lm_both (PP.out.lm.below HH.out) an
      rw [show x.both gG.f an = bl from HBE.out.symm] at hc
      refine hc.mono ?_
      clear hc
      rintro e v10 ⟨A0, N0, C0, rfl, hl0, ho0, bw⟩
      have R10 := Lib.hid (Rd.ownN ho0)
      have HL0 := Lib.hid hl0
      have HB10 := Lib.hid (HH.out.trans (bw.mono HH.out.size))
      go_simp
      refine hK.out _ _ HB10.out (fun hh => ?_)
      have HH' := Lib.hid hh
      clear hh hK K HH hl0 ho0 bw
      have HH := Lib.hid HH'.out
      clear HH'
      try simp only [List.getElem_toArray, List.getElem_cons_succ, List.getElem_cons_zero, Act.put, List.setIfInBounds_toArray, List.set_cons_zero, List.set_cons_succ]
      refine wpAnyH_ready (rs := [7]) (by kernel_rfl) (by simp) (AllReadyH.cons rfl (fun K hK => ?_) AllReadyH.nil)
      go_simp
      have hc := rboth_any (PP.out.rm.below HB10.out) an
      rw [show x.both goodN an = bl from HBE.out.symm] at hc
      refine hc.mono ?_
      clear hc
      rintro e v11 ⟨A1, N1, C1, rfl, hl1, ho1, bw⟩
      have R11 := Lib.hid (Rd.ownN ho1)
      have R10b := Lib.hid (R10.out.below bw)
      have HSZ := Lib.hid bw.size
      obtain rfl : N0 = N1 := HL0.out.symm.trans hl1
      have HB11 := Lib.hid (HB10.out.trans (bw.mono HB10.out.size))
      go_simp
      refine hK.out _ _ HB11.out (fun hh => ?_)
      have HH' := Lib.hid hh
      clear hh hK K HH hl1 ho1 bw R10
      have HH := Lib.hid HH'.out
      clear HH'
      try simp only [List.getElem_toArray, List.getElem_cons_succ, List.getElem_cons_zero, Act.put, List.setIfInBounds_toArray, List.set_cons_zero, List.set_cons_succ]
      refine wpAnyH_ready (rs := [8]) (by kernel_rfl) (by simp) (AllReadyH.cons rfl (fun K hK => ?_) AllReadyH.nil)
      go_simp
      have hc := sectors_same (c := C0) (c' := C1) HL0.out HBL.out.1 R10b.out R11.out HSZ.out (Nat.le_refl _) (by have := HBL.out.2; have := HL0.out; omega)
      refine hc.mono ?_
      clear hc
      rintro e v12 ⟨rfl, bw⟩
      have HB12 := Lib.hid (HB11.out.trans (bw.mono HB11.out.size))
      go_simp
      refine hK.out _ _ HB12.out (fun hh => ?_)
      have HH' := Lib.hid hh
      clear hh hK K HH bw
      have HH := Lib.hid HH'.out
      clear HH'
      refine wpAnyH_take (i := 9) (v := ?vK49) rfl (by kernel_rfl) (by kernel_rfl) (by kernel_rfl) (fun _ _ _ h => h) (Or.inl ⟨by rfl, fun w' _ => ?yK49⟩) HH.out ?_
      case yK49 => (go_simp; try with_reducible rfl)
      try simp only [List.getElem_toArray, List.getElem_cons_succ, List.getElem_cons_zero, Act.put, List.setIfInBounds_toArray, List.set_cons_zero, List.set_cons_succ]
      refine wpAnyH_done (by kernel_rfl) ?_ _
      go_wp2_with fail
      go_meet
      exact ⟨rfl, 0, by omega, played (PP.out.below HB12.out) (show x.a.length = _ from rfl) (WW.out.below HB12.out)⟩
    by_cases k5 : kd = 5
    · subst k5
      obtain ⟨r, hr⟩ : ∃ r, r = (x.write an y).1 := ⟨_, rfl⟩
      have HR := Lib.hid hr
      clear hr
      go_upto_region 19 with fail
      refine wp_region_held_drew (S := fun w' => w'.cell? ⟨ba, 1, none⟩ = some (.int .i64 an) ∧ Blk w' bs (bva y) 38) (by kernel_rfl) ⟨((XA.out.below (Below.refl w3.heap.size w3).drew).1.cell 1).trans HCA.out.2.1, (XS.out.below (Below.refl w3.heap.size w3).drew).1⟩ (fun hh => ?_)
      have HH := Lib.hid hh
      clear hh
      refine wpAnyH_take (i := 0) (v := ?vK50) rfl (by kernel_rfl) (by kernel_rfl) (by kernel_rfl) (fun _ _ _ h => h) (Or.inl ⟨by rfl, fun w' _ => ?yK50⟩) HH.out ?_
      case yK50 => (go_simp; try with_reducible rfl)
      refine wpAnyH_take (i := 1) (v := ?vK51) rfl (by kernel_rfl) (by kernel_rfl) (by kernel_rfl) (fun _ _ _ h => h) (Or.inl ⟨by rfl, fun w' _ => ?yK51⟩) HH.out ?_
      case yK51 => (go_simp; try with_reducible rfl)
      try simp only [List.getElem_toArray, List.getElem_cons_succ, List.getElem_cons_zero, Act.put, List.setIfInBounds_toArray, List.set_cons_zero, List.set_cons_succ]
      try simp only [List.getElem_toArray, List.getElem_cons_succ, List.getElem_cons_zero, Act.put, List.setIfInBounds_toArray, List.set_cons_zero, List.set_cons_succ]
      refine wpAnyH_take (i := 2) (v := .int .i64 an) rfl (by kernel_rfl) (by kernel_rfl) (by kernel_rfl) (fun _ _ _ h => h) (Or.inl ⟨by rfl, fun w' hw' => ?yK52⟩) HH.out ?_
      case yK52 => (have hc := hw'.1; go_simp; try with_reducible rfl)
      refine wpAnyH_take (i := 3) (v := .agg (bva y)) rfl (by kernel_rfl) (by kernel_rfl) (by kernel_rfl) (fun _ _ _ h => h) (Or.inl ⟨by rfl, fun w' hw' => ?yK53⟩) HH.out ?_
      case yK53 => exact exec_load 38 (.tmp 9) rfl rfl hw'.2 Try.underlying38 rfl HIY.out
      refine wpAnyH_take (i := 5) (v := ?vK55) rfl (by kernel_rfl) (by kernel_rfl) (by kernel_rfl) (fun _ _ _ h => h) (Or.inl ⟨by rfl, fun w' _ => ?yK55⟩) HH.out ?_
      case yK55 => (go_simp; try with_reducible rfl)
      try simp only [List.getElem_toArray, List.getElem_cons_succ, List.getElem_cons_zero, Act.put, List.setIfInBounds_toArray, List.set_cons_zero, List.set_cons_succ]
      refine wpAnyH_take (i := 6) (v := ?vK56) rfl (by kernel_rfl) (by kernel_rfl) (by kernel_rfl) (fun _ _ _ h => h) (Or.inl ⟨by rfl, fun w' _ => ?yK56⟩) HH.out ?_
      case yK56 => (go_simp; try with_reducible rfl)
      try simp only [List.getElem_toArray, List.getElem_cons_succ, List.getElem_cons_zero, Act.put, List.setIfInBounds_toArray, List.set_cons_zero, List.set_cons_succ]
      refine wpAnyH_take (i := 7) (v := .int .i64 an) rfl (by kernel_rfl) (by kernel_rfl) (by kernel_rfl) (fun _ _ _ h => h) (Or.inl ⟨by rfl, fun w' hw' => ?yK57⟩) HH.out ?_
      case yK57 => (have hc := hw'.1; go_simp; try with_reducible rfl)
      refine wpAnyH_take (i := 8) (v := .agg (bva y)) rfl (by kernel_rfl) (by kernel_rfl) (by kernel_rfl) (fun _ _ _ h => h) (Or.inl ⟨by rfl, fun w' hw' => ?yK58⟩) HH.out ?_
      case yK58 => exact exec_load 38 (.tmp 9) rfl rfl hw'.2 Try.underlying38 rfl HIY.out
      try simp only [List.getElem_toArray, List.getElem_cons_succ, List.getElem_cons_zero, Act.put, List.setIfInBounds_toArray, List.set_cons_zero, List.set_cons_succ]
      refine wpAnyH_ready (rs := [4]) (by kernel_rfl) (by simp) (AllReadyH.cons rfl (fun K hK => ?_) AllReadyH.nil)
      go_simp
      have hc := pb_choose (PP.out.below (Below.refl w3.heap.size w3).drew) an y HY3.out (by omega)
      rw [← HR.out] at hc
      refine hc.mono ?_
      clear hc
      rintro e v10 ⟨rfl, s10, F10, hpb, hn, hb⟩
      have P10 := Lib.hid hpb
      have W10 := Lib.hid ((WW.out.below (Below.refl w3.heap.size w3).drew).step hn hb)
      have XA10 := Lib.hid ((XA.out.below (Below.refl w3.heap.size w3).drew).step hn hb)
      have XS10 := Lib.hid ((XS.out.below (Below.refl w3.heap.size w3).drew).step hn hb)
      go_simp
      refine hK.out _ _ ⟨(XA10.out.1.cell 1).trans HCA.out.2.1, XS10.out.1⟩ (fun hh => ?_)
      have HH' := Lib.hid hh
      clear hh hK K HH hpb hn hb PP WW XA XS XD c0 c1 c2 c3 c4
      have HH := Lib.hid HH'.out
      clear HH'
      try simp only [List.getElem_toArray, List.getElem_cons_succ, List.getElem_cons_zero, Act.put, List.setIfInBounds_toArray, List.set_cons_zero, List.set_cons_succ]
      refine wpAnyH_ready (rs := [9]) (by kernel_rfl) (by simp) (AllReadyH.cons rfl (fun K hK => ?_) AllReadyH.nil)
      go_simp
      have hc := pbr_write P10.out an y HY3.out
      rw [← HR.out] at hc
      refine hc.mono ?_
      clear hc
      rintro e v11 ⟨rfl, s11, F11, hpb, hn, hb⟩
      have P11 := Lib.hid hpb
      have W11 := Lib.hid (W10.out.step hn hb)
      have XA11 := Lib.hid (XA10.out.step hn hb)
      have XS11 := Lib.hid (XS10.out.step hn hb)
      go_simp
      refine hK.out _ _ ⟨(XA11.out.1.cell 1).trans HCA.out.2.1, XS11.out.1⟩ (fun hh => ?_)
      have HH' := Lib.hid hh
      clear hh hK K HH hpb hn hb P10 W10 XA10 XS10
      have HH := Lib.hid HH'.out
      clear HH'
      try simp only [List.getElem_toArray, List.getElem_cons_succ, List.getElem_cons_zero, Act.put, List.setIfInBounds_toArray, List.set_cons_zero, List.set_cons_succ]
      refine wpAnyH_take (i := 10) (v := .bool true) rfl (by kernel_rfl) (by kernel_rfl) (by kernel_rfl) (fun _ _ _ h => h) (Or.inl ⟨by rfl, fun w' hw' => ?yK510⟩) HH.out ?_
      case yK510 => (go_simp; try rfl)
      try simp only [List.getElem_toArray, List.getElem_cons_succ, List.getElem_cons_zero, Act.put, List.setIfInBounds_toArray, List.set_cons_zero, List.set_cons_succ]
      refine wpAnyH_take (i := 11) (v := ?vK511) rfl (by kernel_rfl) (by kernel_rfl) (by kernel_rfl) (fun _ _ _ h => h) (Or.inl ⟨by rfl, fun w' _ => ?yK511⟩) HH.out ?_
      case yK511 => (go_simp; try with_reducible rfl)
      try simp only [List.getElem_toArray, List.getElem_cons_succ, List.getElem_cons_zero, Act.put, List.setIfInBounds_toArray, List.set_cons_zero, List.set_cons_succ]
      refine wpAnyH_done (by kernel_rfl) ?_ _
      go_wp2_with fail
      go_meet
      exact ⟨rfl, 2, by omega, played P11.out (write_lenA x an y) W11.out⟩
    by_cases k6 : kd = 6
    · subst k6
      have wz0 : IntKind.i64.wrap 0 = 0 := IntWalk.i64_in 0 (by omega)
      have wz1 : IntKind.i64.wrap 1 = 1 := IntWalk.i64_in 1 (by omega)
      have e0 := (XD.out.1.cell 0).trans HCD.out.1
      go_upto_region 22 with fail
      refine wp_region_held_drew (S := fun w' => w'.cell? ⟨ba, 0, none⟩ = some (.int .i64 6) ∧ w'.cell? ⟨ba, 4, none⟩ = some (.bool ao) ∧ w'.cell? ⟨bd, 0, none⟩ = some (.pointer (some ⟨g1, 0, none⟩))) (by kernel_rfl) ⟨c0, c4, e0⟩ (fun hh => ?_)
      have HH := Lib.hid hh
      clear hh
      refine wpAnyH_take (i := 0) (v := ?vK60) rfl (by kernel_rfl) (by kernel_rfl) (by kernel_rfl) (fun _ _ _ h => h) (Or.inl ⟨by rfl, fun w' _ => ?yK60⟩) HH.out ?_
      case yK60 => (go_simp; try with_reducible rfl)
      try simp only [List.getElem_toArray, List.getElem_cons_zero, Act.put, List.setIfInBounds_toArray, List.set_cons_zero, List.set_cons_succ]
      refine wpAnyH_take (i := 1) (v := .int .i64 6) rfl (by kernel_rfl) (by kernel_rfl) (by kernel_rfl) (fun _ _ _ h => h) (Or.inl ⟨by rfl, fun w' hw' => ?yK61⟩) HH.out ?_
      case yK61 => (have hc := hw'.1; go_simp; try with_reducible rfl)
      try simp only [List.getElem_toArray, List.getElem_cons_succ, List.getElem_cons_zero, Act.put, List.setIfInBounds_toArray, List.set_cons_zero, List.set_cons_succ]
      try simp only [List.getElem_toArray, List.getElem_cons_succ, List.getElem_cons_zero, Act.put, List.setIfInBounds_toArray, List.set_cons_zero, List.set_cons_succ]
      refine wpAnyH_take (i := 2) (v := .int .i64 0) rfl (by kernel_rfl) (by kernel_rfl) (by kernel_rfl) (fun _ _ _ h => h) (Or.inl ⟨by rfl, fun w' hw' => ?yK62⟩) HH.out ?_
      case yK62 => (go_simp; try with_reducible rfl)
      refine wpAnyH_take (i := 3) (v := ?vK63) rfl (by kernel_rfl) (by kernel_rfl) (by kernel_rfl) (fun _ _ _ h => h) (Or.inl ⟨by rfl, fun w' _ => ?yK63⟩) HH.out ?_
      case yK63 => (go_simp; try with_reducible rfl)
      try simp only [List.getElem_toArray, List.getElem_cons_succ, List.getElem_cons_zero, Act.put, List.setIfInBounds_toArray, List.set_cons_zero, List.set_cons_succ]
      refine wpAnyH_take (i := 4) (v := .pointer (some ⟨g1, 0, none⟩)) rfl (by kernel_rfl) (by kernel_rfl) (by kernel_rfl) (fun _ _ _ h => h) (Or.inl ⟨by rfl, fun w' hw' => ?yK64⟩) HH.out ?_
      case yK64 => (have hc := hw'.2.2; go_simp; try with_reducible rfl)
      try simp only [List.getElem_toArray, List.getElem_cons_succ, List.getElem_cons_zero, Act.put, List.setIfInBounds_toArray, List.set_cons_zero, List.set_cons_succ]
      refine wpAnyH_take (i := 5) (v := ?vK65) rfl (by kernel_rfl) (by kernel_rfl) (by kernel_rfl) (fun _ _ _ h => h) (Or.inl ⟨by rfl, fun w' _ => ?yK65⟩) HH.out ?_
      case yK65 => (go_simp; try with_reducible rfl)
      try simp only [List.getElem_toArray, List.getElem_cons_succ, List.getElem_cons_zero, Act.put, List.setIfInBounds_toArray, List.set_cons_zero, List.set_cons_succ]
      refine wpAnyH_take (i := 6) (v := .bool ao) rfl (by kernel_rfl) (by kernel_rfl) (by kernel_rfl) (fun _ _ _ h => h) (Or.inl ⟨by rfl, fun w' hw' => ?yK66⟩) HH.out ?_
      case yK66 => (have hc := hw'.2.1; go_simp; try with_reducible rfl)
      try simp only [List.getElem_toArray, List.getElem_cons_succ, List.getElem_cons_zero, Act.put, List.setIfInBounds_toArray, List.set_cons_zero, List.set_cons_succ]
      refine wpAnyH_ready (rs := [7]) (by kernel_rfl) (by simp) (AllReadyH.cons rfl (fun K hK => ?_) AllReadyH.nil)
      go_simp
      have hc := pb_out0 (PP.out.below (Below.refl w3.heap.size w3).drew) ao
      refine hc.mono ?_
      clear hc
      rintro e v10 ⟨rfl, s10, F10, hpb, hn, hb⟩
      have P10 := Lib.hid hpb
      have W10 := Lib.hid ((WW.out.below (Below.refl w3.heap.size w3).drew).step hn hb)
      have XA10 := Lib.hid ((XA.out.below (Below.refl w3.heap.size w3).drew).step hn hb)
      have XD10 := Lib.hid ((XD.out.below (Below.refl w3.heap.size w3).drew).step hn hb)
      go_simp
      refine hK.out _ _ ⟨(XA10.out.1.cell 0).trans HCA.out.1, (XA10.out.1.cell 4).trans HCA.out.2.2.2.2, (XD10.out.1.cell 0).trans HCD.out.1⟩ (fun hh => ?_)
      have HH' := Lib.hid hh
      clear hh hK K HH hpb hn hb PP WW XA XS XD c0 c1 c2 c3 c4 e0
      have HH := Lib.hid HH'.out
      clear HH'
      try simp only [List.getElem_toArray, List.getElem_cons_succ, List.getElem_cons_zero, Act.put, List.setIfInBounds_toArray, List.set_cons_zero, List.set_cons_succ]
      refine wpAnyH_done (by kernel_rfl) ?_ _
      go_upto_region 23 with fail
      obtain ⟨hso, hsb⟩ := P10.out.rm.setOut0 ao
      obtain ⟨n0, A0, A1, B0, B1, k0, k1, e0, e1, hcells, _⟩ := P10.out.rm.cells
      have cg := P10.out.rm.out0
      have fg := hcells.free 2
      have lg := hcells.lt
      have HSO := Lib.hid hso
      have HSB := Lib.hid hsb
      have PV := Lib.hid (P10.out.refW hso hsb)
      have WV := Lib.hid (W10.out.step (fun _ h => .inl h) (hsb.mono (fun q hq => .inr hq)))
      have XAV := Lib.hid (XA10.out.step (F' := F10) (fun _ h => .inl h) (hsb.mono (fun q hq => .inr hq)))
      clear hso hsb hcells
      refine wp_region_held_drew (S := fun w' => w'.cell? ⟨ba, 0, none⟩ = some (.int .i64 6) ∧ w'.cell? ⟨ba, 4, none⟩ = some (.bool ao)) (by kernel_rfl) ⟨(XA10.out.1.cell 0).trans HCA.out.1, (XA10.out.1.cell 4).trans HCA.out.2.2.2.2⟩ (fun hh => ?_)
      have HH := Lib.hid hh
      clear hh
      refine wpAnyH_take (i := 0) (v := ?vJ60) rfl (by kernel_rfl) (by kernel_rfl) (by kernel_rfl) (fun _ _ _ h => h) (Or.inl ⟨by rfl, fun w' _ => ?yJ60⟩) HH.out ?_
      case yJ60 => (go_simp; try with_reducible rfl)
      refine wpAnyH_take (i := 1) (v := ?vJ61) rfl (by kernel_rfl) (by kernel_rfl) (by kernel_rfl) (fun _ _ _ h => h) (Or.inl ⟨by rfl, fun w' _ => ?yJ61⟩) HH.out ?_
      case yJ61 => (go_simp; try with_reducible rfl)
      try simp only [List.getElem_toArray, List.getElem_cons_succ, List.getElem_cons_zero, Act.put, List.setIfInBounds_toArray, List.set_cons_zero, List.set_cons_succ]
      try simp only [List.getElem_toArray, List.getElem_cons_succ, List.getElem_cons_zero, Act.put, List.setIfInBounds_toArray, List.set_cons_zero, List.set_cons_succ]
      refine wpAnyH_take (i := 2) (v := .int .i64 6) rfl (by kernel_rfl) (by kernel_rfl) (by kernel_rfl) (fun _ _ _ h => h) (Or.inl ⟨by rfl, fun w' hw' => ?yJ62⟩) HH.out ?_
      case yJ62 => (have hc := hw'.1; go_simp; try with_reducible rfl)
      try simp only [List.getElem_toArray, List.getElem_cons_succ, List.getElem_cons_zero, Act.put, List.setIfInBounds_toArray, List.set_cons_zero, List.set_cons_succ]
      refine wpAnyH_take (i := 3) (v := .int .i64 0) rfl (by kernel_rfl) (by kernel_rfl) (by kernel_rfl) (fun _ _ _ h => h) (Or.inl ⟨by rfl, fun w' hw' => ?yJ63⟩) HH.out ?_
      case yJ63 => (go_simp; try with_reducible rfl)
      refine wpAnyH_take (i := 4) (v := ?vJ64) rfl (by kernel_rfl) (by kernel_rfl) (by kernel_rfl) (fun _ _ _ h => h) (Or.inl ⟨by rfl, fun w' _ => ?yJ64⟩) HH.out ?_
      case yJ64 => (go_simp; try with_reducible rfl)
      try simp only [List.getElem_toArray, List.getElem_cons_succ, List.getElem_cons_zero, Act.put, List.setIfInBounds_toArray, List.set_cons_zero, List.set_cons_succ]
      try simp only [List.getElem_toArray, List.getElem_cons_succ, List.getElem_cons_zero, Act.put, List.setIfInBounds_toArray, List.set_cons_zero, List.set_cons_succ]
      refine wpAnyH_take (i := 5) (v := .bool ao) rfl (by kernel_rfl) (by kernel_rfl) (by kernel_rfl) (fun _ _ _ h => h) (Or.inl ⟨by rfl, fun w' hw' => ?yJ65⟩) HH.out ?_
      case yJ65 => (have hc := hw'.2; go_simp; try with_reducible rfl)
      refine wpAnyH_take (i := 6) (v := ?vJ66) rfl (by kernel_rfl) (by kernel_rfl) (by kernel_rfl) (fun _ _ _ h => h) (Or.inl ⟨by rfl, fun w' _ => ?yJ66⟩) HH.out ?_
      case yJ66 => (go_simp; try with_reducible rfl)
      refine wpAnyH_take (i := 7) (v := ?vJ67) rfl (by kernel_rfl) (by kernel_rfl) (by kernel_rfl) (fun _ _ _ h => h) (Or.inl ⟨by rfl, fun w' _ => ?yJ67⟩) HH.out ?_
      case yJ67 => (go_simp; try with_reducible rfl)
      try simp only [List.getElem_toArray, List.getElem_cons_succ, List.getElem_cons_zero, Act.put, List.setIfInBounds_toArray, List.set_cons_zero, List.set_cons_succ]
      refine wpAnyH_take (i := 8) (v := ?vJ68) rfl (by kernel_rfl) (by kernel_rfl) (by kernel_rfl) (fun _ _ _ h => h) (Or.inl ⟨by rfl, fun w' _ => ?yJ68⟩) HH.out ?_
      case yJ68 => (go_simp; try with_reducible rfl)
      try simp only [List.getElem_toArray, List.getElem_cons_succ, List.getElem_cons_zero, Act.put, List.setIfInBounds_toArray, List.set_cons_zero, List.set_cons_succ]
      refine wpAnyH_ready (rs := [9]) (by kernel_rfl) (by simp) (AllReadyH.cons rfl (fun K hK => ?_) AllReadyH.nil)
      go_simp
      refine hK.out _ _ ⟨((XAV.out.1.below (Below.refl _ _).drew).cell 0).trans HCA.out.1, ((XAV.out.1.below (Below.refl _ _).drew).cell 4).trans HCA.out.2.2.2.2⟩ (fun hh => ?_)
      clear hh hK K HH cg fg lg
      try simp only [List.getElem_toArray, List.getElem_cons_succ, List.getElem_cons_zero, Act.put, List.setIfInBounds_toArray, List.set_cons_zero, List.set_cons_succ]
      refine wpAnyH_done (by kernel_rfl) ?_ _
      go_wp2_with fail
      go_meet
      exact ⟨rfl, 0, by omega, played (PV.out.below (Below.refl _ _).drew) (show x.a.length = _ from rfl) (WV.out.below (Below.refl _ _).drew)⟩
    by_cases k7 : kd = 7
    · subst k7
      have wz0 : IntKind.i64.wrap 0 = 0 := IntWalk.i64_in 0 (by omega)
      have wz1 : IntKind.i64.wrap 1 = 1 := IntWalk.i64_in 1 (by omega)
      have e0 := (XD.out.1.cell 1).trans HCD.out.2
      go_upto_region 22 with fail
      refine wp_region_held_drew (S := fun w' => w'.cell? ⟨ba, 0, none⟩ = some (.int .i64 7) ∧ w'.cell? ⟨ba, 4, none⟩ = some (.bool ao) ∧ w'.cell? ⟨bd, 1, none⟩ = some (.pointer (some ⟨g2, 0, none⟩))) (by kernel_rfl) ⟨c0, c4, e0⟩ (fun hh => ?_)
      have HH := Lib.hid hh
      clear hh
      refine wpAnyH_take (i := 0) (v := ?vK70) rfl (by kernel_rfl) (by kernel_rfl) (by kernel_rfl) (fun _ _ _ h => h) (Or.inl ⟨by rfl, fun w' _ => ?yK70⟩) HH.out ?_
      case yK70 => (go_simp; try with_reducible rfl)
      try simp only [List.getElem_toArray, List.getElem_cons_zero, Act.put, List.setIfInBounds_toArray, List.set_cons_zero, List.set_cons_succ]
      refine wpAnyH_take (i := 1) (v := .int .i64 7) rfl (by kernel_rfl) (by kernel_rfl) (by kernel_rfl) (fun _ _ _ h => h) (Or.inl ⟨by rfl, fun w' hw' => ?yK71⟩) HH.out ?_
      case yK71 => (have hc := hw'.1; go_simp; try with_reducible rfl)
      try simp only [List.getElem_toArray, List.getElem_cons_succ, List.getElem_cons_zero, Act.put, List.setIfInBounds_toArray, List.set_cons_zero, List.set_cons_succ]
      try simp only [List.getElem_toArray, List.getElem_cons_succ, List.getElem_cons_zero, Act.put, List.setIfInBounds_toArray, List.set_cons_zero, List.set_cons_succ]
      refine wpAnyH_take (i := 2) (v := .int .i64 1) rfl (by kernel_rfl) (by kernel_rfl) (by kernel_rfl) (fun _ _ _ h => h) (Or.inl ⟨by rfl, fun w' hw' => ?yK72⟩) HH.out ?_
      case yK72 => (go_simp; try with_reducible rfl)
      refine wpAnyH_take (i := 3) (v := ?vK73) rfl (by kernel_rfl) (by kernel_rfl) (by kernel_rfl) (fun _ _ _ h => h) (Or.inl ⟨by rfl, fun w' _ => ?yK73⟩) HH.out ?_
      case yK73 => (go_simp; try with_reducible rfl)
      try simp only [List.getElem_toArray, List.getElem_cons_succ, List.getElem_cons_zero, Act.put, List.setIfInBounds_toArray, List.set_cons_zero, List.set_cons_succ]
      refine wpAnyH_take (i := 4) (v := .pointer (some ⟨g2, 0, none⟩)) rfl (by kernel_rfl) (by kernel_rfl) (by kernel_rfl) (fun _ _ _ h => h) (Or.inl ⟨by rfl, fun w' hw' => ?yK74⟩) HH.out ?_
      case yK74 => (have hc := hw'.2.2; go_simp; try with_reducible rfl)
      try simp only [List.getElem_toArray, List.getElem_cons_succ, List.getElem_cons_zero, Act.put, List.setIfInBounds_toArray, List.set_cons_zero, List.set_cons_succ]
      refine wpAnyH_take (i := 5) (v := ?vK75) rfl (by kernel_rfl) (by kernel_rfl) (by kernel_rfl) (fun _ _ _ h => h) (Or.inl ⟨by rfl, fun w' _ => ?yK75⟩) HH.out ?_
      case yK75 => (go_simp; try with_reducible rfl)
      try simp only [List.getElem_toArray, List.getElem_cons_succ, List.getElem_cons_zero, Act.put, List.setIfInBounds_toArray, List.set_cons_zero, List.set_cons_succ]
      refine wpAnyH_take (i := 6) (v := .bool ao) rfl (by kernel_rfl) (by kernel_rfl) (by kernel_rfl) (fun _ _ _ h => h) (Or.inl ⟨by rfl, fun w' hw' => ?yK76⟩) HH.out ?_
      case yK76 => (have hc := hw'.2.1; go_simp; try with_reducible rfl)
      try simp only [List.getElem_toArray, List.getElem_cons_succ, List.getElem_cons_zero, Act.put, List.setIfInBounds_toArray, List.set_cons_zero, List.set_cons_succ]
      refine wpAnyH_ready (rs := [7]) (by kernel_rfl) (by simp) (AllReadyH.cons rfl (fun K hK => ?_) AllReadyH.nil)
      go_simp
      have hc := pb_out1 (PP.out.below (Below.refl w3.heap.size w3).drew) ao
      refine hc.mono ?_
      clear hc
      rintro e v10 ⟨rfl, s10, F10, hpb, hn, hb⟩
      have P10 := Lib.hid hpb
      have W10 := Lib.hid ((WW.out.below (Below.refl w3.heap.size w3).drew).step hn hb)
      have XA10 := Lib.hid ((XA.out.below (Below.refl w3.heap.size w3).drew).step hn hb)
      have XD10 := Lib.hid ((XD.out.below (Below.refl w3.heap.size w3).drew).step hn hb)
      go_simp
      refine hK.out _ _ ⟨(XA10.out.1.cell 0).trans HCA.out.1, (XA10.out.1.cell 4).trans HCA.out.2.2.2.2, (XD10.out.1.cell 1).trans HCD.out.2⟩ (fun hh => ?_)
      have HH' := Lib.hid hh
      clear hh hK K HH hpb hn hb PP WW XA XS XD c0 c1 c2 c3 c4 e0
      have HH := Lib.hid HH'.out
      clear HH'
      try simp only [List.getElem_toArray, List.getElem_cons_succ, List.getElem_cons_zero, Act.put, List.setIfInBounds_toArray, List.set_cons_zero, List.set_cons_succ]
      refine wpAnyH_done (by kernel_rfl) ?_ _
      go_upto_region 23 with fail
      obtain ⟨hso, hsb⟩ := P10.out.rm.setOut1 ao
      obtain ⟨n0, A0, A1, B0, B1, k0, k1, e0, e1, hcells, _⟩ := P10.out.rm.cells
      have cg := P10.out.rm.out1
      have fg := hcells.free 3
      have lg := hcells.lt
      have HSO := Lib.hid hso
      have HSB := Lib.hid hsb
      have PV := Lib.hid (P10.out.refW hso hsb)
      have WV := Lib.hid (W10.out.step (fun _ h => .inl h) (hsb.mono (fun q hq => .inr hq)))
      have XAV := Lib.hid (XA10.out.step (F' := F10) (fun _ h => .inl h) (hsb.mono (fun q hq => .inr hq)))
      clear hso hsb hcells
      refine wp_region_held_drew (S := fun w' => w'.cell? ⟨ba, 0, none⟩ = some (.int .i64 7) ∧ w'.cell? ⟨ba, 4, none⟩ = some (.bool ao)) (by kernel_rfl) ⟨(XA10.out.1.cell 0).trans HCA.out.1, (XA10.out.1.cell 4).trans HCA.out.2.2.2.2⟩ (fun hh => ?_)
      have HH := Lib.hid hh
      clear hh
      refine wpAnyH_take (i := 0) (v := ?vJ70) rfl (by kernel_rfl) (by kernel_rfl) (by kernel_rfl) (fun _ _ _ h => h) (Or.inl ⟨by rfl, fun w' _ => ?yJ70⟩) HH.out ?_
      case yJ70 => (go_simp; try with_reducible rfl)
      refine wpAnyH_take (i := 1) (v := ?vJ71) rfl (by kernel_rfl) (by kernel_rfl) (by kernel_rfl) (fun _ _ _ h => h) (Or.inl ⟨by rfl, fun w' _ => ?yJ71⟩) HH.out ?_
      case yJ71 => (go_simp; try with_reducible rfl)
      try simp only [List.getElem_toArray, List.getElem_cons_succ, List.getElem_cons_zero, Act.put, List.setIfInBounds_toArray, List.set_cons_zero, List.set_cons_succ]
      try simp only [List.getElem_toArray, List.getElem_cons_succ, List.getElem_cons_zero, Act.put, List.setIfInBounds_toArray, List.set_cons_zero, List.set_cons_succ]
      refine wpAnyH_take (i := 2) (v := .int .i64 7) rfl (by kernel_rfl) (by kernel_rfl) (by kernel_rfl) (fun _ _ _ h => h) (Or.inl ⟨by rfl, fun w' hw' => ?yJ72⟩) HH.out ?_
      case yJ72 => (have hc := hw'.1; go_simp; try with_reducible rfl)
      try simp only [List.getElem_toArray, List.getElem_cons_succ, List.getElem_cons_zero, Act.put, List.setIfInBounds_toArray, List.set_cons_zero, List.set_cons_succ]
      refine wpAnyH_take (i := 3) (v := .int .i64 1) rfl (by kernel_rfl) (by kernel_rfl) (by kernel_rfl) (fun _ _ _ h => h) (Or.inl ⟨by rfl, fun w' hw' => ?yJ73⟩) HH.out ?_
      case yJ73 => (go_simp; try with_reducible rfl)
      refine wpAnyH_take (i := 4) (v := ?vJ74) rfl (by kernel_rfl) (by kernel_rfl) (by kernel_rfl) (fun _ _ _ h => h) (Or.inl ⟨by rfl, fun w' _ => ?yJ74⟩) HH.out ?_
      case yJ74 => (go_simp; try with_reducible rfl)
      try simp only [List.getElem_toArray, List.getElem_cons_succ, List.getElem_cons_zero, Act.put, List.setIfInBounds_toArray, List.set_cons_zero, List.set_cons_succ]
      try simp only [List.getElem_toArray, List.getElem_cons_succ, List.getElem_cons_zero, Act.put, List.setIfInBounds_toArray, List.set_cons_zero, List.set_cons_succ]
      refine wpAnyH_take (i := 5) (v := .bool ao) rfl (by kernel_rfl) (by kernel_rfl) (by kernel_rfl) (fun _ _ _ h => h) (Or.inl ⟨by rfl, fun w' hw' => ?yJ75⟩) HH.out ?_
      case yJ75 => (have hc := hw'.2; go_simp; try with_reducible rfl)
      refine wpAnyH_take (i := 6) (v := ?vJ76) rfl (by kernel_rfl) (by kernel_rfl) (by kernel_rfl) (fun _ _ _ h => h) (Or.inl ⟨by rfl, fun w' _ => ?yJ76⟩) HH.out ?_
      case yJ76 => (go_simp; try with_reducible rfl)
      refine wpAnyH_take (i := 7) (v := ?vJ77) rfl (by kernel_rfl) (by kernel_rfl) (by kernel_rfl) (fun _ _ _ h => h) (Or.inl ⟨by rfl, fun w' _ => ?yJ77⟩) HH.out ?_
      case yJ77 => (go_simp; try with_reducible rfl)
      try simp only [List.getElem_toArray, List.getElem_cons_succ, List.getElem_cons_zero, Act.put, List.setIfInBounds_toArray, List.set_cons_zero, List.set_cons_succ]
      refine wpAnyH_take (i := 8) (v := ?vJ78) rfl (by kernel_rfl) (by kernel_rfl) (by kernel_rfl) (fun _ _ _ h => h) (Or.inl ⟨by rfl, fun w' _ => ?yJ78⟩) HH.out ?_
      case yJ78 => (go_simp; try with_reducible rfl)
      try simp only [List.getElem_toArray, List.getElem_cons_succ, List.getElem_cons_zero, Act.put, List.setIfInBounds_toArray, List.set_cons_zero, List.set_cons_succ]
      refine wpAnyH_ready (rs := [9]) (by kernel_rfl) (by simp) (AllReadyH.cons rfl (fun K hK => ?_) AllReadyH.nil)
      go_simp
      refine hK.out _ _ ⟨((XAV.out.1.below (Below.refl _ _).drew).cell 0).trans HCA.out.1, ((XAV.out.1.below (Below.refl _ _).drew).cell 4).trans HCA.out.2.2.2.2⟩ (fun hh => ?_)
      clear hh hK K HH cg fg lg
      try simp only [List.getElem_toArray, List.getElem_cons_succ, List.getElem_cons_zero, Act.put, List.setIfInBounds_toArray, List.set_cons_zero, List.set_cons_succ]
      refine wpAnyH_done (by kernel_rfl) ?_ _
      go_wp2_with fail
      go_meet
      exact ⟨rfl, 0, by omega, played (PV.out.below (Below.refl _ _).drew) (show x.a.length = _ from rfl) (WV.out.below (Below.refl _ _).drew)⟩
    by_cases k8 : kd = 8
    · subst k8
      cases hhas : x.has an
      · have hc := rthere_any (PP.out.below (Below.refl w3.heap.size w3).drew).rm an
        rw [hhas] at hc
        have HTH := Lib.hid hc
        clear hc hhas
        go_upto_region 26 with fail
        refine wp_region_held_drew (S := fun w' => w'.cell? ⟨ba, 1, none⟩ = some (.int .i64 an)) (by kernel_rfl) (((XA.out.1.below (Below.refl w3.heap.size w3).drew).cell 1).trans HCA.out.2.1) (fun hh => ?_)
        have HH := Lib.hid hh
        clear hh
        refine wpAnyH_take (i := 0) (v := ?vN80) rfl (by kernel_rfl) (by kernel_rfl) (by kernel_rfl) (fun _ _ _ h => h) (Or.inl ⟨by rfl, fun w' _ => ?yN80⟩) HH.out ?_
        case yN80 => (go_simp; try with_reducible rfl)
        refine wpAnyH_take (i := 1) (v := ?vN81) rfl (by kernel_rfl) (by kernel_rfl) (by kernel_rfl) (fun _ _ _ h => h) (Or.inl ⟨by rfl, fun w' _ => ?yN81⟩) HH.out ?_
        case yN81 => (go_simp; try with_reducible rfl)
        try simp only [List.getElem_toArray, List.getElem_cons_succ, List.getElem_cons_zero, Act.put, List.setIfInBounds_toArray, List.set_cons_zero, List.set_cons_succ]
        try simp only [List.getElem_toArray, List.getElem_cons_succ, List.getElem_cons_zero, Act.put, List.setIfInBounds_toArray, List.set_cons_zero, List.set_cons_succ]
        refine wpAnyH_take (i := 2) (v := .int .i64 an) rfl (by kernel_rfl) (by kernel_rfl) (by kernel_rfl) (fun _ _ _ h => h) (Or.inl ⟨by rfl, fun w' hw' => ?yN82⟩) HH.out ?_
        case yN82 => (have hc := hw'; go_simp; try with_reducible rfl)
        try simp only [List.getElem_toArray, List.getElem_cons_succ, List.getElem_cons_zero, Act.put, List.setIfInBounds_toArray, List.set_cons_zero, List.set_cons_succ]
        refine wpAnyH_ready (rs := [3]) (by kernel_rfl) (by simp) (AllReadyH.cons rfl (fun K hK => ?_) AllReadyH.nil)
        go_simp
        refine HTH.out.mono ?_
        rintro e v10 ⟨rfl, bw⟩
        have HB10 := Lib.hid ((Below.refl w3.heap.size w3).drew.trans (bw.mono (Below.refl w3.heap.size w3).drew.size))
        go_simp
        refine hK.out _ _ (((XA.out.1.below HB10.out).cell 1).trans HCA.out.2.1) (fun hh => ?_)
        have HH' := Lib.hid hh
        clear hh hK K HH bw
        have HH := Lib.hid HH'.out
        clear HH'
        refine wpAnyH_take (i := 4) (v := ?vN84) rfl (by kernel_rfl) (by kernel_rfl) (by kernel_rfl) (fun _ _ _ h => h) (Or.inl ⟨by rfl, fun w' _ => ?yN84⟩) HH.out ?_
        case yN84 => (go_simp; try with_reducible rfl)
        try simp only [List.getElem_toArray, List.getElem_cons_succ, List.getElem_cons_zero, Act.put, List.setIfInBounds_toArray, List.set_cons_zero, List.set_cons_succ]
        refine wpAnyH_take (i := 5) (v := undef) rfl (by kernel_rfl) (by kernel_rfl) (by kernel_rfl) (fun _ _ _ h => h) (Or.inr ⟨by rfl, rfl⟩) HH.out ?_
        refine wpAnyH_take (i := 6) (v := undef) rfl (by kernel_rfl) (by kernel_rfl) (by kernel_rfl) (fun _ _ _ h => h) (Or.inr ⟨by rfl, rfl⟩) HH.out ?_
        refine wpAnyH_take (i := 7) (v := undef) rfl (by kernel_rfl) (by kernel_rfl) (by kernel_rfl) (fun _ _ _ h => h) (Or.inr ⟨by rfl, rfl⟩) HH.out ?_
        try simp only [List.getElem_toArray, List.getElem_cons_succ, List.getElem_cons_zero, Act.put, List.setIfInBounds_toArray, List.set_cons_zero, List.set_cons_succ]
        refine wpAnyH_take (i := 8) (v := undef) rfl (by kernel_rfl) (by kernel_rfl) (by kernel_rfl) (fun _ _ _ h => h) (Or.inr ⟨by rfl, rfl⟩) HH.out ?_
        refine wpAnyH_take (i := 9) (v := undef) rfl (by kernel_rfl) (by kernel_rfl) (by kernel_rfl) (fun _ _ _ h => h) (Or.inr ⟨by rfl, rfl⟩) HH.out ?_
        refine wpAnyH_take (i := 10) (v := undef) rfl (by kernel_rfl) (by kernel_rfl) (by kernel_rfl) (fun _ _ _ h => h) (Or.inr ⟨by rfl, rfl⟩) HH.out ?_
        try simp only [List.getElem_toArray, List.getElem_cons_succ, List.getElem_cons_zero, Act.put, List.setIfInBounds_toArray, List.set_cons_zero, List.set_cons_succ]
        refine wpAnyH_take (i := 11) (v := undef) rfl (by kernel_rfl) (by kernel_rfl) (by kernel_rfl) (fun _ _ _ h => h) (Or.inr ⟨by rfl, rfl⟩) HH.out ?_
        refine wpAnyH_take (i := 12) (v := undef) rfl (by kernel_rfl) (by kernel_rfl) (by kernel_rfl) (fun _ _ _ h => h) (Or.inr ⟨by rfl, rfl⟩) HH.out ?_
        refine wpAnyH_take (i := 13) (v := undef) rfl (by kernel_rfl) (by kernel_rfl) (by kernel_rfl) (fun _ _ _ h => h) (Or.inr ⟨by rfl, rfl⟩) HH.out ?_
        try simp only [List.getElem_toArray, List.getElem_cons_succ, List.getElem_cons_zero, Act.put, List.setIfInBounds_toArray, List.set_cons_zero, List.set_cons_succ]
        refine wpAnyH_take (i := 14) (v := undef) rfl (by kernel_rfl) (by kernel_rfl) (by kernel_rfl) (fun _ _ _ h => h) (Or.inr ⟨by rfl, rfl⟩) HH.out ?_
        refine wpAnyH_take (i := 15) (v := undef) rfl (by kernel_rfl) (by kernel_rfl) (by kernel_rfl) (fun _ _ _ h => h) (Or.inr ⟨by rfl, rfl⟩) HH.out ?_
        refine wpAnyH_take (i := 16) (v := undef) rfl (by kernel_rfl) (by kernel_rfl) (by kernel_rfl) (fun _ _ _ h => h) (Or.inr ⟨by rfl, rfl⟩) HH.out ?_
        try simp only [List.getElem_toArray, List.getElem_cons_succ, List.getElem_cons_zero, Act.put, List.setIfInBounds_toArray, List.set_cons_zero, List.set_cons_succ]
        refine wpAnyH_take (i := 17) (v := undef) rfl (by kernel_rfl) (by kernel_rfl) (by kernel_rfl) (fun _ _ _ h => h) (Or.inr ⟨by rfl, rfl⟩) HH.out ?_
        refine wpAnyH_take (i := 18) (v := undef) rfl (by kernel_rfl) (by kernel_rfl) (by kernel_rfl) (fun _ _ _ h => h) (Or.inr ⟨by rfl, rfl⟩) HH.out ?_
        refine wpAnyH_take (i := 19) (v := ?vN819) rfl (by kernel_rfl) (by kernel_rfl) (by kernel_rfl) (fun _ _ _ h => h) (Or.inl ⟨by rfl, fun w' _ => ?yN819⟩) HH.out ?_
        case yN819 => (go_simp; try with_reducible rfl)
        try simp only [List.getElem_toArray, List.getElem_cons_succ, List.getElem_cons_zero, Act.put, List.setIfInBounds_toArray, List.set_cons_zero, List.set_cons_succ]
        refine wpAnyH_done (by kernel_rfl) ?_ _
        go_wp2_with fail
        go_meet
        exact ⟨rfl, 0, by omega, played (PP.out.below HB10.out) (show x.a.length = _ from rfl) (WW.out.below HB10.out)⟩
      · obtain ⟨k, rfl, hk⟩ := has_place hhas
        have hc := rthere_any (PP.out.below (Below.refl w3.heap.size w3).drew).rm (k : Int)
        rw [hhas] at hc
        have HTH := Lib.hid hc
        have HK := Lib.hid hk
        have wz0 : IntKind.i64.wrap 0 = 0 := IntWalk.i64_in 0 (by omega)
        have wz1 : IntKind.i64.wrap 1 = 1 := IntWalk.i64_in 1 (by omega)
        have kk0 : (0 : Int) ≤ (k : Int) := by omega
        have wx : IntKind.i64.wrap (ax.toNat : Int) = (ax.toNat : Int) := IntWalk.i64_in _ (by have := UInt8.toNat_lt ax; omega)
        obtain ⟨am, ham⟩ : ∃ am, am = ax.toNat % 128 := ⟨_, rfl⟩
        have hx128 : ((ax.toNat : Int)).tmod 128 = (am : Int) := by rw [ham, Int.tmod_eq_emod_of_nonneg (by omega)]; omega
        have HAM := Lib.hid (show am < 128 by rw [ham]; exact Nat.mod_lt _ (by omega))
        have am0 : (0 : Int) ≤ (am : Int) := by omega
        have am1 : (am : Int) < 128 := by have := HAM.out; omega
        have HHB := Lib.hid (show hasByte x.a.length (k : Int) (am : Int) = true from by unfold hasByte; simp; have := HAM.out; omega)
        have e0 := (XD.out.1.cell 0).trans HCD.out.1
        clear hc hhas hk ham
        go_upto_region 26 with fail
        refine wp_region_held_drew (S := fun w' => w'.cell? ⟨ba, 0, none⟩ = some (.int .i64 8) ∧ w'.cell? ⟨ba, 1, none⟩ = some (.int .i64 k) ∧ w'.cell? ⟨ba, 2, none⟩ = some (.int .u8 (ax.toNat : Int)) ∧ w'.cell? ⟨ba, 3, none⟩ = some (.int .u8 (ay.toNat : Int)) ∧ w'.cell? ⟨bd, 0, none⟩ = some (.pointer (some ⟨g1, 0, none⟩))) (by kernel_rfl) ⟨((XA.out.1.below (Below.refl w3.heap.size w3).drew).cell 0).trans HCA.out.1, ((XA.out.1.below (Below.refl w3.heap.size w3).drew).cell 1).trans HCA.out.2.1, ((XA.out.1.below (Below.refl w3.heap.size w3).drew).cell 2).trans HCA.out.2.2.1, ((XA.out.1.below (Below.refl w3.heap.size w3).drew).cell 3).trans HCA.out.2.2.2.1, ((XD.out.1.below (Below.refl w3.heap.size w3).drew).cell 0).trans HCD.out.1⟩ (fun hh => ?_)
        have HH := Lib.hid hh
        clear hh
        refine wpAnyH_take (i := 0) (v := ?vY80) rfl (by kernel_rfl) (by kernel_rfl) (by kernel_rfl) (fun _ _ _ h => h) (Or.inl ⟨by rfl, fun w' _ => ?yY80⟩) HH.out ?_
        case yY80 => (go_simp; try with_reducible rfl)
        refine wpAnyH_take (i := 1) (v := ?vY81) rfl (by kernel_rfl) (by kernel_rfl) (by kernel_rfl) (fun _ _ _ h => h) (Or.inl ⟨by rfl, fun w' _ => ?yY81⟩) HH.out ?_
        case yY81 => (go_simp; try with_reducible rfl)
        try simp only [List.getElem_toArray, List.getElem_cons_succ, List.getElem_cons_zero, Act.put, List.setIfInBounds_toArray, List.set_cons_zero, List.set_cons_succ]
        try simp only [List.getElem_toArray, List.getElem_cons_succ, List.getElem_cons_zero, Act.put, List.setIfInBounds_toArray, List.set_cons_zero, List.set_cons_succ]
        refine wpAnyH_take (i := 2) (v := .int .i64 k) rfl (by kernel_rfl) (by kernel_rfl) (by kernel_rfl) (fun _ _ _ h => h) (Or.inl ⟨by rfl, fun w' hw' => ?yY82⟩) HH.out ?_
        case yY82 => (have hc := hw'.2.1; go_simp; try with_reducible rfl)
        try simp only [List.getElem_toArray, List.getElem_cons_succ, List.getElem_cons_zero, Act.put, List.setIfInBounds_toArray, List.set_cons_zero, List.set_cons_succ]
        refine wpAnyH_ready (rs := [3]) (by kernel_rfl) (by simp) (AllReadyH.cons rfl (fun K hK => ?_) AllReadyH.nil)
        go_simp
        refine HTH.out.mono ?_
        rintro e v9 ⟨rfl, bw⟩
        have HB9 := Lib.hid ((Below.refl w3.heap.size w3).drew.trans (bw.mono (Below.refl w3.heap.size w3).drew.size))
        go_simp
        refine hK.out _ _ ⟨((XA.out.1.below HB9.out).cell 0).trans HCA.out.1, ((XA.out.1.below HB9.out).cell 1).trans HCA.out.2.1, ((XA.out.1.below HB9.out).cell 2).trans HCA.out.2.2.1, ((XA.out.1.below HB9.out).cell 3).trans HCA.out.2.2.2.1, ((XD.out.1.below HB9.out).cell 0).trans HCD.out.1⟩ (fun hh => ?_)
        have HH' := Lib.hid hh
        clear hh hK K HH bw
        have HH := Lib.hid HH'.out
        clear HH'
        refine wpAnyH_take (i := 4) (v := ?vY84) rfl (by kernel_rfl) (by kernel_rfl) (by kernel_rfl) (fun _ _ _ h => h) (Or.inl ⟨by rfl, fun w' _ => ?yY84⟩) HH.out ?_
        case yY84 => (go_simp; try with_reducible rfl)
        try simp only [List.getElem_toArray, List.getElem_cons_succ, List.getElem_cons_zero, Act.put, List.setIfInBounds_toArray, List.set_cons_zero, List.set_cons_succ]
        refine wpAnyH_take (i := 5) (v := ?vY85) rfl (by kernel_rfl) (by kernel_rfl) (by kernel_rfl) (fun _ _ _ h => h) (Or.inl ⟨by rfl, fun w' _ => ?yY85⟩) HH.out ?_
        case yY85 => (go_simp; try with_reducible rfl)
        try simp only [List.getElem_toArray, List.getElem_cons_succ, List.getElem_cons_zero, Act.put, List.setIfInBounds_toArray, List.set_cons_zero, List.set_cons_succ]
        refine wpAnyH_take (i := 6) (v := .int .i64 8) rfl (by kernel_rfl) (by kernel_rfl) (by kernel_rfl) (fun _ _ _ h => h) (Or.inl ⟨by rfl, fun w' hw' => ?yY86⟩) HH.out ?_
        case yY86 => (have hc := hw'.1; go_simp; try with_reducible rfl)
        try simp only [List.getElem_toArray, List.getElem_cons_succ, List.getElem_cons_zero, Act.put, List.setIfInBounds_toArray, List.set_cons_zero, List.set_cons_succ]
        refine wpAnyH_take (i := 7) (v := .int .i64 0) rfl (by kernel_rfl) (by kernel_rfl) (by kernel_rfl) (fun _ _ _ h => h) (Or.inl ⟨by rfl, fun w' hw' => ?yY87⟩) HH.out ?_
        case yY87 => (go_simp; try with_reducible rfl)
        try simp only [List.getElem_toArray, List.getElem_cons_succ, List.getElem_cons_zero, Act.put, List.setIfInBounds_toArray, List.set_cons_zero, List.set_cons_succ]
        refine wpAnyH_take (i := 8) (v := ?vY88) rfl (by kernel_rfl) (by kernel_rfl) (by kernel_rfl) (fun _ _ _ h => h) (Or.inl ⟨by rfl, fun w' _ => ?yY88⟩) HH.out ?_
        case yY88 => (go_simp; try with_reducible rfl)
        try simp only [List.getElem_toArray, List.getElem_cons_succ, List.getElem_cons_zero, Act.put, List.setIfInBounds_toArray, List.set_cons_zero, List.set_cons_succ]
        refine wpAnyH_take (i := 9) (v := .pointer (some ⟨g1, 0, none⟩)) rfl (by kernel_rfl) (by kernel_rfl) (by kernel_rfl) (fun _ _ _ h => h) (Or.inl ⟨by rfl, fun w' hw' => ?yY89⟩) HH.out ?_
        case yY89 => (have hc := hw'.2.2.2.2; go_simp; try with_reducible rfl)
        refine wpAnyH_take (i := 10) (v := ?vY810) rfl (by kernel_rfl) (by kernel_rfl) (by kernel_rfl) (fun _ _ _ h => h) (Or.inl ⟨by rfl, fun w' _ => ?yY810⟩) HH.out ?_
        case yY810 => (go_simp; try with_reducible rfl)
        try simp only [List.getElem_toArray, List.getElem_cons_succ, List.getElem_cons_zero, Act.put, List.setIfInBounds_toArray, List.set_cons_zero, List.set_cons_succ]
        try simp only [List.getElem_toArray, List.getElem_cons_succ, List.getElem_cons_zero, Act.put, List.setIfInBounds_toArray, List.set_cons_zero, List.set_cons_succ]
        refine wpAnyH_take (i := 11) (v := .int .i64 k) rfl (by kernel_rfl) (by kernel_rfl) (by kernel_rfl) (fun _ _ _ h => h) (Or.inl ⟨by rfl, fun w' hw' => ?yY811⟩) HH.out ?_
        case yY811 => (have hc := hw'.2.1; go_simp; try with_reducible rfl)
        refine wpAnyH_take (i := 12) (v := ?vY812) rfl (by kernel_rfl) (by kernel_rfl) (by kernel_rfl) (fun _ _ _ h => h) (Or.inl ⟨by rfl, fun w' _ => ?yY812⟩) HH.out ?_
        case yY812 => (go_simp; try with_reducible rfl)
        try simp only [List.getElem_toArray, List.getElem_cons_succ, List.getElem_cons_zero, Act.put, List.setIfInBounds_toArray, List.set_cons_zero, List.set_cons_succ]
        refine wpAnyH_take (i := 13) (v := .int .u8 (ax.toNat : Int)) rfl (by kernel_rfl) (by kernel_rfl) (by kernel_rfl) (fun _ _ _ h => h) (Or.inl ⟨by rfl, fun w' hw' => ?yY813⟩) HH.out ?_
        case yY813 => (have hc := hw'.2.2.1; go_simp; try with_reducible rfl)
        try simp only [List.getElem_toArray, List.getElem_cons_succ, List.getElem_cons_zero, Act.put, List.setIfInBounds_toArray, List.set_cons_zero, List.set_cons_succ]
        try simp only [List.getElem_toArray, List.getElem_cons_succ, List.getElem_cons_zero, Act.put, List.setIfInBounds_toArray, List.set_cons_zero, List.set_cons_succ]
        refine wpAnyH_take (i := 14) (v := .int .i64 (ax.toNat : Int)) rfl (by kernel_rfl) (by kernel_rfl) (by kernel_rfl) (fun _ _ _ h => h) (Or.inl ⟨by rfl, fun w' hw' => ?yY814⟩) HH.out ?_
        case yY814 => (go_simp; try with_reducible rfl)
        try simp only [List.getElem_toArray, List.getElem_cons_succ, List.getElem_cons_zero, Act.put, List.setIfInBounds_toArray, List.set_cons_zero, List.set_cons_succ]
        refine wpAnyH_take (i := 15) (v := .int .i64 (am : Int)) rfl (by kernel_rfl) (by kernel_rfl) (by kernel_rfl) (fun _ _ _ h => h) (Or.inl ⟨by rfl, fun w' hw' => ?yY815⟩) HH.out ?_
        case yY815 => (go_simp; try with_reducible rfl)
        refine wpAnyH_take (i := 16) (v := ?vY816) rfl (by kernel_rfl) (by kernel_rfl) (by kernel_rfl) (fun _ _ _ h => h) (Or.inl ⟨by rfl, fun w' _ => ?yY816⟩) HH.out ?_
        case yY816 => (go_simp; try with_reducible rfl)
        try simp only [List.getElem_toArray, List.getElem_cons_succ, List.getElem_cons_zero, Act.put, List.setIfInBounds_toArray, List.set_cons_zero, List.set_cons_succ]
        try simp only [List.getElem_toArray, List.getElem_cons_succ, List.getElem_cons_zero, Act.put, List.setIfInBounds_toArray, List.set_cons_zero, List.set_cons_succ]
        refine wpAnyH_take (i := 17) (v := .int .u8 (ay.toNat : Int)) rfl (by kernel_rfl) (by kernel_rfl) (by kernel_rfl) (fun _ _ _ h => h) (Or.inl ⟨by rfl, fun w' hw' => ?yY817⟩) HH.out ?_
        case yY817 => (have hc := hw'.2.2.2.1; go_simp; try with_reducible rfl)
        try simp only [List.getElem_toArray, List.getElem_cons_succ, List.getElem_cons_zero, Act.put, List.setIfInBounds_toArray, List.set_cons_zero, List.set_cons_succ]
        refine wpAnyH_ready (rs := [18]) (by kernel_rfl) (by simp) (AllReadyH.cons rfl (fun K hK => ?_) AllReadyH.nil)
        go_simp
        have hc := pb_rot0 (PP.out.below HB9.out) (k : Int) (am : Int) ay
        rw [HHB.out] at hc
        refine hc.mono ?_
        clear hc
        rintro e v10 ⟨rfl, s10, F10, hpb, hn, hb⟩
        have P10 := Lib.hid hpb
        have W10 := Lib.hid ((WW.out.below HB9.out).step hn hb)
        have XA10 := Lib.hid ((XA.out.below HB9.out).step hn hb)
        have XD10 := Lib.hid ((XD.out.below HB9.out).step hn hb)
        go_simp
        refine hK.out _ _ ⟨(XA10.out.1.cell 0).trans HCA.out.1, (XA10.out.1.cell 1).trans HCA.out.2.1, (XA10.out.1.cell 2).trans HCA.out.2.2.1, (XA10.out.1.cell 3).trans HCA.out.2.2.2.1, (XD10.out.1.cell 0).trans HCD.out.1⟩ (fun hh => ?_)
        have HH' := Lib.hid hh
        clear hh hK K HH hpb hn hb PP WW XA XS XD c0 c1 c2 c3 c4 e0 HTH HB9
        have HH := Lib.hid HH'.out
        clear HH'
        refine wpAnyH_take (i := 19) (v := ?vY819) rfl (by kernel_rfl) (by kernel_rfl) (by kernel_rfl) (fun _ _ _ h => h) (Or.inl ⟨by rfl, fun w' _ => ?yY819⟩) HH.out ?_
        case yY819 => (go_simp; try with_reducible rfl)
        try simp only [List.getElem_toArray, List.getElem_cons_succ, List.getElem_cons_zero, Act.put, List.setIfInBounds_toArray, List.set_cons_zero, List.set_cons_succ]
        refine wpAnyH_done (by kernel_rfl) ?_ _
        obtain ⟨rq, rn, rj, hcs, hkn, hold, hfr, hqg, hRq, hql, hset⟩ := P10.out.rm.rot0 HK.out HAM.out
        obtain ⟨od, hod⟩ : ∃ od, od = (x.l0.getD k zeroS).getD am 0 := ⟨_, rfl⟩
        rw [← hod] at hold
        have HSET := Lib.hid (show RmAt (v10.setCell ⟨rq, k * 128 + am, none⟩ (.int .u8 ((od ^^^ ay).toNat : Int))) gr (x.rot 0 (k : Int) (am : Int) ay) R from by rw [hod]; exact hset ay)
        have HSB := Lib.hid (show But R v10 (v10.setCell ⟨rq, k * 128 + am, none⟩ (.int .u8 ((od ^^^ ay).toNat : Int))) from (but_one _).mono (fun q hq => by rw [show q = rq from hq]; exact hRq))
        have HCS := Lib.hid hcs
        have HOLD := Lib.hid hold
        have HNG := Lib.hid hqg
        have rk : (k : Int) < (rn : Int) := by omega
        have HXO := Lib.hid (bits_xor8 od ay)
        have PV := Lib.hid (P10.out.refW HSET.out HSB.out)
        have WV := Lib.hid (W10.out.step (fun _ h => .inl h) (HSB.out.mono (fun q hq => .inr hq)))
        clear hcs hold hset hod hqg hRq hkn
        go_upto_region 27 with fail
        have XAV := Lib.hid (XA10.out.step (F' := F10) (fun _ h => .inl h) (HSB.out.mono (fun q hq => .inr hq)))
        have H0 := Lib.hid (show (fun w' => (w'.cell? ⟨ba, 0, none⟩ = some (.int .i64 8) ∧ w'.cell? ⟨ba, 1, none⟩ = some (.int .i64 k) ∧ w'.cell? ⟨ba, 2, none⟩ = some (.int .u8 (ax.toNat : Int)) ∧ w'.cell? ⟨ba, 3, none⟩ = some (.int .u8 (ay.toNat : Int))) ∧ w'.cell? ⟨gr, 0, none⟩ = some (.slice (some ⟨rq, 0, none⟩) rn rj)) v10.drew from ⟨⟨(XA10.out.1.cell 0).trans HCA.out.1, (XA10.out.1.cell 1).trans HCA.out.2.1, (XA10.out.1.cell 2).trans HCA.out.2.2.1, (XA10.out.1.cell 3).trans HCA.out.2.2.2.1⟩, HCS.out⟩)
        have H1 := Lib.hid (show (fun w' => w'.cell? ⟨rq, k * 128 + am, none⟩ = some (.int .u8 (od.toNat : Int))) v10.drew from HOLD.out)
        refine wp_region_late (S0 := fun w' => (w'.cell? ⟨ba, 0, none⟩ = some (.int .i64 8) ∧ w'.cell? ⟨ba, 1, none⟩ = some (.int .i64 k) ∧ w'.cell? ⟨ba, 2, none⟩ = some (.int .u8 (ax.toNat : Int)) ∧ w'.cell? ⟨ba, 3, none⟩ = some (.int .u8 (ay.toNat : Int))) ∧ w'.cell? ⟨gr, 0, none⟩ = some (.slice (some ⟨rq, 0, none⟩) rn rj)) (S := fun w' => w'.cell? ⟨rq, k * 128 + am, none⟩ = some (.int .u8 (od.toNat : Int))) (W := [22]) (by kernel_rfl) ?_
        try simp only [List.getElem_toArray, List.getElem_cons_succ, List.getElem_cons_zero, Act.put, List.setIfInBounds_toArray, List.set_cons_zero, List.set_cons_succ]
        refine wpAnyL_take0 (i := 0) (v := ?vZ80) rfl (by kernel_rfl) (by kernel_rfl) (by kernel_rfl) (fun _ _ _ h => h) (by rfl) (Or.inl ⟨by rfl, fun w' hw' => ?yZ80⟩) H0.out (.inr H1.out) ?_
        case yZ80 => (go_simp; try with_reducible rfl)
        try simp only [List.getElem_toArray, List.getElem_cons_zero, Act.put, List.setIfInBounds_toArray, List.set_cons_zero, List.set_cons_succ]
        refine wpAnyL_take0 (i := 1) (v := ?vZ81) rfl (by kernel_rfl) (by kernel_rfl) (by kernel_rfl) (fun _ _ _ h => h) (by rfl) (Or.inl ⟨by rfl, fun w' hw' => ?yZ81⟩) H0.out (.inr H1.out) ?_
        case yZ81 => (go_simp; try with_reducible rfl)
        try simp only [List.getElem_toArray, List.getElem_cons_succ, List.getElem_cons_zero, Act.put, List.setIfInBounds_toArray, List.set_cons_zero, List.set_cons_succ]
        refine wpAnyL_take0 (i := 2) (v := .int .i64 8) rfl (by kernel_rfl) (by kernel_rfl) (by kernel_rfl) (fun _ _ _ h => h) (by rfl) (Or.inl ⟨by rfl, fun w' hw' => ?yZ82⟩) H0.out (.inr H1.out) ?_
        case yZ82 => (have hc := hw'.1.1; go_simp; try with_reducible rfl)
        try simp only [List.getElem_toArray, List.getElem_cons_succ, List.getElem_cons_zero, Act.put, List.setIfInBounds_toArray, List.set_cons_zero, List.set_cons_succ]
        refine wpAnyL_take0 (i := 3) (v := .int .i64 0) rfl (by kernel_rfl) (by kernel_rfl) (by kernel_rfl) (fun _ _ _ h => h) (by rfl) (Or.inl ⟨by rfl, fun w' hw' => ?yZ83⟩) H0.out (.inr H1.out) ?_
        case yZ83 => (go_simp; try with_reducible rfl)
        try simp only [List.getElem_toArray, List.getElem_cons_succ, List.getElem_cons_zero, Act.put, List.setIfInBounds_toArray, List.set_cons_zero, List.set_cons_succ]
        refine wpAnyL_take0 (i := 4) (v := ?vZ84) rfl (by kernel_rfl) (by kernel_rfl) (by kernel_rfl) (fun _ _ _ h => h) (by rfl) (Or.inl ⟨by rfl, fun w' hw' => ?yZ84⟩) H0.out (.inr H1.out) ?_
        case yZ84 => (go_simp; try with_reducible rfl)
        try simp only [List.getElem_toArray, List.getElem_cons_succ, List.getElem_cons_zero, Act.put, List.setIfInBounds_toArray, List.set_cons_zero, List.set_cons_succ]
        refine wpAnyL_take0 (i := 5) (v := ?vZ85) rfl (by kernel_rfl) (by kernel_rfl) (by kernel_rfl) (fun _ _ _ h => h) (by rfl) (Or.inl ⟨by rfl, fun w' hw' => ?yZ85⟩) H0.out (.inr H1.out) ?_
        case yZ85 => (go_simp; try with_reducible rfl)
        try simp only [List.getElem_toArray, List.getElem_cons_succ, List.getElem_cons_zero, Act.put, List.setIfInBounds_toArray, List.set_cons_zero, List.set_cons_succ]
        refine wpAnyL_take0 (i := 6) (v := ?vZ86) rfl (by kernel_rfl) (by kernel_rfl) (by kernel_rfl) (fun _ _ _ h => h) (by rfl) (Or.inl ⟨by rfl, fun w' hw' => ?yZ86⟩) H0.out (.inr H1.out) ?_
        case yZ86 => (go_simp; try with_reducible rfl)
        try simp only [List.getElem_toArray, List.getElem_cons_succ, List.getElem_cons_zero, Act.put, List.setIfInBounds_toArray, List.set_cons_zero, List.set_cons_succ]
        refine wpAnyL_take0 (i := 7) (v := .slice (some ⟨rq, 0, none⟩) rn rj) rfl (by kernel_rfl) (by kernel_rfl) (by kernel_rfl) (fun _ _ _ h => h) (by rfl) (Or.inl ⟨by rfl, fun w' hw' => ?yZ87⟩) H0.out (.inr H1.out) ?_
        case yZ87 => (have hc := hw'.2; go_simp; try with_reducible rfl)
        try simp only [List.getElem_toArray, List.getElem_cons_succ, List.getElem_cons_zero, Act.put, List.setIfInBounds_toArray, List.set_cons_zero, List.set_cons_succ]
        refine wpAnyL_take0 (i := 8) (v := ?vZ88) rfl (by kernel_rfl) (by kernel_rfl) (by kernel_rfl) (fun _ _ _ h => h) (by rfl) (Or.inl ⟨by rfl, fun w' hw' => ?yZ88⟩) H0.out (.inr H1.out) ?_
        case yZ88 => (go_simp; try with_reducible rfl)
        try simp only [List.getElem_toArray, List.getElem_cons_succ, List.getElem_cons_zero, Act.put, List.setIfInBounds_toArray, List.set_cons_zero, List.set_cons_succ]
        refine wpAnyL_take0 (i := 9) (v := .int .i64 k) rfl (by kernel_rfl) (by kernel_rfl) (by kernel_rfl) (fun _ _ _ h => h) (by rfl) (Or.inl ⟨by rfl, fun w' hw' => ?yZ89⟩) H0.out (.inr H1.out) ?_
        case yZ89 => (have hc := hw'.1.2.1; go_simp; try with_reducible rfl)
        try simp only [List.getElem_toArray, List.getElem_cons_succ, List.getElem_cons_zero, Act.put, List.setIfInBounds_toArray, List.set_cons_zero, List.set_cons_succ]
        refine wpAnyL_take0 (i := 10) (v := ?vZ810) rfl (by kernel_rfl) (by kernel_rfl) (by kernel_rfl) (fun _ _ _ h => h) (by rfl) (Or.inl ⟨by rfl, fun w' hw' => ?yZ810⟩) H0.out (.inr H1.out) ?_
        case yZ810 => (go_simp; try with_reducible rfl)
        try simp only [List.getElem_toArray, List.getElem_cons_succ, List.getElem_cons_zero, Act.put, List.setIfInBounds_toArray, List.set_cons_zero, List.set_cons_succ]
        refine wpAnyL_take0 (i := 11) (v := .int .u8 (ax.toNat : Int)) rfl (by kernel_rfl) (by kernel_rfl) (by kernel_rfl) (fun _ _ _ h => h) (by rfl) (Or.inl ⟨by rfl, fun w' hw' => ?yZ811⟩) H0.out (.inr H1.out) ?_
        case yZ811 => (have hc := hw'.1.2.2.1; go_simp; try with_reducible rfl)
        try simp only [List.getElem_toArray, List.getElem_cons_succ, List.getElem_cons_zero, Act.put, List.setIfInBounds_toArray, List.set_cons_zero, List.set_cons_succ]
        refine wpAnyL_take0 (i := 12) (v := .int .i64 (ax.toNat : Int)) rfl (by kernel_rfl) (by kernel_rfl) (by kernel_rfl) (fun _ _ _ h => h) (by rfl) (Or.inl ⟨by rfl, fun w' hw' => ?yZ812⟩) H0.out (.inr H1.out) ?_
        case yZ812 => (go_simp; try with_reducible rfl)
        try simp only [List.getElem_toArray, List.getElem_cons_succ, List.getElem_cons_zero, Act.put, List.setIfInBounds_toArray, List.set_cons_zero, List.set_cons_succ]
        refine wpAnyL_take0 (i := 13) (v := .int .i64 (am : Int)) rfl (by kernel_rfl) (by kernel_rfl) (by kernel_rfl) (fun _ _ _ h => h) (by rfl) (Or.inl ⟨by rfl, fun w' hw' => ?yZ813⟩) H0.out (.inr H1.out) ?_
        case yZ813 => (go_simp; try with_reducible rfl)
        try simp only [List.getElem_toArray, List.getElem_cons_succ, List.getElem_cons_zero, Act.put, List.setIfInBounds_toArray, List.set_cons_zero, List.set_cons_succ]
        refine wpAnyL_take0 (i := 14) (v := .pointer (some ⟨rq, k * 128, none⟩)) rfl (by kernel_rfl) (by kernel_rfl) (by kernel_rfl) (fun _ _ _ h => h) (by rfl) (Or.inl ⟨by rfl, fun w' hw' => ?yZ814⟩) H0.out (.inr H1.out) ?_
        case yZ814 => (go_simp; try with_reducible rfl)
        try simp only [List.getElem_toArray, List.getElem_cons_succ, List.getElem_cons_zero, Act.put, List.setIfInBounds_toArray, List.set_cons_zero, List.set_cons_succ]
        refine wpAnyL_take0 (i := 15) (v := .pointer (some ⟨rq, k * 128 + am, none⟩)) rfl (by kernel_rfl) (by kernel_rfl) (by kernel_rfl) (fun _ _ _ h => h) (by rfl) (Or.inl ⟨by rfl, fun w' hw' => ?yZ815⟩) H0.out (.inr H1.out) ?_
        case yZ815 => (go_simp; try with_reducible rfl)
        try simp only [List.getElem_toArray, List.getElem_cons_succ, List.getElem_cons_zero, Act.put, List.setIfInBounds_toArray, List.set_cons_zero, List.set_cons_succ]
        refine wpAnyL_take (i := 16) (v := .int .u8 (od.toNat : Int)) rfl (by kernel_rfl) (by kernel_rfl) (by kernel_rfl) (fun _ _ _ h => h) (by kernel_rfl) (by rfl) (by kernel_rfl) (Or.inl ⟨by rfl, fun w' hw' => ?yZ816⟩) ⟨H0.out, H1.out⟩ ?_
        case yZ816 => (have hc := hw'.2; go_simp; try with_reducible rfl)
        try simp only [List.getElem_toArray, List.getElem_cons_succ, List.getElem_cons_zero, Act.put, List.setIfInBounds_toArray, List.set_cons_zero, List.set_cons_succ]
        refine wpAnyL_take0 (i := 17) (v := ?vZ817) rfl (by kernel_rfl) (by kernel_rfl) (by kernel_rfl) (fun _ _ _ h => h) (by rfl) (Or.inl ⟨by rfl, fun w' hw' => ?yZ817⟩) H0.out (.inr H1.out) ?_
        case yZ817 => (go_simp; try with_reducible rfl)
        try simp only [List.getElem_toArray, List.getElem_cons_succ, List.getElem_cons_zero, Act.put, List.setIfInBounds_toArray, List.set_cons_zero, List.set_cons_succ]
        refine wpAnyL_take0 (i := 18) (v := .int .u8 (ay.toNat : Int)) rfl (by kernel_rfl) (by kernel_rfl) (by kernel_rfl) (fun _ _ _ h => h) (by rfl) (Or.inl ⟨by rfl, fun w' hw' => ?yZ818⟩) H0.out (.inr H1.out) ?_
        case yZ818 => (have hc := hw'.1.2.2.2; go_simp; try with_reducible rfl)
        try simp only [List.getElem_toArray, List.getElem_cons_succ, List.getElem_cons_zero, Act.put, List.setIfInBounds_toArray, List.set_cons_zero, List.set_cons_succ]
        refine wpAnyL_take0 (i := 19) (v := .int .u8 ((od ^^^ ay).toNat : Int)) rfl (by kernel_rfl) (by kernel_rfl) (by kernel_rfl) (fun _ _ _ h => h) (by rfl) (Or.inl ⟨by rfl, fun w' hw' => ?yZ819⟩) H0.out (.inr H1.out) ?_
        case yZ819 => (go_simp; try rw [HXO.out]; try rw [UInt8.toNat_xor]; try with_reducible rfl)
        try simp only [List.getElem_toArray, List.getElem_cons_succ, List.getElem_cons_zero, Act.put, List.setIfInBounds_toArray, List.set_cons_zero, List.set_cons_succ]
        refine wpAnyL_take0 (i := 20) (v := .pointer (some ⟨rq, k * 128, none⟩)) rfl (by kernel_rfl) (by kernel_rfl) (by kernel_rfl) (fun _ _ _ h => h) (by rfl) (Or.inl ⟨by rfl, fun w' hw' => ?yZ820⟩) H0.out (.inr H1.out) ?_
        case yZ820 => (go_simp; try with_reducible rfl)
        try simp only [List.getElem_toArray, List.getElem_cons_succ, List.getElem_cons_zero, Act.put, List.setIfInBounds_toArray, List.set_cons_zero, List.set_cons_succ]
        refine wpAnyL_take0 (i := 21) (v := .pointer (some ⟨rq, k * 128 + am, none⟩)) rfl (by kernel_rfl) (by kernel_rfl) (by kernel_rfl) (fun _ _ _ h => h) (by rfl) (Or.inl ⟨by rfl, fun w' hw' => ?yZ821⟩) H0.out (.inr H1.out) ?_
        case yZ821 => (go_simp; try with_reducible rfl)
        try simp only [List.getElem_toArray, List.getElem_cons_succ, List.getElem_cons_zero, Act.put, List.setIfInBounds_toArray, List.set_cons_zero, List.set_cons_succ]
        have cg := HOLD.out
        have fg := hfr
        have lg := hql
        refine wpAnyL_ready (rs := [22]) (by kernel_rfl) (by simp) (AllReadyL.cons rfl (fun K hK => ?_) AllReadyL.nil)
        go_simp
        obtain ⟨vv, hvv⟩ : ∃ vv, vv = v10.setCell ⟨rq, k * 128 + am, none⟩ (.int .u8 ((od ^^^ ay).toNat : Int)) := ⟨_, rfl⟩
        try rw [UInt8.toNat_xor] at hvv
        try rw [← hvv]
        have HCV := Lib.hid (show vv.cell? ⟨gr, 0, none⟩ = some (.slice (some ⟨rq, 0, none⟩) rn rj) from by rw [hvv]; exact cell_other HCS.out (fun e => HNG.out e.symm))
        try rw [← UInt8.toNat_xor] at hvv
        rw [← hvv] at PV WV XAV
        refine hK.out _ _ ⟨⟨⟨((XAV.out.1.below (Below.refl _ _).drew).cell 0).trans HCA.out.1, ((XAV.out.1.below (Below.refl _ _).drew).cell 1).trans HCA.out.2.1, ((XAV.out.1.below (Below.refl _ _).drew).cell 2).trans HCA.out.2.2.1, ((XAV.out.1.below (Below.refl _ _).drew).cell 3).trans HCA.out.2.2.2.1⟩, HCV.out⟩, .inl ⟨22, by simp, by rfl⟩⟩ ?_
        clear hK K cg fg lg hvv
        try simp only [List.getElem_toArray, List.getElem_cons_succ, List.getElem_cons_zero, Act.put, List.setIfInBounds_toArray, List.set_cons_zero, List.set_cons_succ]
        refine wpAnyL_done (by kernel_rfl) ?_ _
        go_wp2_with fail
        go_meet
        exact ⟨rfl, 0, by omega, played (PV.out.below (Below.refl _ _).drew) (rot_lenA _ _ _ _ _) (WV.out.below (Below.refl _ _).drew)⟩
    by_cases k9 : kd = 9
    · subst k9
      cases hhas : x.has an
      · have hc := rthere_any (PP.out.below (Below.refl w3.heap.size w3).drew).rm an
        rw [hhas] at hc
        have HTH := Lib.hid hc
        clear hc hhas
        go_upto_region 26 with fail
        refine wp_region_held_drew (S := fun w' => w'.cell? ⟨ba, 1, none⟩ = some (.int .i64 an)) (by kernel_rfl) (((XA.out.1.below (Below.refl w3.heap.size w3).drew).cell 1).trans HCA.out.2.1) (fun hh => ?_)
        have HH := Lib.hid hh
        clear hh
        refine wpAnyH_take (i := 0) (v := ?vN90) rfl (by kernel_rfl) (by kernel_rfl) (by kernel_rfl) (fun _ _ _ h => h) (Or.inl ⟨by rfl, fun w' _ => ?yN90⟩) HH.out ?_
        case yN90 => (go_simp; try with_reducible rfl)
        refine wpAnyH_take (i := 1) (v := ?vN91) rfl (by kernel_rfl) (by kernel_rfl) (by kernel_rfl) (fun _ _ _ h => h) (Or.inl ⟨by rfl, fun w' _ => ?yN91⟩) HH.out ?_
        case yN91 => (go_simp; try with_reducible rfl)
        try simp only [List.getElem_toArray, List.getElem_cons_succ, List.getElem_cons_zero, Act.put, List.setIfInBounds_toArray, List.set_cons_zero, List.set_cons_succ]
        try simp only [List.getElem_toArray, List.getElem_cons_succ, List.getElem_cons_zero, Act.put, List.setIfInBounds_toArray, List.set_cons_zero, List.set_cons_succ]
        refine wpAnyH_take (i := 2) (v := .int .i64 an) rfl (by kernel_rfl) (by kernel_rfl) (by kernel_rfl) (fun _ _ _ h => h) (Or.inl ⟨by rfl, fun w' hw' => ?yN92⟩) HH.out ?_
        case yN92 => (have hc := hw'; go_simp; try with_reducible rfl)
        try simp only [List.getElem_toArray, List.getElem_cons_succ, List.getElem_cons_zero, Act.put, List.setIfInBounds_toArray, List.set_cons_zero, List.set_cons_succ]
        refine wpAnyH_ready (rs := [3]) (by kernel_rfl) (by simp) (AllReadyH.cons rfl (fun K hK => ?_) AllReadyH.nil)
        go_simp
        refine HTH.out.mono ?_
        rintro e v10 ⟨rfl, bw⟩
        have HB10 := Lib.hid ((Below.refl w3.heap.size w3).drew.trans (bw.mono (Below.refl w3.heap.size w3).drew.size))
        go_simp
        refine hK.out _ _ (((XA.out.1.below HB10.out).cell 1).trans HCA.out.2.1) (fun hh => ?_)
        have HH' := Lib.hid hh
        clear hh hK K HH bw
        have HH := Lib.hid HH'.out
        clear HH'
        refine wpAnyH_take (i := 4) (v := ?vN94) rfl (by kernel_rfl) (by kernel_rfl) (by kernel_rfl) (fun _ _ _ h => h) (Or.inl ⟨by rfl, fun w' _ => ?yN94⟩) HH.out ?_
        case yN94 => (go_simp; try with_reducible rfl)
        try simp only [List.getElem_toArray, List.getElem_cons_succ, List.getElem_cons_zero, Act.put, List.setIfInBounds_toArray, List.set_cons_zero, List.set_cons_succ]
        refine wpAnyH_take (i := 5) (v := undef) rfl (by kernel_rfl) (by kernel_rfl) (by kernel_rfl) (fun _ _ _ h => h) (Or.inr ⟨by rfl, rfl⟩) HH.out ?_
        refine wpAnyH_take (i := 6) (v := undef) rfl (by kernel_rfl) (by kernel_rfl) (by kernel_rfl) (fun _ _ _ h => h) (Or.inr ⟨by rfl, rfl⟩) HH.out ?_
        refine wpAnyH_take (i := 7) (v := undef) rfl (by kernel_rfl) (by kernel_rfl) (by kernel_rfl) (fun _ _ _ h => h) (Or.inr ⟨by rfl, rfl⟩) HH.out ?_
        try simp only [List.getElem_toArray, List.getElem_cons_succ, List.getElem_cons_zero, Act.put, List.setIfInBounds_toArray, List.set_cons_zero, List.set_cons_succ]
        refine wpAnyH_take (i := 8) (v := undef) rfl (by kernel_rfl) (by kernel_rfl) (by kernel_rfl) (fun _ _ _ h => h) (Or.inr ⟨by rfl, rfl⟩) HH.out ?_
        refine wpAnyH_take (i := 9) (v := undef) rfl (by kernel_rfl) (by kernel_rfl) (by kernel_rfl) (fun _ _ _ h => h) (Or.inr ⟨by rfl, rfl⟩) HH.out ?_
        refine wpAnyH_take (i := 10) (v := undef) rfl (by kernel_rfl) (by kernel_rfl) (by kernel_rfl) (fun _ _ _ h => h) (Or.inr ⟨by rfl, rfl⟩) HH.out ?_
        try simp only [List.getElem_toArray, List.getElem_cons_succ, List.getElem_cons_zero, Act.put, List.setIfInBounds_toArray, List.set_cons_zero, List.set_cons_succ]
        refine wpAnyH_take (i := 11) (v := undef) rfl (by kernel_rfl) (by kernel_rfl) (by kernel_rfl) (fun _ _ _ h => h) (Or.inr ⟨by rfl, rfl⟩) HH.out ?_
        refine wpAnyH_take (i := 12) (v := undef) rfl (by kernel_rfl) (by kernel_rfl) (by kernel_rfl) (fun _ _ _ h => h) (Or.inr ⟨by rfl, rfl⟩) HH.out ?_
        refine wpAnyH_take (i := 13) (v := undef) rfl (by kernel_rfl) (by kernel_rfl) (by kernel_rfl) (fun _ _ _ h => h) (Or.inr ⟨by rfl, rfl⟩) HH.out ?_
        try simp only [List.getElem_toArray, List.getElem_cons_succ, List.getElem_cons_zero, Act.put, List.setIfInBounds_toArray, List.set_cons_zero, List.set_cons_succ]
        refine wpAnyH_take (i := 14) (v := undef) rfl (by kernel_rfl) (by kernel_rfl) (by kernel_rfl) (fun _ _ _ h => h) (Or.inr ⟨by rfl, rfl⟩) HH.out ?_
        refine wpAnyH_take (i := 15) (v := undef) rfl (by kernel_rfl) (by kernel_rfl) (by kernel_rfl) (fun _ _ _ h => h) (Or.inr ⟨by rfl, rfl⟩) HH.out ?_
        refine wpAnyH_take (i := 16) (v := undef) rfl (by kernel_rfl) (by kernel_rfl) (by kernel_rfl) (fun _ _ _ h => h) (Or.inr ⟨by rfl, rfl⟩) HH.out ?_
        try simp only [List.getElem_toArray, List.getElem_cons_succ, List.getElem_cons_zero, Act.put, List.setIfInBounds_toArray, List.set_cons_zero, List.set_cons_succ]
        refine wpAnyH_take (i := 17) (v := undef) rfl (by kernel_rfl) (by kernel_rfl) (by kernel_rfl) (fun _ _ _ h => h) (Or.inr ⟨by rfl, rfl⟩) HH.out ?_
        refine wpAnyH_take (i := 18) (v := undef) rfl (by kernel_rfl) (by kernel_rfl) (by kernel_rfl) (fun _ _ _ h => h) (Or.inr ⟨by rfl, rfl⟩) HH.out ?_
        refine wpAnyH_take (i := 19) (v := ?vN919) rfl (by kernel_rfl) (by kernel_rfl) (by kernel_rfl) (fun _ _ _ h => h) (Or.inl ⟨by rfl, fun w' _ => ?yN919⟩) HH.out ?_
        case yN919 => (go_simp; try with_reducible rfl)
        try simp only [List.getElem_toArray, List.getElem_cons_succ, List.getElem_cons_zero, Act.put, List.setIfInBounds_toArray, List.set_cons_zero, List.set_cons_succ]
        refine wpAnyH_done (by kernel_rfl) ?_ _
        go_wp2_with fail
        go_meet
        exact ⟨rfl, 0, by omega, played (PP.out.below HB10.out) (show x.a.length = _ from rfl) (WW.out.below HB10.out)⟩
      · obtain ⟨k, rfl, hk⟩ := has_place hhas
        have hc := rthere_any (PP.out.below (Below.refl w3.heap.size w3).drew).rm (k : Int)
        rw [hhas] at hc
        have HTH := Lib.hid hc
        have HK := Lib.hid hk
        have wz0 : IntKind.i64.wrap 0 = 0 := IntWalk.i64_in 0 (by omega)
        have wz1 : IntKind.i64.wrap 1 = 1 := IntWalk.i64_in 1 (by omega)
        have kk0 : (0 : Int) ≤ (k : Int) := by omega
        have wx : IntKind.i64.wrap (ax.toNat : Int) = (ax.toNat : Int) := IntWalk.i64_in _ (by have := UInt8.toNat_lt ax; omega)
        obtain ⟨am, ham⟩ : ∃ am, am = ax.toNat % 128 := ⟨_, rfl⟩
        have hx128 : ((ax.toNat : Int)).tmod 128 = (am : Int) := by rw [ham, Int.tmod_eq_emod_of_nonneg (by omega)]; omega
        have HAM := Lib.hid (show am < 128 by rw [ham]; exact Nat.mod_lt _ (by omega))
        have am0 : (0 : Int) ≤ (am : Int) := by omega
        have am1 : (am : Int) < 128 := by have := HAM.out; omega
        have HHB := Lib.hid (show hasByte x.a.length (k : Int) (am : Int) = true from by unfold hasByte; simp; have := HAM.out; omega)
        have e0 := (XD.out.1.cell 1).trans HCD.out.2
        clear hc hhas hk ham
        go_upto_region 26 with fail
        refine wp_region_held_drew (S := fun w' => w'.cell? ⟨ba, 0, none⟩ = some (.int .i64 9) ∧ w'.cell? ⟨ba, 1, none⟩ = some (.int .i64 k) ∧ w'.cell? ⟨ba, 2, none⟩ = some (.int .u8 (ax.toNat : Int)) ∧ w'.cell? ⟨ba, 3, none⟩ = some (.int .u8 (ay.toNat : Int)) ∧ w'.cell? ⟨bd, 1, none⟩ = some (.pointer (some ⟨g2, 0, none⟩))) (by kernel_rfl) ⟨((XA.out.1.below (Below.refl w3.heap.size w3).drew).cell 0).trans HCA.out.1, ((XA.out.1.below (Below.refl w3.heap.size w3).drew).cell 1).trans HCA.out.2.1, ((XA.out.1.below (Below.refl w3.heap.size w3).drew).cell 2).trans HCA.out.2.2.1, ((XA.out.1.below (Below.refl w3.heap.size w3).drew).cell 3).trans HCA.out.2.2.2.1, ((XD.out.1.below (Below.refl w3.heap.size w3).drew).cell 1).trans HCD.out.2⟩ (fun hh => ?_)
        have HH := Lib.hid hh
        clear hh
        refine wpAnyH_take (i := 0) (v := ?vY90) rfl (by kernel_rfl) (by kernel_rfl) (by kernel_rfl) (fun _ _ _ h => h) (Or.inl ⟨by rfl, fun w' _ => ?yY90⟩) HH.out ?_
        case yY90 => (go_simp; try with_reducible rfl)
        refine wpAnyH_take (i := 1) (v := ?vY91) rfl (by kernel_rfl) (by kernel_rfl) (by kernel_rfl) (fun _ _ _ h => h) (Or.inl ⟨by rfl, fun w' _ => ?yY91⟩) HH.out ?_
        case yY91 => (go_simp; try with_reducible rfl)
        try simp only [List.getElem_toArray, List.getElem_cons_succ, List.getElem_cons_zero, Act.put, List.setIfInBounds_toArray, List.set_cons_zero, List.set_cons_succ]
        try simp only [List.getElem_toArray, List.getElem_cons_succ, List.getElem_cons_zero, Act.put, List.setIfInBounds_toArray, List.set_cons_zero, List.set_cons_succ]
        refine wpAnyH_take (i := 2) (v := .int .i64 k) rfl (by kernel_rfl) (by kernel_rfl) (by kernel_rfl) (fun _ _ _ h => h) (Or.inl ⟨by rfl, fun w' hw' => ?yY92⟩) HH.out ?_
        case yY92 => (have hc := hw'.2.1; go_simp; try with_reducible rfl)
        try simp only [List.getElem_toArray, List.getElem_cons_succ, List.getElem_cons_zero, Act.put, List.setIfInBounds_toArray, List.set_cons_zero, List.set_cons_succ]
        refine wpAnyH_ready (rs := [3]) (by kernel_rfl) (by simp) (AllReadyH.cons rfl (fun K hK => ?_) AllReadyH.nil)
        go_simp
        refine HTH.out.mono ?_
        rintro e v9 ⟨rfl, bw⟩
        have HB9 := Lib.hid ((Below.refl w3.heap.size w3).drew.trans (bw.mono (Below.refl w3.heap.size w3).drew.size))
        go_simp
        refine hK.out _ _ ⟨((XA.out.1.below HB9.out).cell 0).trans HCA.out.1, ((XA.out.1.below HB9.out).cell 1).trans HCA.out.2.1, ((XA.out.1.below HB9.out).cell 2).trans HCA.out.2.2.1, ((XA.out.1.below HB9.out).cell 3).trans HCA.out.2.2.2.1, ((XD.out.1.below HB9.out).cell 1).trans HCD.out.2⟩ (fun hh => ?_)
        have HH' := Lib.hid hh
        clear hh hK K HH bw
        have HH := Lib.hid HH'.out
        clear HH'
        refine wpAnyH_take (i := 4) (v := ?vY94) rfl (by kernel_rfl) (by kernel_rfl) (by kernel_rfl) (fun _ _ _ h => h) (Or.inl ⟨by rfl, fun w' _ => ?yY94⟩) HH.out ?_
        case yY94 => (go_simp; try with_reducible rfl)
        try simp only [List.getElem_toArray, List.getElem_cons_succ, List.getElem_cons_zero, Act.put, List.setIfInBounds_toArray, List.set_cons_zero, List.set_cons_succ]
        refine wpAnyH_take (i := 5) (v := ?vY95) rfl (by kernel_rfl) (by kernel_rfl) (by kernel_rfl) (fun _ _ _ h => h) (Or.inl ⟨by rfl, fun w' _ => ?yY95⟩) HH.out ?_
        case yY95 => (go_simp; try with_reducible rfl)
        try simp only [List.getElem_toArray, List.getElem_cons_succ, List.getElem_cons_zero, Act.put, List.setIfInBounds_toArray, List.set_cons_zero, List.set_cons_succ]
        refine wpAnyH_take (i := 6) (v := .int .i64 9) rfl (by kernel_rfl) (by kernel_rfl) (by kernel_rfl) (fun _ _ _ h => h) (Or.inl ⟨by rfl, fun w' hw' => ?yY96⟩) HH.out ?_
        case yY96 => (have hc := hw'.1; go_simp; try with_reducible rfl)
        try simp only [List.getElem_toArray, List.getElem_cons_succ, List.getElem_cons_zero, Act.put, List.setIfInBounds_toArray, List.set_cons_zero, List.set_cons_succ]
        refine wpAnyH_take (i := 7) (v := .int .i64 1) rfl (by kernel_rfl) (by kernel_rfl) (by kernel_rfl) (fun _ _ _ h => h) (Or.inl ⟨by rfl, fun w' hw' => ?yY97⟩) HH.out ?_
        case yY97 => (go_simp; try with_reducible rfl)
        try simp only [List.getElem_toArray, List.getElem_cons_succ, List.getElem_cons_zero, Act.put, List.setIfInBounds_toArray, List.set_cons_zero, List.set_cons_succ]
        refine wpAnyH_take (i := 8) (v := ?vY98) rfl (by kernel_rfl) (by kernel_rfl) (by kernel_rfl) (fun _ _ _ h => h) (Or.inl ⟨by rfl, fun w' _ => ?yY98⟩) HH.out ?_
        case yY98 => (go_simp; try with_reducible rfl)
        try simp only [List.getElem_toArray, List.getElem_cons_succ, List.getElem_cons_zero, Act.put, List.setIfInBounds_toArray, List.set_cons_zero, List.set_cons_succ]
        refine wpAnyH_take (i := 9) (v := .pointer (some ⟨g2, 0, none⟩)) rfl (by kernel_rfl) (by kernel_rfl) (by kernel_rfl) (fun _ _ _ h => h) (Or.inl ⟨by rfl, fun w' hw' => ?yY99⟩) HH.out ?_
        case yY99 => (have hc := hw'.2.2.2.2; go_simp; try with_reducible rfl)
        refine wpAnyH_take (i := 10) (v := ?vY910) rfl (by kernel_rfl) (by kernel_rfl) (by kernel_rfl) (fun _ _ _ h => h) (Or.inl ⟨by rfl, fun w' _ => ?yY910⟩) HH.out ?_
        case yY910 => (go_simp; try with_reducible rfl)
        try simp only [List.getElem_toArray, List.getElem_cons_succ, List.getElem_cons_zero, Act.put, List.setIfInBounds_toArray, List.set_cons_zero, List.set_cons_succ]
        try simp only [List.getElem_toArray, List.getElem_cons_succ, List.getElem_cons_zero, Act.put, List.setIfInBounds_toArray, List.set_cons_zero, List.set_cons_succ]
        refine wpAnyH_take (i := 11) (v := .int .i64 k) rfl (by kernel_rfl) (by kernel_rfl) (by kernel_rfl) (fun _ _ _ h => h) (Or.inl ⟨by rfl, fun w' hw' => ?yY911⟩) HH.out ?_
        case yY911 => (have hc := hw'.2.1; go_simp; try with_reducible rfl)
        refine wpAnyH_take (i := 12) (v := ?vY912) rfl (by kernel_rfl) (by kernel_rfl) (by kernel_rfl) (fun _ _ _ h => h) (Or.inl ⟨by rfl, fun w' _ => ?yY912⟩) HH.out ?_
        case yY912 => (go_simp; try with_reducible rfl)
        try simp only [List.getElem_toArray, List.getElem_cons_succ, List.getElem_cons_zero, Act.put, List.setIfInBounds_toArray, List.set_cons_zero, List.set_cons_succ]
        refine wpAnyH_take (i := 13) (v := .int .u8 (ax.toNat : Int)) rfl (by kernel_rfl) (by kernel_rfl) (by kernel_rfl) (fun _ _ _ h => h) (Or.inl ⟨by rfl, fun w' hw' => ?yY913⟩) HH.out ?_
        case yY913 => (have hc := hw'.2.2.1; go_simp; try with_reducible rfl)
        try simp only [List.getElem_toArray, List.getElem_cons_succ, List.getElem_cons_zero, Act.put, List.setIfInBounds_toArray, List.set_cons_zero, List.set_cons_succ]
        try simp only [List.getElem_toArray, List.getElem_cons_succ, List.getElem_cons_zero, Act.put, List.setIfInBounds_toArray, List.set_cons_zero, List.set_cons_succ]
        refine wpAnyH_take (i := 14) (v := .int .i64 (ax.toNat : Int)) rfl (by kernel_rfl) (by kernel_rfl) (by kernel_rfl) (fun _ _ _ h => h) (Or.inl ⟨by rfl, fun w' hw' => ?yY914⟩) HH.out ?_
        case yY914 => (go_simp; try with_reducible rfl)
        try simp only [List.getElem_toArray, List.getElem_cons_succ, List.getElem_cons_zero, Act.put, List.setIfInBounds_toArray, List.set_cons_zero, List.set_cons_succ]
        refine wpAnyH_take (i := 15) (v := .int .i64 (am : Int)) rfl (by kernel_rfl) (by kernel_rfl) (by kernel_rfl) (fun _ _ _ h => h) (Or.inl ⟨by rfl, fun w' hw' => ?yY915⟩) HH.out ?_
        case yY915 => (go_simp; try with_reducible rfl)
        refine wpAnyH_take (i := 16) (v := ?vY916) rfl (by kernel_rfl) (by kernel_rfl) (by kernel_rfl) (fun _ _ _ h => h) (Or.inl ⟨by rfl, fun w' _ => ?yY916⟩) HH.out ?_
        case yY916 => (go_simp; try with_reducible rfl)
        try simp only [List.getElem_toArray, List.getElem_cons_succ, List.getElem_cons_zero, Act.put, List.setIfInBounds_toArray, List.set_cons_zero, List.set_cons_succ]
        try simp only [List.getElem_toArray, List.getElem_cons_succ, List.getElem_cons_zero, Act.put, List.setIfInBounds_toArray, List.set_cons_zero, List.set_cons_succ]
        refine wpAnyH_take (i := 17) (v := .int .u8 (ay.toNat : Int)) rfl (by kernel_rfl) (by kernel_rfl) (by kernel_rfl) (fun _ _ _ h => h) (Or.inl ⟨by rfl, fun w' hw' => ?yY917⟩) HH.out ?_
        case yY917 => (have hc := hw'.2.2.2.1; go_simp; try with_reducible rfl)
        try simp only [List.getElem_toArray, List.getElem_cons_succ, List.getElem_cons_zero, Act.put, List.setIfInBounds_toArray, List.set_cons_zero, List.set_cons_succ]
        refine wpAnyH_ready (rs := [18]) (by kernel_rfl) (by simp) (AllReadyH.cons rfl (fun K hK => ?_) AllReadyH.nil)
        go_simp
        have hc := pb_rot1 (PP.out.below HB9.out) (k : Int) (am : Int) ay
        rw [HHB.out] at hc
        refine hc.mono ?_
        clear hc
        rintro e v10 ⟨rfl, s10, F10, hpb, hn, hb⟩
        have P10 := Lib.hid hpb
        have W10 := Lib.hid ((WW.out.below HB9.out).step hn hb)
        have XA10 := Lib.hid ((XA.out.below HB9.out).step hn hb)
        have XD10 := Lib.hid ((XD.out.below HB9.out).step hn hb)
        go_simp
        refine hK.out _ _ ⟨(XA10.out.1.cell 0).trans HCA.out.1, (XA10.out.1.cell 1).trans HCA.out.2.1, (XA10.out.1.cell 2).trans HCA.out.2.2.1, (XA10.out.1.cell 3).trans HCA.out.2.2.2.1, (XD10.out.1.cell 1).trans HCD.out.2⟩ (fun hh => ?_)
        have HH' := Lib.hid hh
        clear hh hK K HH hpb hn hb PP WW XA XS XD c0 c1 c2 c3 c4 e0 HTH HB9
        have HH := Lib.hid HH'.out
        clear HH'
        refine wpAnyH_take (i := 19) (v := ?vY919) rfl (by kernel_rfl) (by kernel_rfl) (by kernel_rfl) (fun _ _ _ h => h) (Or.inl ⟨by rfl, fun w' _ => ?yY919⟩) HH.out ?_
        case yY919 => (go_simp; try with_reducible rfl)
        try simp only [List.getElem_toArray, List.getElem_cons_succ, List.getElem_cons_zero, Act.put, List.setIfInBounds_toArray, List.set_cons_zero, List.set_cons_succ]
        refine wpAnyH_done (by kernel_rfl) ?_ _
        obtain ⟨rq, rn, rj, hcs, hkn, hold, hfr, hqg, hRq, hql, hset⟩ := P10.out.rm.rot1 HK.out HAM.out
        obtain ⟨od, hod⟩ : ∃ od, od = (x.l1.getD k zeroS).getD am 0 := ⟨_, rfl⟩
        rw [← hod] at hold
        have HSET := Lib.hid (show RmAt (v10.setCell ⟨rq, k * 128 + am, none⟩ (.int .u8 ((od ^^^ ay).toNat : Int))) gr (x.rot 1 (k : Int) (am : Int) ay) R from by rw [hod]; exact hset ay)
        have HSB := Lib.hid (show But R v10 (v10.setCell ⟨rq, k * 128 + am, none⟩ (.int .u8 ((od ^^^ ay).toNat : Int))) from (but_one _).mono (fun q hq => by rw [show q = rq from hq]; exact hRq))
        have HCS := Lib.hid hcs
        have HOLD := Lib.hid hold
        have HNG := Lib.hid hqg
        have rk : (k : Int) < (rn : Int) := by omega
        have HXO := Lib.hid (bits_xor8 od ay)
        have PV := Lib.hid (P10.out.refW HSET.out HSB.out)
        have WV := Lib.hid (W10.out.step (fun _ h => .inl h) (HSB.out.mono (fun q hq => .inr hq)))
        clear hcs hold hset hod hqg hRq hkn
        go_upto_region 27 with fail
        have XAV := Lib.hid (XA10.out.step (F' := F10) (fun _ h => .inl h) (HSB.out.mono (fun q hq => .inr hq)))
        have H0 := Lib.hid (show (fun w' => (w'.cell? ⟨ba, 0, none⟩ = some (.int .i64 9) ∧ w'.cell? ⟨ba, 1, none⟩ = some (.int .i64 k) ∧ w'.cell? ⟨ba, 2, none⟩ = some (.int .u8 (ax.toNat : Int)) ∧ w'.cell? ⟨ba, 3, none⟩ = some (.int .u8 (ay.toNat : Int))) ∧ w'.cell? ⟨gr, 1, none⟩ = some (.slice (some ⟨rq, 0, none⟩) rn rj)) v10.drew from ⟨⟨(XA10.out.1.cell 0).trans HCA.out.1, (XA10.out.1.cell 1).trans HCA.out.2.1, (XA10.out.1.cell 2).trans HCA.out.2.2.1, (XA10.out.1.cell 3).trans HCA.out.2.2.2.1⟩, HCS.out⟩)
        have H1 := Lib.hid (show (fun w' => w'.cell? ⟨rq, k * 128 + am, none⟩ = some (.int .u8 (od.toNat : Int))) v10.drew from HOLD.out)
        refine wp_region_late (S0 := fun w' => (w'.cell? ⟨ba, 0, none⟩ = some (.int .i64 9) ∧ w'.cell? ⟨ba, 1, none⟩ = some (.int .i64 k) ∧ w'.cell? ⟨ba, 2, none⟩ = some (.int .u8 (ax.toNat : Int)) ∧ w'.cell? ⟨ba, 3, none⟩ = some (.int .u8 (ay.toNat : Int))) ∧ w'.cell? ⟨gr, 1, none⟩ = some (.slice (some ⟨rq, 0, none⟩) rn rj)) (S := fun w' => w'.cell? ⟨rq, k * 128 + am, none⟩ = some (.int .u8 (od.toNat : Int))) (W := [22]) (by kernel_rfl) ?_
        try simp only [List.getElem_toArray, List.getElem_cons_succ, List.getElem_cons_zero, Act.put, List.setIfInBounds_toArray, List.set_cons_zero, List.set_cons_succ]
        refine wpAnyL_take0 (i := 0) (v := ?vZ90) rfl (by kernel_rfl) (by kernel_rfl) (by kernel_rfl) (fun _ _ _ h => h) (by rfl) (Or.inl ⟨by rfl, fun w' hw' => ?yZ90⟩) H0.out (.inr H1.out) ?_
        case yZ90 => (go_simp; try with_reducible rfl)
        try simp only [List.getElem_toArray, List.getElem_cons_zero, Act.put, List.setIfInBounds_toArray, List.set_cons_zero, List.set_cons_succ]
        refine wpAnyL_take0 (i := 1) (v := ?vZ91) rfl (by kernel_rfl) (by kernel_rfl) (by kernel_rfl) (fun _ _ _ h => h) (by rfl) (Or.inl ⟨by rfl, fun w' hw' => ?yZ91⟩) H0.out (.inr H1.out) ?_
        case yZ91 => (go_simp; try with_reducible rfl)
        try simp only [List.getElem_toArray, List.getElem_cons_succ, List.getElem_cons_zero, Act.put, List.setIfInBounds_toArray, List.set_cons_zero, List.set_cons_succ]
        refine wpAnyL_take0 (i := 2) (v := .int .i64 9) rfl (by kernel_rfl) (by kernel_rfl) (by kernel_rfl) (fun _ _ _ h => h) (by rfl) (Or.inl ⟨by rfl, fun w' hw' => ?yZ92⟩) H0.out (.inr H1.out) ?_
        case yZ92 => (have hc := hw'.1.1; go_simp; try with_reducible rfl)
        try simp only [List.getElem_toArray, List.getElem_cons_succ, List.getElem_cons_zero, Act.put, List.setIfInBounds_toArray, List.set_cons_zero, List.set_cons_succ]
        refine wpAnyL_take0 (i := 3) (v := .int .i64 1) rfl (by kernel_rfl) (by kernel_rfl) (by kernel_rfl) (fun _ _ _ h => h) (by rfl) (Or.inl ⟨by rfl, fun w' hw' => ?yZ93⟩) H0.out (.inr H1.out) ?_
        case yZ93 => (go_simp; try with_reducible rfl)
        try simp only [List.getElem_toArray, List.getElem_cons_succ, List.getElem_cons_zero, Act.put, List.setIfInBounds_toArray, List.set_cons_zero, List.set_cons_succ]
        refine wpAnyL_take0 (i := 4) (v := ?vZ94) rfl (by kernel_rfl) (by kernel_rfl) (by kernel_rfl) (fun _ _ _ h => h) (by rfl) (Or.inl ⟨by rfl, fun w' hw' => ?yZ94⟩) H0.out (.inr H1.out) ?_
        case yZ94 => (go_simp; try with_reducible rfl)
        try simp only [List.getElem_toArray, List.getElem_cons_succ, List.getElem_cons_zero, Act.put, List.setIfInBounds_toArray, List.set_cons_zero, List.set_cons_succ]
        refine wpAnyL_take0 (i := 5) (v := ?vZ95) rfl (by kernel_rfl) (by kernel_rfl) (by kernel_rfl) (fun _ _ _ h => h) (by rfl) (Or.inl ⟨by rfl, fun w' hw' => ?yZ95⟩) H0.out (.inr H1.out) ?_
        case yZ95 => (go_simp; try with_reducible rfl)
        try simp only [List.getElem_toArray, List.getElem_cons_succ, List.getElem_cons_zero, Act.put, List.setIfInBounds_toArray, List.set_cons_zero, List.set_cons_succ]
        refine wpAnyL_take0 (i := 6) (v := ?vZ96) rfl (by kernel_rfl) (by kernel_rfl) (by kernel_rfl) (fun _ _ _ h => h) (by rfl) (Or.inl ⟨by rfl, fun w' hw' => ?yZ96⟩) H0.out (.inr H1.out) ?_
        case yZ96 => (go_simp; try with_reducible rfl)
        try simp only [List.getElem_toArray, List.getElem_cons_succ, List.getElem_cons_zero, Act.put, List.setIfInBounds_toArray, List.set_cons_zero, List.set_cons_succ]
        refine wpAnyL_take0 (i := 7) (v := .slice (some ⟨rq, 0, none⟩) rn rj) rfl (by kernel_rfl) (by kernel_rfl) (by kernel_rfl) (fun _ _ _ h => h) (by rfl) (Or.inl ⟨by rfl, fun w' hw' => ?yZ97⟩) H0.out (.inr H1.out) ?_
        case yZ97 => (have hc := hw'.2; go_simp; try with_reducible rfl)
        try simp only [List.getElem_toArray, List.getElem_cons_succ, List.getElem_cons_zero, Act.put, List.setIfInBounds_toArray, List.set_cons_zero, List.set_cons_succ]
        refine wpAnyL_take0 (i := 8) (v := ?vZ98) rfl (by kernel_rfl) (by kernel_rfl) (by kernel_rfl) (fun _ _ _ h => h) (by rfl) (Or.inl ⟨by rfl, fun w' hw' => ?yZ98⟩) H0.out (.inr H1.out) ?_
        case yZ98 => (go_simp; try with_reducible rfl)
        try simp only [List.getElem_toArray, List.getElem_cons_succ, List.getElem_cons_zero, Act.put, List.setIfInBounds_toArray, List.set_cons_zero, List.set_cons_succ]
        refine wpAnyL_take0 (i := 9) (v := .int .i64 k) rfl (by kernel_rfl) (by kernel_rfl) (by kernel_rfl) (fun _ _ _ h => h) (by rfl) (Or.inl ⟨by rfl, fun w' hw' => ?yZ99⟩) H0.out (.inr H1.out) ?_
        case yZ99 => (have hc := hw'.1.2.1; go_simp; try with_reducible rfl)
        try simp only [List.getElem_toArray, List.getElem_cons_succ, List.getElem_cons_zero, Act.put, List.setIfInBounds_toArray, List.set_cons_zero, List.set_cons_succ]
        refine wpAnyL_take0 (i := 10) (v := ?vZ910) rfl (by kernel_rfl) (by kernel_rfl) (by kernel_rfl) (fun _ _ _ h => h) (by rfl) (Or.inl ⟨by rfl, fun w' hw' => ?yZ910⟩) H0.out (.inr H1.out) ?_
        case yZ910 => (go_simp; try with_reducible rfl)
        try simp only [List.getElem_toArray, List.getElem_cons_succ, List.getElem_cons_zero, Act.put, List.setIfInBounds_toArray, List.set_cons_zero, List.set_cons_succ]
        refine wpAnyL_take0 (i := 11) (v := .int .u8 (ax.toNat : Int)) rfl (by kernel_rfl) (by kernel_rfl) (by kernel_rfl) (fun _ _ _ h => h) (by rfl) (Or.inl ⟨by rfl, fun w' hw' => ?yZ911⟩) H0.out (.inr H1.out) ?_
        case yZ911 => (have hc := hw'.1.2.2.1; go_simp; try with_reducible rfl)
        try simp only [List.getElem_toArray, List.getElem_cons_succ, List.getElem_cons_zero, Act.put, List.setIfInBounds_toArray, List.set_cons_zero, List.set_cons_succ]
        refine wpAnyL_take0 (i := 12) (v := .int .i64 (ax.toNat : Int)) rfl (by kernel_rfl) (by kernel_rfl) (by kernel_rfl) (fun _ _ _ h => h) (by rfl) (Or.inl ⟨by rfl, fun w' hw' => ?yZ912⟩) H0.out (.inr H1.out) ?_
        case yZ912 => (go_simp; try with_reducible rfl)
        try simp only [List.getElem_toArray, List.getElem_cons_succ, List.getElem_cons_zero, Act.put, List.setIfInBounds_toArray, List.set_cons_zero, List.set_cons_succ]
        refine wpAnyL_take0 (i := 13) (v := .int .i64 (am : Int)) rfl (by kernel_rfl) (by kernel_rfl) (by kernel_rfl) (fun _ _ _ h => h) (by rfl) (Or.inl ⟨by rfl, fun w' hw' => ?yZ913⟩) H0.out (.inr H1.out) ?_
        case yZ913 => (go_simp; try with_reducible rfl)
        try simp only [List.getElem_toArray, List.getElem_cons_succ, List.getElem_cons_zero, Act.put, List.setIfInBounds_toArray, List.set_cons_zero, List.set_cons_succ]
        refine wpAnyL_take0 (i := 14) (v := .pointer (some ⟨rq, k * 128, none⟩)) rfl (by kernel_rfl) (by kernel_rfl) (by kernel_rfl) (fun _ _ _ h => h) (by rfl) (Or.inl ⟨by rfl, fun w' hw' => ?yZ914⟩) H0.out (.inr H1.out) ?_
        case yZ914 => (go_simp; try with_reducible rfl)
        try simp only [List.getElem_toArray, List.getElem_cons_succ, List.getElem_cons_zero, Act.put, List.setIfInBounds_toArray, List.set_cons_zero, List.set_cons_succ]
        refine wpAnyL_take0 (i := 15) (v := .pointer (some ⟨rq, k * 128 + am, none⟩)) rfl (by kernel_rfl) (by kernel_rfl) (by kernel_rfl) (fun _ _ _ h => h) (by rfl) (Or.inl ⟨by rfl, fun w' hw' => ?yZ915⟩) H0.out (.inr H1.out) ?_
        case yZ915 => (go_simp; try with_reducible rfl)
        try simp only [List.getElem_toArray, List.getElem_cons_succ, List.getElem_cons_zero, Act.put, List.setIfInBounds_toArray, List.set_cons_zero, List.set_cons_succ]
        refine wpAnyL_take (i := 16) (v := .int .u8 (od.toNat : Int)) rfl (by kernel_rfl) (by kernel_rfl) (by kernel_rfl) (fun _ _ _ h => h) (by kernel_rfl) (by rfl) (by kernel_rfl) (Or.inl ⟨by rfl, fun w' hw' => ?yZ916⟩) ⟨H0.out, H1.out⟩ ?_
        case yZ916 => (have hc := hw'.2; go_simp; try with_reducible rfl)
        try simp only [List.getElem_toArray, List.getElem_cons_succ, List.getElem_cons_zero, Act.put, List.setIfInBounds_toArray, List.set_cons_zero, List.set_cons_succ]
        refine wpAnyL_take0 (i := 17) (v := ?vZ917) rfl (by kernel_rfl) (by kernel_rfl) (by kernel_rfl) (fun _ _ _ h => h) (by rfl) (Or.inl ⟨by rfl, fun w' hw' => ?yZ917⟩) H0.out (.inr H1.out) ?_
        case yZ917 => (go_simp; try with_reducible rfl)
        try simp only [List.getElem_toArray, List.getElem_cons_succ, List.getElem_cons_zero, Act.put, List.setIfInBounds_toArray, List.set_cons_zero, List.set_cons_succ]
        refine wpAnyL_take0 (i := 18) (v := .int .u8 (ay.toNat : Int)) rfl (by kernel_rfl) (by kernel_rfl) (by kernel_rfl) (fun _ _ _ h => h) (by rfl) (Or.inl ⟨by rfl, fun w' hw' => ?yZ918⟩) H0.out (.inr H1.out) ?_
        case yZ918 => (have hc := hw'.1.2.2.2; go_simp; try with_reducible rfl)
        try simp only [List.getElem_toArray, List.getElem_cons_succ, List.getElem_cons_zero, Act.put, List.setIfInBounds_toArray, List.set_cons_zero, List.set_cons_succ]
        refine wpAnyL_take0 (i := 19) (v := .int .u8 ((od ^^^ ay).toNat : Int)) rfl (by kernel_rfl) (by kernel_rfl) (by kernel_rfl) (fun _ _ _ h => h) (by rfl) (Or.inl ⟨by rfl, fun w' hw' => ?yZ919⟩) H0.out (.inr H1.out) ?_
        case yZ919 => (go_simp; try rw [HXO.out]; try rw [UInt8.toNat_xor]; try with_reducible rfl)
        try simp only [List.getElem_toArray, List.getElem_cons_succ, List.getElem_cons_zero, Act.put, List.setIfInBounds_toArray, List.set_cons_zero, List.set_cons_succ]
        refine wpAnyL_take0 (i := 20) (v := .pointer (some ⟨rq, k * 128, none⟩)) rfl (by kernel_rfl) (by kernel_rfl) (by kernel_rfl) (fun _ _ _ h => h) (by rfl) (Or.inl ⟨by rfl, fun w' hw' => ?yZ920⟩) H0.out (.inr H1.out) ?_
        case yZ920 => (go_simp; try with_reducible rfl)
        try simp only [List.getElem_toArray, List.getElem_cons_succ, List.getElem_cons_zero, Act.put, List.setIfInBounds_toArray, List.set_cons_zero, List.set_cons_succ]
        refine wpAnyL_take0 (i := 21) (v := .pointer (some ⟨rq, k * 128 + am, none⟩)) rfl (by kernel_rfl) (by kernel_rfl) (by kernel_rfl) (fun _ _ _ h => h) (by rfl) (Or.inl ⟨by rfl, fun w' hw' => ?yZ921⟩) H0.out (.inr H1.out) ?_
        case yZ921 => (go_simp; try with_reducible rfl)
        try simp only [List.getElem_toArray, List.getElem_cons_succ, List.getElem_cons_zero, Act.put, List.setIfInBounds_toArray, List.set_cons_zero, List.set_cons_succ]
        have cg := HOLD.out
        have fg := hfr
        have lg := hql
        refine wpAnyL_ready (rs := [22]) (by kernel_rfl) (by simp) (AllReadyL.cons rfl (fun K hK => ?_) AllReadyL.nil)
        go_simp
        obtain ⟨vv, hvv⟩ : ∃ vv, vv = v10.setCell ⟨rq, k * 128 + am, none⟩ (.int .u8 ((od ^^^ ay).toNat : Int)) := ⟨_, rfl⟩
        try rw [UInt8.toNat_xor] at hvv
        try rw [← hvv]
        have HCV := Lib.hid (show vv.cell? ⟨gr, 1, none⟩ = some (.slice (some ⟨rq, 0, none⟩) rn rj) from by rw [hvv]; exact cell_other HCS.out (fun e => HNG.out e.symm))
        try rw [← UInt8.toNat_xor] at hvv
        rw [← hvv] at PV WV XAV
        refine hK.out _ _ ⟨⟨⟨((XAV.out.1.below (Below.refl _ _).drew).cell 0).trans HCA.out.1, ((XAV.out.1.below (Below.refl _ _).drew).cell 1).trans HCA.out.2.1, ((XAV.out.1.below (Below.refl _ _).drew).cell 2).trans HCA.out.2.2.1, ((XAV.out.1.below (Below.refl _ _).drew).cell 3).trans HCA.out.2.2.2.1⟩, HCV.out⟩, .inl ⟨22, by simp, by rfl⟩⟩ ?_
        clear hK K cg fg lg hvv
        try simp only [List.getElem_toArray, List.getElem_cons_succ, List.getElem_cons_zero, Act.put, List.setIfInBounds_toArray, List.set_cons_zero, List.set_cons_succ]
        refine wpAnyL_done (by kernel_rfl) ?_ _
        go_wp2_with fail
        go_meet
        exact ⟨rfl, 0, by omega, played (PV.out.below (Below.refl _ _).drew) (rot_lenA _ _ _ _ _) (WV.out.below (Below.refl _ _).drew)⟩
    go_wp2_with fail
    go_meet
    exact ⟨rfl, 0, by omega, played PP.out (rfl) WW.out⟩
  case rest =>
    obtain ⟨rfl, m1, hm1, x1, s1, F1, hpb, hla, hnw, hbt⟩ := hcut
    have PA := Lib.hid hpb
    have HLA := Lib.hid hla
    have HNW := Lib.hid hnw
    have HBT := Lib.hid hbt
    clear hm1 hpb hla hnw hbt PP XA XD XS BW
    go_wp2_with fail
    refine (pb_flush PA.out).mono ?_
    rintro e w5 ⟨rfl, s5, F5, hpb, hn5, hb5⟩
    have PB5 := Lib.hid hpb
    have HN5 := Lib.hid hn5
    have HB5 := Lib.hid hb5
    clear hpb hn5 hb5 PA
    obtain ⟨o0, ho0⟩ : ∃ o0, o0 = x1.o0 := ⟨_, rfl⟩
    obtain ⟨o1, ho1⟩ : ∃ o1, o1 = x1.o1 := ⟨_, rfl⟩
    have HO0 := Lib.hid ho0
    have HO1 := Lib.hid ho1
    rw [← ho0, ← ho1]
    obtain ⟨fe, hfe⟩ : ∃ fe : Int, fe = (if (o0 && o1) = true then 13 else 0) := ⟨_, rfl⟩
    rw [← hfe]
    have HFE := Lib.hid hfe
    clear ho0 ho1 hfe
    go_wp2_with fail
    refine (lm_stale PB5.out.lm).mono ?_
    rintro e w6 ⟨rfl, bw⟩
    have PB6 := Lib.hid (PB5.out.below bw)
    have BW6 := Lib.hid bw
    clear bw
    obtain ⟨na, hna⟩ : ∃ na, na = cnt x1.a := ⟨_, rfl⟩
    obtain ⟨nb, hnb⟩ : ∃ nb, nb = cnt x1.b := ⟨_, rfl⟩
    have HC0 := Lib.hid (show ∀ W, Below w6.heap.size w6 W → Calls Try.prog 71 #[.pointer (some ⟨gr, 0, none⟩), .int .i64 0] W (RetB (.int .i64 na) W) from fun W hb => by rw [hna]; exact rcount0_any (PB6.out.rm.below hb))
    have HC1 := Lib.hid (show ∀ W, Below w6.heap.size w6 W → Calls Try.prog 71 #[.pointer (some ⟨gr, 0, none⟩), .int .i64 1] W (RetB (.int .i64 nb) W) from fun W hb => by rw [hnb]; exact rcount1_any (PB6.out.rm.below hb))
    rw [← hna, ← hnb]
    have d0 : w6.cell? ⟨gr, 2, none⟩ = some (.bool o0) := by rw [HO0.out]; exact PB6.out.rm.out0
    have d1 : w6.cell? ⟨gr, 3, none⟩ = some (.bool o1) := by rw [HO1.out]; exact PB6.out.rm.out1
    have HPF := Lib.hid (show ∀ w7, Below w6.heap.size w6 w7 → Played p1 g1 p2 g2 g gr w0 R x.a.length F w w7 0 from fun w7 hb => ⟨x1, s5, F5, PB6.out.below hb, HLA.out, fun q hq => by
      rcases HN5.out q hq with h1 | h1
      · exact HNW.out q h1
      · exact .inr (Nat.le_trans HBT.out.size h1), by
      have h5 : But (fun q => F q ∨ R q) w w5 := Kd.but_step HBT.out HB5.out (fun q hq => by
        rcases hq with h1 | h1
        · rcases HNW.out q h1 with h2 | h2
          · exact .inl (.inl h2)
          · exact .inr h2
        · exact .inl (.inr h1))
      exact h5.trans (but_below (BW6.out.trans (hb.mono BW6.out.size)))⟩)
    clear hna hnb PB5 PB6
    cases o0 <;> cases o1

    ·
      obtain rfl : fe = 0 := HFE.out
      clear HFE
      go_wp2_with fail
      refine (HC0.out _ (Below.refl _ _)).mono ?_
      rintro e w7 ⟨rfl, bw7⟩
      go_wp2_with fail
      refine (HC1.out _ bw7).mono ?_
      rintro e w8 ⟨rfl, bw8⟩
      go_wp2_with fail
      go_ret
      exact ⟨rfl, HPF.out _ (bw7.trans (bw8.mono bw7.size))⟩
    ·
      obtain rfl : fe = 0 := HFE.out
      clear HFE
      go_wp2_with fail
      refine (HC0.out _ (Below.refl _ _)).mono ?_
      rintro e w7 ⟨rfl, bw7⟩
      go_wp2_with fail
      refine (HC1.out _ bw7).mono ?_
      rintro e w8 ⟨rfl, bw8⟩
      go_wp2_with fail
      go_ret
      exact ⟨rfl, HPF.out _ (bw7.trans (bw8.mono bw7.size))⟩
    ·
      obtain rfl : fe = 0 := HFE.out
      clear HFE
      go_wp2_with fail
      refine (HC0.out _ (Below.refl _ _)).mono ?_
      rintro e w7 ⟨rfl, bw7⟩
      go_wp2_with fail
      refine (HC1.out _ bw7).mono ?_
      rintro e w8 ⟨rfl, bw8⟩
      go_wp2_with fail
      go_ret
      exact ⟨rfl, HPF.out _ (bw7.trans (bw8.mono bw7.size))⟩
    ·
      obtain rfl : fe = 13 := HFE.out
      clear HFE
      go_wp2_with fail
      refine (HC0.out _ (Below.refl _ _)).mono ?_
      rintro e w7 ⟨rfl, bw7⟩
      go_wp2_with fail
      refine (HC1.out _ bw7).mono ?_
      rintro e w8 ⟨rfl, bw8⟩
      go_wp2_with fail
      go_ret
      exact ⟨rfl, HPF.out _ (bw7.trans (bw8.mono bw7.size))⟩
end
end Go.Proofs.Ytdjiagcnaogebaa.Mr
/-
  The laws' example, awake.
-/
namespace Go.Proofs.Ytdjiagcnaogebaa.Mi
open Go.RowKit Kd
attribute [local go_sem ↓] Go.wp_at_zero Go.wp_at_succ
def mw0 : Md := Md.new 5
def mw1 : Md := (mw0.write 3 (secN 1 0)).2
def mw2 : Md := mw1.rot 0 3 0 1
def mw3 : Md := (mw2.heal goodN 3).2
theorem mw_facts : (mw0.write 3 (secN 1 0)).1 = 0 ∧ (mw1.o0 && mw1.o1) = false ∧ hasByte mw1.a.length 3 0 = true ∧ mw2.read goodN 3 = (secN 1 0, 0) ∧ (mw2.heal goodN 3).1 = (1, 0) := by decide +kernel
theorem sec_size (x y : UInt8) : (Try.prog.info? 38).map (·.size) = some (bva (secN x y)).size := by rw [bva_size, secN_length]; exact info_sec
set_option maxRecDepth 100000 in
set_option maxHeartbeats 6400000 in
theorem awake_any (w : World) : Calls Try.prog 19 #[] w (RetB (.bool true) w) := by
  obtain ⟨f1, f2, f3, f4, f5⟩ := mw_facts
  have HF1 := Lib.hid f1
  have HF2 := Lib.hid f2
  have HF3 := Lib.hid f3
  have HF4 := Lib.hid f4
  have HF5 := Lib.hid f5
  clear f1 f2 f3 f4 f5
  obtain ⟨z, hz0⟩ : ∃ z : List UInt8, z = zeroS := ⟨_, rfl⟩
  have hz : ∀ W, (zeroValue 38).run Try.prog W = .ok (.agg (bva z)) W := fun _ => by rw [hz0]; kernel_rfl
  have HZ3 := Lib.hid (show z.length = 128 by rw [hz0]; exact zeroS_length)
  clear hz0
  obtain ⟨y, hy⟩ : ∃ y, y = secN 1 0 := ⟨_, rfl⟩
  have HY := Lib.hid hy
  have HY3 := Lib.hid (show y.length = 128 by rw [hy]; exact secN_length _ _)
  have HIY := Lib.hid (show (Try.prog.info? 38).map (·.size) = some (bva y).size by rw [hy]; exact sec_size _ _)
  have HSY := Lib.hid (show ∀ w, Calls Try.prog 33 #[.int .u8 1, .int .u8 0] w (RetB (.agg (bva y)) w) from fun w => by rw [hy]; exact sector9_any w 1 0)
  have HW1 := Lib.hid (show (mw0.write 3 y).2 = mw1 by rw [hy]; rfl)
  rw [← hy] at HF1 HF4
  have heq := eq_sec y y HY3.out HY3.out
  rw [decide_eq_true (rfl : y = y)] at heq
  have HQ := Lib.hid heq
  clear heq hy
  go_enter Try.func19, Try.ntmps19
  go_wp2_with fail
  refine (live_new0 5).mono ?_
  rintro e w1 ⟨p1, g1, rfl, F1, h⟩
  have H1 := Lib.hid h
  clear h
  go_wp2_with fail
  refine (live_new0 5).mono ?_
  rintro e w2 ⟨p2, g2, rfl, F2, h⟩
  have HD2 := Lib.hid (ld_new H1.out h (see_new 5 (by omega)) (see_new 5 (by omega)))
  clear h H1
  go_wp2_with fail
  refine (lm_new (G := gG) (fun _ _ _ _ _ _ => trivial) HD2.out (n := 5) rfl rfl).mono ?_
  rintro e w3 ⟨g, s3, F3, rfl, h, hn, hb⟩
  have H3 := Lib.hid (show LM p1 g1 p2 g2 gG g w w3 s3 F3 mw0 0 from h)
  clear h hn hb HD2
  go_wp2_with fail
  have hc := HSY.out w3
  refine hc.mono ?_
  clear hc
  rintro e w4 ⟨rfl, bw⟩
  have H4 := Lib.hid (H3.out.below bw)
  clear bw H3
  go_wp2_with fail
  have hc := lm_write H4.out 3 y HY3.out (by omega)
  rw [HF1.out, HW1.out] at hc
  refine hc.mono ?_
  clear hc
  rintro e w5 ⟨rfl, s5, F5, h, hm5⟩
  have H5 := Lib.hid (show LM p1 g1 p2 g2 gG g w w5 s5 F5 mw1 (0 + 2) from h)
  clear h hm5 H4
  go_wp2_with fail
  have hc := lm_flush H5.out
  rw [HF2.out, if_neg (by simp)] at hc
  refine hc.mono ?_
  clear hc
  rintro e w6 ⟨rfl, s6, F6, h, hm6⟩
  have H6 := Lib.hid (show LM p1 g1 p2 g2 gG g w w6 s6 F6 mw1 0 from h)
  clear h hm6 H5
  go_wp2_with fail
  have hc := lm_rot0 H6.out 3 0 1
  rw [HF3.out] at hc
  refine hc.mono ?_
  clear hc
  rintro e w7 ⟨rfl, s7, F7, h, hm7⟩
  have H7 := Lib.hid (show LM p1 g1 p2 g2 gG g w w7 s7 F7 mw2 0 from h)
  clear h hm7 H6
  go_wp2_with fail
  have hc := lm_read H7.out 3
  rw [show Md.read gG.f mw2 3 = (y, 0) from HF4.out] at hc
  refine hc.mono ?_
  clear hc
  rintro e w8 ⟨rfl, s8, F8, h, hm8⟩
  have H8 := Lib.hid (show LM p1 g1 p2 g2 gG g w w8 s8 F8 mw2 0 from h)
  clear h hm8 H7
  go_wp2_with (show wpList _ _ _ ({ dst := none, op := .store 38 (.tmp 6) (.tmp 26), type := _, pos := _, after := _, guard := _ } :: _) _ _; apply Classical.byContradiction; intro hneg)
  refine hneg ?_
  clear hneg
  refine wpList_store_row rfl 38 (.tmp 6) (.tmp 26) rfl w8.heap.size (bva y) rfl rfl 38 (bva z) (heap_alloc_new _ _) HIY.out (by rw [bva_size, bva_size, HY3.out, HZ3.out]) (bva_one _) ?_
  obtain ⟨w9, hw9⟩ : ∃ w9, w9 = (w8.alloc (.cells (bva z) 38)).setRow w8.heap.size (bva y) := ⟨_, rfl⟩
  have bw : Below w8.heap.size w8 w9 := by rw [hw9]; exact below_setRow ((Below.refl _ _).alloc (Nat.le_refl _) _) (Nat.le_refl _) _
  have hbx : Blk w9 w8.heap.size (bva y) 38 := by rw [hw9]; exact setRow_heap _ _ _ _ _ _ (heap_alloc_new _ _)
  rw [← hw9]
  clear hw9
  obtain ⟨b9, hb9⟩ : ∃ b9, b9 = w8.heap.size := ⟨_, rfl⟩
  rw [← hb9] at hbx
  rw [← hb9]
  have BX9 := Lib.hid (show Bx w w9 F8 b9 (bva y) 38 from ⟨hbx, by rw [hb9]; exact H8.out.live.bel.size, fun hf => by have := (ML (Two p1 g1 p2 g2) gG g).lt H8.out.live.at_ _ hf; omega⟩)
  clear hb9 hbx
  have H9 := Lib.hid (H8.out.below bw)
  clear bw H8
  go_wp2_with fail
  have hc := lm_heal H9.out 3 (by omega)
  rw [show (Md.heal gG.f mw2 3).1 = (1, 0) from HF5.out, show tup2 (1, 0) = .tuple #[.int .i64 1, .int .i64 0] from rfl] at hc
  refine hc.mono ?_
  clear hc
  rintro e w10 ⟨rfl, s10, F10, h, hm10⟩
  have H10 := Lib.hid (show LM p1 g1 p2 g2 gG g w w10 s10 F10 mw3 (0 + 1) from h)
  have BX10 := Lib.hid (BX9.out.step hm10)
  clear h hm10 H9 BX9
  go_wp2_with fail
  refine wp_region_held_drew (S := fun w' => Below w10.heap.size w10 w') (by kernel_rfl) (Below.refl _ _).drew (fun hh => ?_)
  have HH := Lib.hid hh
  clear hh
  refine wpAnyH_take (i := 0) (v := ?vA0) rfl (by kernel_rfl) (by kernel_rfl) (by kernel_rfl) (fun _ _ _ h => h) (Or.inl ⟨by rfl, fun w' _ => ?yA0⟩) HH.out ?_
  case yA0 => (go_simp; try with_reducible rfl)
  refine wpAnyH_take (i := 1) (v := ?vA1) rfl (by kernel_rfl) (by kernel_rfl) (by kernel_rfl) (fun _ _ _ h => h) (Or.inl ⟨by rfl, fun w' _ => ?yA1⟩) HH.out ?_
  case yA1 => (go_simp; try with_reducible rfl)
  try simp only [List.getElem_toArray, List.getElem_cons_succ, List.getElem_cons_zero, Act.put, List.setIfInBounds_toArray, List.set_cons_zero, List.set_cons_succ]
  refine wpAnyH_take (i := 2) (v := ?vA2) rfl (by kernel_rfl) (by kernel_rfl) (by kernel_rfl) (fun _ _ _ h => h) (Or.inl ⟨by rfl, fun w' _ => ?yA2⟩) HH.out ?_
  case yA2 => (go_simp; try with_reducible rfl)
  try simp only [List.getElem_toArray, List.getElem_cons_succ, List.getElem_cons_zero, Act.put, List.setIfInBounds_toArray, List.set_cons_zero, List.set_cons_succ]
  refine wpAnyH_take (i := 3) (v := ?vA3) rfl (by kernel_rfl) (by kernel_rfl) (by kernel_rfl) (fun _ _ _ h => h) (Or.inl ⟨by rfl, fun w' _ => ?yA3⟩) HH.out ?_
  case yA3 => (go_simp; try with_reducible rfl)
  try simp only [List.getElem_toArray, List.getElem_cons_succ, List.getElem_cons_zero, Act.put, List.setIfInBounds_toArray, List.set_cons_zero, List.set_cons_succ]
  refine wpAnyH_take (i := 4) (v := ?vA4) rfl (by kernel_rfl) (by kernel_rfl) (by kernel_rfl) (fun _ _ _ h => h) (Or.inl ⟨by rfl, fun w' _ => ?yA4⟩) HH.out ?_
  case yA4 => (go_simp; try with_reducible rfl)
  try simp only [List.getElem_toArray, List.getElem_cons_succ, List.getElem_cons_zero, Act.put, List.setIfInBounds_toArray, List.set_cons_zero, List.set_cons_succ]
  refine wpAnyH_take (i := 5) (v := ?vA5) rfl (by kernel_rfl) (by kernel_rfl) (by kernel_rfl) (fun _ _ _ h => h) (Or.inl ⟨by rfl, fun w' _ => ?yA5⟩) HH.out ?_
  case yA5 => (go_simp; try with_reducible rfl)
  refine wpAnyH_take (i := 6) (v := ?vA6) rfl (by kernel_rfl) (by kernel_rfl) (by kernel_rfl) (fun _ _ _ h => h) (Or.inl ⟨by rfl, fun w' _ => ?yA6⟩) HH.out ?_
  case yA6 => (go_simp; try with_reducible rfl)
  try simp only [List.getElem_toArray, List.getElem_cons_succ, List.getElem_cons_zero, Act.put, List.setIfInBounds_toArray, List.set_cons_zero, List.set_cons_succ]
  refine wpAnyH_take (i := 7) (v := ?vA7) rfl (by kernel_rfl) (by kernel_rfl) (by kernel_rfl) (fun _ _ _ h => h) (Or.inl ⟨by rfl, fun w' _ => ?yA7⟩) HH.out ?_
  case yA7 => (go_simp; try with_reducible rfl)
  try simp only [List.getElem_toArray, List.getElem_cons_succ, List.getElem_cons_zero, Act.put, List.setIfInBounds_toArray, List.set_cons_zero, List.set_cons_succ]
  refine wpAnyH_take (i := 8) (v := ?vA8) rfl (by kernel_rfl) (by kernel_rfl) (by kernel_rfl) (fun _ _ _ h => h) (Or.inl ⟨by rfl, fun w' _ => ?yA8⟩) HH.out ?_
  case yA8 => (go_simp; try with_reducible rfl)
  refine wpAnyH_take (i := 9) (v := ?vA9) rfl (by kernel_rfl) (by kernel_rfl) (by kernel_rfl) (fun _ _ _ h => h) (Or.inl ⟨by rfl, fun w' _ => ?yA9⟩) HH.out ?_
  case yA9 => (go_simp; try with_reducible rfl)
  refine wpAnyH_take (i := 10) (v := ?vA10) rfl (by kernel_rfl) (by kernel_rfl) (by kernel_rfl) (fun _ _ _ h => h) (Or.inl ⟨by rfl, fun w' _ => ?yA10⟩) HH.out ?_
  case yA10 => (go_simp; try with_reducible rfl)
  try simp only [List.getElem_toArray, List.getElem_cons_succ, List.getElem_cons_zero, Act.put, List.setIfInBounds_toArray, List.set_cons_zero, List.set_cons_succ]
  refine wpAnyH_take (i := 11) (v := ?vA11) rfl (by kernel_rfl) (by kernel_rfl) (by kernel_rfl) (fun _ _ _ h => h) (Or.inl ⟨by rfl, fun w' _ => ?yA11⟩) HH.out ?_
  case yA11 => (go_simp; try with_reducible rfl)
  try simp only [List.getElem_toArray, List.getElem_cons_succ, List.getElem_cons_zero, Act.put, List.setIfInBounds_toArray, List.set_cons_zero, List.set_cons_succ]
  refine wpAnyH_take (i := 12) (v := ?vA12) rfl (by kernel_rfl) (by kernel_rfl) (by kernel_rfl) (fun _ _ _ h => h) (Or.inl ⟨by rfl, fun w' _ => ?yA12⟩) HH.out ?_
  case yA12 => (go_simp; try with_reducible rfl)
  refine wpAnyH_take (i := 13) (v := ?vA13) rfl (by kernel_rfl) (by kernel_rfl) (by kernel_rfl) (fun _ _ _ h => h) (Or.inl ⟨by rfl, fun w' _ => ?yA13⟩) HH.out ?_
  case yA13 => (go_simp; try with_reducible rfl)
  try simp only [List.getElem_toArray, List.getElem_cons_succ, List.getElem_cons_zero, Act.put, List.setIfInBounds_toArray, List.set_cons_zero, List.set_cons_succ]
  refine wpAnyH_take (i := 14) (v := ?vA14) rfl (by kernel_rfl) (by kernel_rfl) (by kernel_rfl) (fun _ _ _ h => h) (Or.inl ⟨by rfl, fun w' _ => ?yA14⟩) HH.out ?_
  case yA14 => (go_simp; try with_reducible rfl)
  refine wpAnyH_take (i := 15) (v := .agg (bva y)) rfl (by kernel_rfl) (by kernel_rfl) (by kernel_rfl) (fun _ _ _ h => h) (Or.inl ⟨by rfl, fun w' hw' => ?yA15⟩) HH.out ?_
  case yA15 => exact exec_load 38 (.tmp 6) rfl rfl (BX10.out.1.below hw') Try.underlying38 rfl HIY.out
  try simp only [List.getElem_toArray, List.getElem_cons_succ, List.getElem_cons_zero, Act.put, List.setIfInBounds_toArray, List.set_cons_zero, List.set_cons_succ]
  refine wpAnyH_ready (rs := [16]) (by kernel_rfl) (by simp) (AllReadyH.cons rfl (fun K hK => ?_) AllReadyH.nil)
  go_simp
  refine (HSY.out _).mono ?_
  rintro e v1 ⟨rfl, bw1⟩
  go_simp
  refine hK.out _ _ (HH.out.trans (bw1.mono HH.out.size)) (fun hh => ?_)
  have HH' := Lib.hid hh
  clear hh hK K HH bw1
  have HH := Lib.hid HH'.out
  clear HH'
  try simp only [List.getElem_toArray, List.getElem_cons_succ, List.getElem_cons_zero, Act.put, List.setIfInBounds_toArray, List.set_cons_zero, List.set_cons_succ]
  refine wpAnyH_take (i := 17) (v := .bool true) rfl (by kernel_rfl) (by kernel_rfl) (by kernel_rfl) (fun _ _ _ h => h) (Or.inl ⟨by rfl, fun w' hw' => ?yA17⟩) HH.out ?_
  case yA17 => (go_simp; rw [HQ.out]; rfl)
  refine wpAnyH_take (i := 18) (v := ?vA18) rfl (by kernel_rfl) (by kernel_rfl) (by kernel_rfl) (fun _ _ _ h => h) (Or.inl ⟨by rfl, fun w' _ => ?yA18⟩) HH.out ?_
  case yA18 => (go_simp; try with_reducible rfl)
  refine wpAnyH_take (i := 19) (v := ?vA19) rfl (by kernel_rfl) (by kernel_rfl) (by kernel_rfl) (fun _ _ _ h => h) (Or.inl ⟨by rfl, fun w' _ => ?yA19⟩) HH.out ?_
  case yA19 => (go_simp; try with_reducible rfl)
  try simp only [List.getElem_toArray, List.getElem_cons_succ, List.getElem_cons_zero, Act.put, List.setIfInBounds_toArray, List.set_cons_zero, List.set_cons_succ]
  refine wpAnyH_take (i := 20) (v := ?vA20) rfl (by kernel_rfl) (by kernel_rfl) (by kernel_rfl) (fun _ _ _ h => h) (Or.inl ⟨by rfl, fun w' _ => ?yA20⟩) HH.out ?_
  case yA20 => (go_simp; try with_reducible rfl)
  try simp only [List.getElem_toArray, List.getElem_cons_succ, List.getElem_cons_zero, Act.put, List.setIfInBounds_toArray, List.set_cons_zero, List.set_cons_succ]
  refine wpAnyH_take (i := 21) (v := ?vA21) rfl (by kernel_rfl) (by kernel_rfl) (by kernel_rfl) (fun _ _ _ h => h) (Or.inl ⟨by rfl, fun w' _ => ?yA21⟩) HH.out ?_
  case yA21 => (go_simp; try with_reducible rfl)
  refine wpAnyH_take (i := 22) (v := ?vA22) rfl (by kernel_rfl) (by kernel_rfl) (by kernel_rfl) (fun _ _ _ h => h) (Or.inl ⟨by rfl, fun w' _ => ?yA22⟩) HH.out ?_
  case yA22 => (go_simp; try with_reducible rfl)
  try simp only [List.getElem_toArray, List.getElem_cons_succ, List.getElem_cons_zero, Act.put, List.setIfInBounds_toArray, List.set_cons_zero, List.set_cons_succ]
  refine wpAnyH_take (i := 23) (v := ?vA23) rfl (by kernel_rfl) (by kernel_rfl) (by kernel_rfl) (fun _ _ _ h => h) (Or.inl ⟨by rfl, fun w' _ => ?yA23⟩) HH.out ?_
  case yA23 => (go_simp; try with_reducible rfl)
  try simp only [List.getElem_toArray, List.getElem_cons_succ, List.getElem_cons_zero, Act.put, List.setIfInBounds_toArray, List.set_cons_zero]
  refine wpAnyH_done (by kernel_rfl) ?_ _
  go_wp2_with fail
  go_ret
  exact ⟨rfl, H10.out.live.bel.trans (HH.out.mono H10.out.live.bel.size)⟩
end Go.Proofs.Ytdjiagcnaogebaa.Mi
/-
  How an array of numbers that came in by value is opened: its numbers, as a list.
-/
namespace Go.Proofs.Ytdjiagcnaogebaa
open Go.RowKit Go.ChangeShapes Go.WideShapes

section
variable {H : Type} {enc : TypeId × Value → H} {P : Program} {w : World} {r : Reach} {b0 base : Nat} {spare : Nat → Bool} {held : Bool}

theorem open_arr {t e n : Nat} {k : IntKind} {v : Value} {d : DataW H} {ps : List MemPlace} (ht : P.underlying t = some (.array n e)) (he : P.underlying e = some (.int k)) (hc : P.cellsOf e = 1) (hn : P.cellsOf t = n)
    (hval : Value.okWide P w r b0 t v) (h : DataW.Trod enc P w base spare held t v d ps) :
    ∃ zs : List Int, zs.length = n ∧ v = .agg (zs.map (Value.int k)).toArray ∧ ∀ z ∈ zs, (Lit.int k z).wf = true := by
  obtain ⟨cs, rfl, hsz⟩ : ∃ cs, v = .agg cs ∧ cs.size = n := by
    have h1 := hval
    simp only [Value.okWide, ht] at h1
    obtain ⟨cs, e1, e2, _⟩ := h1
    exact ⟨cs, e1, by rw [e2, hn]⟩
  obtain ⟨fuel, hf⟩ := h
  obtain ⟨xs, m, _, _, hl, hx, hel⟩ := DataW.trod_array ht hf
  have each : ∀ i (hi : i < cs.size), ∃ z, cs[i] = .int k z ∧ (Lit.int k z).wf = true := by
    intro i hi
    have h1 := hel i (by omega)
    have hxi : i < xs.length := by omega
    rw [List.getElem?_eq_getElem hxi, hc, Nat.mul_one] at h1
    obtain ⟨z, e1, _, hw⟩ := DataW.trod_int he h1
    have e2 : ((Value.agg cs).cells.toList.drop i).take 1 = [cs[i]] := by
      show (cs.toList.drop i).take 1 = [cs[i]]
      rw [List.drop_eq_getElem_cons (by simpa using hi)]
      simp
    rw [e2] at e1
    injection e1 with e1
    exact ⟨z, e1, hw⟩
  refine ⟨cs.toList.map (fun v => match v with | .int _ z => z | _ => 0), by simpa using hsz, ?_, ?_⟩
  · congr 1
    apply Array.ext
    · simp
    · intro i h1 h2
      obtain ⟨z, hz, _⟩ := each i h1
      simp [hz]
  · intro z hz
    simp only [List.mem_map] at hz
    obtain ⟨v, hv, rfl⟩ := hz
    obtain ⟨i, hi, rfl⟩ := List.getElem_of_mem hv
    obtain ⟨z, hz, hw⟩ := each i (by simpa using hi)
    have : cs.toList[i] = .int k z := by simpa using hz
    rw [this]
    exact hw

theorem open_u32s {t e n : Nat} {v : Value} {d : DataW H} {ps : List MemPlace} (ht : P.underlying t = some (.array n e)) (he : P.underlying e = some (.int .u32)) (hc : P.cellsOf e = 1) (hn : P.cellsOf t = n)
    (hval : Value.okWide P w r b0 t v) (h : DataW.Trod enc P w base spare held t v d ps) : ∃ s : List UInt32, s.length = n ∧ v = .agg (uv s) := by
  obtain ⟨zs, hl, rfl, hw⟩ := open_arr ht he hc hn hval h
  refine ⟨zs.map fun z => UInt32.ofNat z.toNat, by simpa using hl, ?_⟩
  unfold uv
  rw [List.map_map]
  congr 2
  apply List.map_congr_left
  intro z hz
  have hb := bounds_u32 (hw z hz)
  simp only [Function.comp]
  exact int_eq (by rw [UInt32.toNat_ofNat']; omega)
theorem open_u8s {t e n : Nat} {v : Value} {d : DataW H} {ps : List MemPlace} (ht : P.underlying t = some (.array n e)) (he : P.underlying e = some (.int .u8)) (hc : P.cellsOf e = 1) (hn : P.cellsOf t = n)
    (hval : Value.okWide P w r b0 t v) (h : DataW.Trod enc P w base spare held t v d ps) : ∃ l : List UInt8, l.length = n ∧ v = .agg (bva l) := by
  obtain ⟨zs, hl, rfl, hw⟩ := open_arr ht he hc hn hval h
  refine ⟨zs.map fun z => UInt8.ofNat z.toNat, by simpa using hl, ?_⟩
  unfold bva bv
  rw [List.map_map]
  congr 2
  apply List.map_congr_left
  intro z hz
  have hb := bounds_u8 (hw z hz)
  simp only [Function.comp]
  exact int_eq (by rw [UInt8.toNat_ofNat']; omega)
end
end Go.Proofs.Ytdjiagcnaogebaa
