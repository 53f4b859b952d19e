/-
  The contracts of the tree's find: which node has the leaf, by halving.
-/
import Derived.Test.YtkfcllcdkgnfbaaKtTree
import Derived.Test.YtkfcllcdkgnfbaaKtLeaves
namespace Go.Proofs.Ytkfcllcdkgnfbaa.Kt
open Go.RowKit
attribute [local go_sem ↓] Go.wp_at_zero Go.wp_at_succ
/-- Where a leaf lies, seen from a node: behind it, in it, ahead of it. -/
def cmpI (x : Nd) (m : Int) : Int := if m < x.a then 1 else if x.a + manyI x.d ≤ m then -1 else 0
section
variable {w : World} {g : Nat} {x : Nd} {t : TypeId}
theorem ndt_d (h : Blk w g (ndC x) t) : w.cell? ⟨g, 0, none⟩ = some (.int .i64 x.d) := by rw [h.cell]; rfl
theorem ndt_a (h : Blk w g (ndC x) t) : w.cell? ⟨g, 1, none⟩ = some (.int .u64 x.a) := by rw [h.cell]; rfl
theorem ndt_s (h : Blk w g (ndC x) t) : w.rangeAt g 2 (bv x.s) := fun j v hv => by
  rw [h.cell, ndC, List.getElem?_toArray, ndV, show 2 + j = j + 1 + 1 by omega, List.getElem?_cons_succ, List.getElem?_cons_succ]
  exact hv
end
theorem leaves_q (d : Int) (h0 : 0 ≤ d) (h17 : d ≤ 17) (w : World) : Calls Try.prog 37 #[.int .i64 d] w (RetQ (.int .u64 (manyI d)) w) :=
  (leaves_any d h0 h17 w).mono fun _ _ ⟨he, hw⟩ => ⟨he, 0, hw.symm⟩
set_option maxRecDepth 100000 in
set_option maxHeartbeats 800000 in
theorem cmp_any (x : Nd) (hx : okH x) (m : Int) (w : World) :
    Calls Try.prog 41 #[.agg (ndC x), .int .u64 m] w (RetB (.int .i64 (cmpI x m)) w) := by
  have b1 : Blk (w.alloc (.cells (ndC x) 48)) w.heap.size (ndC x) 48 := heap_alloc_new _ _
  have hb : Below w.heap.size w (w.alloc (.cells (ndC x) 48)) := (Below.refl _ _).alloc (Nat.le_refl _) _
  have c0 := ndt_d b1
  have c1 := ndt_a b1
  have BB := Lib.hid hb
  have hmm := hx.many
  obtain ⟨M, hM⟩ : ∃ M, M = manyI x.d := ⟨_, rfl⟩
  rw [← hM] at hmm
  have HQ := Lib.hid (show ∀ W, Calls Try.prog 37 #[.int .i64 x.d] W (RetQ (.int .u64 M) W) from fun W => by rw [hM]; exact leaves_q x.d hx.1 hx.2.1 W)
  have e0 : IntKind.u64.wrap (x.a + M) = x.a + M := IntWalk.u64_in _ (by have := hx.2.2.1; have := hx.2.2.2.2.1; omega)
  by_cases h1 : m < x.a
  · have e1 : decide (m < x.a) = true := decide_eq_true h1
    have ei : cmpI x m = 1 := by rw [cmpI, if_pos h1]
    clear h1 hx hb hM b1
    go_enter Try.func41, Try.ntmps41
    go_wp2
    go_ret
    rw [ei]
    exact ⟨rfl, BB.out⟩
  · have e1 : decide (m < x.a) = false := decide_eq_false h1
    by_cases h2 : x.a + M ≤ m
    · have e3 : decide (m ≥ x.a + M) = true := decide_eq_true h2
      have ei : cmpI x m = -1 := by rw [cmpI, if_neg h1, if_pos (by rw [← hM]; exact h2)]
      clear h1 h2 hx hb hM b1
      go_enter Try.func41, Try.ntmps41
      go_wp2_with fail
      go_quiet ((go_at_call 37; exact RetQ.quiet (HQ.out _)))
      go_wp2
      go_ret
      rw [ei]
      exact ⟨rfl, below_drewN' BB.out _⟩
    · have e3 : decide (m ≥ x.a + M) = false := decide_eq_false h2
      have ei : cmpI x m = 0 := by rw [cmpI, if_neg h1, if_neg (by rw [← hM]; exact h2)]
      clear h1 h2 hx hb hM b1
      go_enter Try.func41, Try.ntmps41
      go_wp2_with fail
      go_quiet ((go_at_call 37; exact RetQ.quiet (HQ.out _)))
      go_wp2
      go_ret
      rw [ei]
      exact ⟨rfl, below_drewN' BB.out _⟩
theorem wpList_load_at_if {P : Program} {ops : Array Oper} {rest : List Oper} {o : Oper} {a : Act} {w : World} {Q : Exit → Act → World → Prop} (hgd : Region.wanted o (yielded ops a.tmps) = true) (ty : TypeId) (x : Operand) (ho : o.op = .load ty x) (ad : Addr) {cs : List Value} {d : TypeDesc} (hx : a.eval x = .pointer (some ad)) (hc : ∀ j v, cs[j]? = some v → w.cell? (ad.add j) = some v)
    (hu : P.underlying ty = some d) (hd : (match d with | .struct _ | .array _ _ => true | _ => false) = true) (hi : (P.info? ty).map (·.size) = some cs.length)
    (h : wpList P ops Q rest (a.put o.dst (.agg cs.toArray)) w) : wpList P ops Q (o :: rest) a w := by
  unfold wpList
  rw [if_pos hgd]
  refine .inl ?_
  unfold Oper.wp
  rw [exec_load_at ty x ho ad hx hc hu hd hi]
  exact h
/-- Where the search ends: ahead of it lie the nodes whose leaves are all below m, from it on those that have a leaf that isn't. -/
def Found (l : List Nd) (m : Int) (i : Nat) (b : Bool) : Prop :=
  i ≤ l.length ∧ (∀ k x, k < i → l[k]? = some x → x.a + manyI x.d ≤ m) ∧ (∀ k x, i ≤ k → l[k]? = some x → m < x.a + manyI x.d) ∧ b = (match l[i]? with | some x => decide (x.a ≤ m) | none => false)
/-- Of two nodes the one that stands ahead lies ahead. -/
theorem okS_at : ∀ {e : Int} {l : List Nd}, okS e l → ∀ (i j : Nat) (x y : Nd), i < j → l[i]? = some x → l[j]? = some y → x.a + manyI x.d ≤ y.a
  | _, [], _, i, j, x, y, _, h, _ => by simp at h
  | e, z :: l, h, 0, j + 1, x, y, _, h1, h2 => by
    rw [List.getElem?_cons_zero] at h1
    injection h1 with h1; subst h1
    rw [List.getElem?_cons_succ] at h2
    exact (okS_mem h.2.2 y (List.mem_of_getElem? h2)).2
  | e, z :: l, h, i + 1, j + 1, x, y, hij, h1, h2 => by
    rw [List.getElem?_cons_succ] at h1 h2
    exact okS_at h.2.2 i j x y (by omega) h1 h2
set_option maxRecDepth 100000 in
set_option maxHeartbeats 1600000 in
theorem search_any {B : Nat} (A : Option Addr) (n c : Nat) (l : List Nd) (e : Int) (m : Int) (w : World) (hl : l.length = n) (hv : okS e l) (hB : B ≤ w.heap.size) (hr : Rd B w A (nvs l)) (hn : n ≤ 1000000) :
    Calls Try.prog 40 #[.slice A n c, .int .u64 m, .func (.func 41) #[] #[]] w (fun e w' => ∃ i b, e = .returned (.tuple #[.int .i64 (i : Nat), .bool b]) ∧ Found l m i b ∧ Below w.heap.size w w') := by
  have HL := Lib.hid hl
  have HV := Lib.hid hv
  have HR := Lib.hid (hr.more hB)
  clear hl hv hr hB
  go_enter Try.func40, Try.ntmps40
  go_wp2_with fail
  go_loopw [9, 10] (fun i j wr => ∃ p q, p ≤ q ∧ q ≤ n ∧ i = .int .i64 (p : Nat) ∧ j = .int .i64 (q : Nat) ∧ Below w.heap.size w wr ∧ Hid (∀ k x, k < p → l[k]? = some x → x.a + manyI x.d ≤ m) ∧ Hid (∀ k x, q ≤ k → l[k]? = some x → m < x.a + manyI x.d)) (fun i j _ => (intOf j - intOf i).toNat)
  case atStart => exact ⟨0, n, by omega, by omega, rfl, rfl, Below.refl _ _, fun k x h => by omega, fun k x h h' => by
    have := (List.getElem?_eq_some_iff.1 h').1
    rw [HL.out] at this; omega⟩
  case round =>
    obtain ⟨p, q, hpq, hqn, rfl, rfl, hbw, HP, HQ⟩ := hrel
    by_cases hlt : p < q
    · have e1 : IntKind.i64.wrap ((p : Int) + (q : Int)) = (p : Int) + (q : Int) := IntWalk.i64_in _ (by omega)
      obtain ⟨k, hk⟩ : ∃ k : Nat, k = (p + q) / 2 := ⟨_, rfl⟩
      have hkI : ((p : Int) + (q : Int)) / 2 = (k : Int) := by omega
      have hkn : k < n := by omega
      have hkl : k < l.length := by rw [HL.out]; exact hkn
      obtain ⟨ad, hA, hbl, hcell⟩ := rd_node (HR.out.below hbw) (okS_len HV.out) hkl
      subst hA
      obtain ⟨x, hxe⟩ : ∃ x, x = l[k] := ⟨_, rfl⟩
      have hxk : l[k]? = some x := by rw [hxe]; exact List.getElem?_eq_getElem hkl
      have hx : okH x := by rw [hxe]; exact (okS_mem HV.out _ (List.getElem_mem hkl)).1
      rw [← hxe] at hcell
      have HC := Lib.hid hcell
      have HI : Hid ((Try.prog.info? 48).map (·.size) = some (ndV x).length) := by rw [ndV_length hx.2.2.2.2.2]; exact info_held
      have HX := Lib.hid hx
      have HXK := Lib.hid hxk
      have HW := Lib.hid hbw
      have k0 : (0 : Int) ≤ (k : Int) := by omega
      have k1 : (k : Int) < (n : Int) := by omega
      have e4 : IntKind.i64.wrap ((k : Int) + 1) = ((k + 1 : Nat) : Int) := by rw [IntWalk.i64_in _ (by omega)]; omega
      have hpk : p ≤ k := by omega
      have hkq : k < q := by omega
      clear hcell hx hxk hxe hbw hk
      go_wp2_with (refine wpList_load_at rfl 48 (.tmp 27) rfl (ad.add (k * 34)) rfl HC.out Try.underlying48 rfl HI.out ?_
                   change wpList _ _ _ _ (Act.put _ _ (.agg (ndC x))) _)
      refine (cmp_any x HX.out m _).mono ?_
      rintro e w2 ⟨rfl, bw⟩
      have HB2 := Lib.hid (HW.out.trans (bw.mono HW.out.size))
      clear bw HW HC
      by_cases hc : x.a + manyI x.d ≤ m
      · have hz : cmpI x m = -1 := by
          have := HX.out.many
          rw [cmpI, if_neg (by omega), if_pos hc]
        rw [hz]
        have HCC := Lib.hid hc
        clear hc hz
        go_wp2_with fail
        go_roundw
        case rel => exact ⟨k + 1, q, by omega, hqn, by first | rfl | go_num, rfl, HB2.out, (fun k' x' h h' => by
          have := HX.out.many
          have h2 : okS e l := HV.out
          rcases Nat.lt_or_ge k' k with h3 | h3
          · have := (okS_at h2 k' k x' x h3 h' HXK.out)
            have := HCC.out
            omega
          · obtain rfl : k' = k := by omega
            rw [HXK.out] at h'; injection h' with h'; subst h'; exact HCC.out), HQ⟩
        case measure => simp [intOf]; omega
      · have hz : ∃ z, cmpI x m = z ∧ 0 ≤ z ∧ z ≤ 1 := ⟨_, rfl, by unfold cmpI; split <;> (try rw [if_neg hc]) <;> omega, by unfold cmpI; split <;> (try rw [if_neg hc]) <;> omega⟩
        obtain ⟨z, hz, hz0, _⟩ := hz
        have ez : decide (z < 0) = false := by simp; omega
        rw [hz]
        have HCC := Lib.hid (show m < x.a + manyI x.d by omega)
        clear hc hz
        go_wp2_with fail
        go_roundw
        case rel => exact ⟨p, k, hpk, by omega, rfl, rfl, HB2.out, HP, (fun k' x' h h' => by
          have := HX.out.many
          rcases Nat.lt_or_ge k k' with h3 | h3
          · have := (okS_at HV.out k k' x x' h3 HXK.out h')
            have := HCC.out
            have := (okS_mem HV.out x' (List.mem_of_getElem? h')).1.many
            omega
          · obtain rfl : k' = k := by omega
            rw [HXK.out] at h'; injection h' with h'; subst h'; exact HCC.out)⟩
        case measure => simp [intOf]; omega
    · obtain rfl : q = p := by omega
      by_cases hqn' : q < n
      · have hql : q < l.length := by rw [HL.out]; exact hqn'
        obtain ⟨ad, hA, hbl, hcell⟩ := rd_node (HR.out.below hbw) (okS_len HV.out) hql
        subst hA
        obtain ⟨x, hxe⟩ : ∃ x, x = l[q] := ⟨_, rfl⟩
        have hxk : l[q]? = some x := by rw [hxe]; exact List.getElem?_eq_getElem hql
        have hx : okH x := by rw [hxe]; exact (okS_mem HV.out _ (List.getElem_mem hql)).1
        rw [← hxe] at hcell
        have HC := Lib.hid hcell
        have HI : Hid ((Try.prog.info? 48).map (·.size) = some (ndV x).length) := by rw [ndV_length hx.2.2.2.2.2]; exact info_held
        have HX := Lib.hid hx
        have HXK := Lib.hid hxk
        have HW := Lib.hid hbw
        have k0 : (0 : Int) ≤ (q : Int) := by omega
        have k1 : (q : Int) < (n : Int) := by omega
        clear hcell hx hxk hxe hbw
        go_wp2_with (refine wpList_load_at_if rfl 48 (.tmp 43) rfl (ad.add (q * 34)) rfl HC.out Try.underlying48 rfl HI.out ?_
                     change wpList _ _ _ _ (Act.put _ _ (.agg (ndC x))) _)
        refine (cmp_any x HX.out m _).mono ?_
        rintro e w2 ⟨rfl, bw⟩
        have HB2 := Lib.hid (HW.out.trans (bw.mono HW.out.size))
        clear bw HW HC
        have hM := HX.out.many
        have hlow : m < x.a + manyI x.d := HQ.out q x (Nat.le_refl _) HXK.out
        have hz : (cmpI x m = 0 ∧ decide (x.a ≤ m) = true) ∨ (cmpI x m = 1 ∧ decide (x.a ≤ m) = false) := by
          unfold cmpI
          by_cases h : m < x.a
          · exact .inr ⟨if_pos h, by simp; omega⟩
          · exact .inl ⟨by rw [if_neg h, if_neg (by omega)], by simp; omega⟩
        have hb : ∀ b, decide (x.a ≤ m) = b → Found l m q b := fun b hb => ⟨by rw [HL.out]; omega, HP.out, HQ.out, by rw [HXK.out]; exact hb.symm⟩
        have HBB := Lib.hid hb
        clear hM hlow hb
        rcases hz with ⟨hz, hd⟩ | ⟨hz, hd⟩
        · rw [hz]
          have HD := Lib.hid hd
          clear hz hd
          go_wp2_with fail
          go_ret2
          exact ⟨q, true, rfl, HBB.out _ HD.out, HB2.out⟩
        · rw [hz]
          have HD := Lib.hid hd
          clear hz hd
          go_wp2_with fail
          go_ret2
          exact ⟨q, false, rfl, HBB.out _ HD.out, HB2.out⟩
      · go_wp2_with fail
        go_ret2
        exact ⟨q, false, rfl, ⟨by rw [HL.out]; omega, HP.out, HQ.out, by rw [List.getElem?_eq_none (by rw [HL.out]; omega)]⟩, hbw⟩
end Go.Proofs.Ytkfcllcdkgnfbaa.Kt
