/-
  The contract of the reference's May: may nodes be held? And how a row of nodes that came in is opened.
-/
import Derived.Test.YtkfcllcdkgnfbaaKtCan
import Derived.Test.YtkfcllcdkgnfbaaOpen
namespace Go.Proofs.Ytkfcllcdkgnfbaa.Kt
open Go.RowKit
attribute [local go_sem ↓] Go.wp_at_zero Go.wp_at_succ
set_option maxRecDepth 100000 in
set_option maxHeartbeats 3200000 in
theorem may_any {B : Nat} (A : Option Addr) (n c : Nat) (l : List Nd) (w : World) (hl : l.length = n) (h3 : ∀ x ∈ l, x.s.length = 32) (hb : ∀ x ∈ l, -9223372036854775808 ≤ x.d ∧ 0 ≤ x.a) (hB : B ≤ w.heap.size) (hr : Rd B w A (nvs l)) (hn : n ≤ 1000000) :
    Calls Try.prog 25 #[.slice A n c] w (fun e w' => ∃ b, e = .returned (.bool b) ∧ (b = true ↔ okS 0 l) ∧ Below w.heap.size w w') := by
  have HL := Lib.hid hl
  have HR := Lib.hid (hr.more hB)
  have H3 := Lib.hid h3
  have HB0 := Lib.hid hb
  clear hl hr h3 hB hb
  go_enter Try.func25, Try.ntmps25
  go_wp2_with fail
  go_loopw [3, 4, 5] (fun o i _ wr => ∃ k : Nat, k ≤ n ∧ i = .int .i64 k ∧ o = .int .u64 (endL 0 (l.take k)) ∧ Hid (okS 0 (l.take k)) ∧ Below w.heap.size w wr) (fun _ i _ _ => n - (intOf i).toNat)
  case atStart => exact ⟨0, by omega, rfl, rfl, trivial, Below.refl _ _⟩
  case round =>
    obtain ⟨k, hk, rfl, rfl, HOK, hbw⟩ := hrel
    by_cases hlt : k < n
    · have hkl : k < l.length := by rw [HL.out]; exact hlt
      have hrd := HR.out
      obtain ⟨ad, hA, hbl, _⟩ := rd_node HR.out H3.out hkl
      subst hA
      obtain ⟨x, hxe⟩ : ∃ x, x = l[k] := ⟨_, rfl⟩
      have hxm : x ∈ l := by rw [hxe]; exact List.getElem_mem hkl
      have hs : x.s.length = 32 := H3.out x hxm
      have hxb := HB0.out x hxm
      have hnot := okS_not_next hkl
      have hsn : l.take (k + 1) = l.take k ++ [x] := by rw [hxe]; exact List.take_succ_eq_append_getElem hkl
      rw [← hxe] at hnot
      have hcell : ∀ w', Below w.heap.size w w' → ∀ j v, (ndV x)[j]? = some v → w'.cell? ((ad.add (k * 34)).add j) = some v := fun w' hb' j v hv => by
        obtain ⟨ad', hA', _, hc⟩ := rd_node (hrd.below hb') H3.out hkl
        injection hA' with hA'
        subst hA'
        exact hc j v (by rw [← hxe]; exact hv)
      have L0 := Lib.hid (show ∀ w', Below w.heap.size w w' → w'.cell? (ad.add (k * 34)) = some (.int .i64 x.d) from fun w' hb' => by have h := hcell w' hb' 0 _ rfl; rwa [add_zero] at h)
      have L1 := Lib.hid (show ∀ w', Below w.heap.size w w' → w'.cell? ⟨(ad.add (k * 34)).block, (ad.add (k * 34)).off + 1, none⟩ = some (.int .u64 x.a) from fun w' hb' => hcell w' hb' 1 _ rfl)
      obtain ⟨C, hC⟩ : ∃ C, C = endL 0 (l.take k) := ⟨_, rfl⟩
      have hCb := endL_bd HOK.out (by omega)
      rw [← hC] at hnot hCb ⊢
      have hnb := nodeB_iff hxb.2 hs
      have k0 : (0 : Int) ≤ (k : Int) := by omega
      have k1 : (k : Int) < (n : Int) := by omega
      have ek : IntKind.i64.wrap ((k : Int) + 1) = ((k + 1 : Nat) : Int) := by rw [IntWalk.i64_in _ (by omega)]; omega
      have HB := Lib.hid hbw
      have HNB := Lib.hid hnb
      have HNT := Lib.hid (show ¬ (nodeB x = true ∧ C ≤ x.a) → ¬ okS 0 l from fun h => hnot (fun h' => h ⟨hnb.2 h'.1, h'.2⟩))
      have HSN := Lib.hid hsn
      have HCC := Lib.hid hC
      have HXB := Lib.hid hxb
      have c0 := L0.out _ HB.out
      have c1 := L1.out _ HB.out
      clear hcell hrd hxe hxm hs hsn hbw hnot hnb hC hxb hbl
      by_cases h0 : x.d < 0
      · have d0 : decide (x.d < 0) = true := decide_eq_true h0
        have HNO := Lib.hid (HNT.out (by rintro ⟨h, _⟩; have := (HNB.out.1 h).1; omega))
        clear h0
        go_wp2_with fail
        go_ret
        exact ⟨false, rfl, ⟨(fun h => by cases h), fun h => absurd h HNO.out⟩, HB.out⟩
      · have d0 : decide (x.d < 0) = false := decide_eq_false h0
        by_cases h1 : x.d > 17
        · have d1 : decide (x.d > 17) = true := decide_eq_true h1
          have HNO := Lib.hid (HNT.out (by rintro ⟨h, _⟩; have := (HNB.out.1 h).2.1; omega))
          clear h0 h1
          go_wp2_with fail
          go_ret
          exact ⟨false, rfl, ⟨(fun h => by cases h), fun h => absurd h HNO.out⟩, HB.out⟩
        · have d1 : decide (x.d > 17) = false := decide_eq_false h1
          obtain ⟨M, hM⟩ : ∃ M, M = manyI x.d := ⟨_, rfl⟩
          have hm := (manyI_ok (d := x.d) (by omega) (by omega)).2
          rw [← hM] at hm
          have hMz : (M == 0) = false := by simp; omega
          obtain ⟨r, hr⟩ : ∃ r, x.a.tmod M = r := ⟨_, rfl⟩
          have hr' : r = x.a % manyI x.d := by rw [← hr, hM]; exact Int.tmod_eq_emod_of_nonneg HXB.out.2
          have HR' := Lib.hid hr'
          have HMV := Lib.hid hM
          have HMP := Lib.hid (show ∀ W, Calls Try.prog 30 #[.int .i64 x.d] W (fun e w' => e = .returned (.int .u64 M) ∧ W = w') from fun W => by rw [hM]; exact many_any x.d (by omega) W)
          have HM0 := Lib.hid (show ∀ W, Calls Try.prog 30 #[.int .i64 0] W (RetQ (.int .u64 131072) W) from fun W => many_q 0 (by omega) W)
          have H01 := Lib.hid (show 0 ≤ x.d ∧ x.d ≤ 17 from ⟨by omega, by omega⟩)
          clear hM hr' h0 h1
          by_cases h2 : r = 0
          · have d2 : (r != 0) = false := by simp [h2]
            by_cases h3 : x.a ≥ 131072
            · have d3 : decide (x.a ≥ 131072) = true := decide_eq_true h3
              have HNO := Lib.hid (HNT.out (by rintro ⟨h, _⟩; have h5 := (HNB.out.1 h); have := h5.2.2.2.2.1; have := h5.many; omega))
              clear h2 h3
              go_wp2_with fail
              refine (HMP.out _).mono ?_
              rintro e w2 ⟨rfl, rfl⟩
              go_wp2_with fail
              go_quiet ((go_at_call 30; exact RetQ.quiet (HM0.out _)))
              go_wp2_with fail
              go_ret
              exact ⟨false, rfl, ⟨(fun h => by cases h), fun h => absurd h HNO.out⟩, below_drewN' HB.out _⟩
            · have d3 : decide (x.a ≥ 131072) = false := decide_eq_false h3
              by_cases h4 : x.a < C
              · have d4 : decide (x.a < C) = true := decide_eq_true h4
                have HNO := Lib.hid (HNT.out (by rintro ⟨_, h⟩; omega))
                clear h2 h3 h4
                go_wp2_with fail
                refine (HMP.out _).mono ?_
                rintro e w2 ⟨rfl, rfl⟩
                go_wp2_with fail
                go_quiet ((go_at_call 30; exact RetQ.quiet (HM0.out _)))
                go_wp2_with fail
                go_ret
                exact ⟨false, rfl, ⟨(fun h => by cases h), fun h => absurd h HNO.out⟩, below_drewN' HB.out _⟩
              · have d4 : decide (x.a < C) = false := decide_eq_false h4
                have hnb : nodeB x = true := by
                  rw [nodeB, decide_eq_true H01.out.1, decide_eq_true H01.out.2, decide_eq_true (show x.a < 131072 by omega), ← HR'.out, decide_eq_true h2]; rfl
                have hox := HNB.out.1 hnb
                have hx5 := hox.2.2.2.2.1
                rw [← HMV.out] at hx5
                have ea : IntKind.u64.wrap (x.a + M) = x.a + M := IntWalk.u64_in _ (by have := HXB.out; omega)
                have HOK2 := Lib.hid (show okS 0 (l.take (k + 1)) by rw [HSN.out, okS_snoc]; exact ⟨HOK.out, hox, by rw [← HCC.out]; omega⟩)
                have HEN := Lib.hid (show endL 0 (l.take (k + 1)) = x.a + M by rw [HSN.out, endL_snoc, HMV.out])
                clear h2 h3 h4 hnb hox hx5
                go_wp2_with fail
                refine (HMP.out _).mono ?_
                rintro e w2 ⟨rfl, rfl⟩
                go_wp2_with fail
                go_quiet ((go_at_call 30; exact RetQ.quiet (HM0.out _)))
                rename_i nq
                have bq := below_drewN' HB.out nq
                have c0' := L0.out _ bq
                have c1' := L1.out _ bq
                go_wp2_with fail
                go_roundw
                case rel => exact ⟨k + 1, by omega, by go_num, by rw [HEN.out], HOK2, below_drewN' HB.out _⟩
                case measure => simp [intOf]; omega
          · have d2 : (r != 0) = true := by simp [h2]
            have HNO := Lib.hid (HNT.out (by rintro ⟨h, _⟩; exact h2 (by rw [HR'.out]; exact (HNB.out.1 h).2.2.2.1)))
            clear h2
            go_wp2_with fail
            refine (HMP.out _).mono ?_
            rintro e w2 ⟨rfl, rfl⟩
            go_wp2_with fail
            go_quiet ((go_at_call 30; exact RetQ.quiet (HM0.out _)))
            go_wp2_with fail
            go_ret
            exact ⟨false, rfl, ⟨(fun h => by cases h), fun h => absurd h HNO.out⟩, below_drewN' HB.out _⟩
    · obtain rfl : k = n := by omega
      have hok : okS 0 l := by have := HOK.out; rwa [List.take_of_length_le (by rw [HL.out]; exact Nat.le_refl _)] at this
      have HK := Lib.hid hok
      clear hok
      go_wp2
      go_ret
      exact ⟨true, rfl, ⟨fun _ => HK.out, fun _ => rfl⟩, hbw⟩
section
open Go.ChangeShapes Go.WideShapes
variable {H : Type} {enc : TypeId × Value → H} {w : World} {base : Nat} {spare : Nat → Bool} {held : Bool}
theorem bytes_of_trod {t : Nat} {fuel : Nat} {cs : List Value} {x : DataW H × List MemPlace} (ht : Try.prog.underlying t = some (.array 32 5)) (hn : Try.prog.cellsOf t = 32)
    (h : DataW.trod enc Try.prog w base spare held fuel t cs = some x) : ∃ s : List UInt8, s.length = 32 ∧ cs = bv s := by
  obtain ⟨xs, m, _, _, hl, hx, hel⟩ := DataW.trod_array ht h
  have hc : Try.prog.cellsOf 5 = 1 := by kernel_rfl
  rw [hn] at hl
  have each : ∀ i (hi : i < cs.length), ∃ z, cs[i] = .int .u8 z ∧ (Lit.int .u8 z).wf = true := by
    intro i hi
    have h1 := hel i (by omega)
    rw [List.getElem?_eq_getElem (by omega), hc, Nat.mul_one] at h1
    obtain ⟨z, e1, _, hw⟩ := DataW.trod_int Try.underlying5 h1
    rw [List.drop_eq_getElem_cons hi] at e1
    have e2 : (cs[i] :: cs.drop (i + 1)).take 1 = [cs[i]] := rfl
    rw [e2] at e1
    injection e1 with e1
    exact ⟨z, e1, hw⟩
  refine ⟨cs.map fun v => byteOf (match v with | .int _ z => z | _ => 0), by simpa using hl, ?_⟩
  apply List.ext_getElem?
  intro i
  rcases Nat.lt_or_ge i cs.length with hi | hi
  · obtain ⟨z, hz, hw⟩ := each i hi
    rw [List.getElem?_eq_getElem hi, bv_get (by simpa using hi), hz]
    simp only [List.getElem_map, hz]
    rw [byteOf_val hw]
  · rw [List.getElem?_eq_none hi, List.getElem?_eq_none (by rw [bv_length]; simpa using hi)]
theorem node_of_trod {fuel : Nat} {cs : List Value} {x : DataW H × List MemPlace} (h : DataW.trod enc Try.prog w base spare held fuel 32 cs = some x) :
    ∃ y : Nd, cs = ndV y ∧ (-9223372036854775808 ≤ y.d ∧ y.d ≤ 9223372036854775807) ∧ (0 ≤ y.a ∧ y.a ≤ 18446744073709551615) ∧ y.s.length = 32 := by
  obtain ⟨xs, n, _, _, hl, hlen, hf⟩ := DataW.trod_struct node_under h
  have hfs := node_fields
  have hcn : Try.prog.cellsOf 32 = 34 := by kernel_rfl
  have hci : Try.prog.cellsOf 3 = 1 := by kernel_rfl
  have hcu : Try.prog.cellsOf 25 = 1 := by kernel_rfl
  have hcb : Try.prog.cellsOf 22 = 32 := by kernel_rfl
  generalize Try.prog.fieldsOf 32 = fs at hfs hlen hf
  rw [hcn] at hl
  obtain ⟨L⟩ := fs
  have hL3 : L.length = 3 := by simpa using congrArg List.length hfs
  match L, hL3, hfs, hf, hlen with
  | [f0, f1, f2], _, hfs, hf, hlen =>
    simp only [List.map_cons, List.map_nil, List.cons.injEq, Prod.mk.injEq, and_true] at hfs
    obtain ⟨⟨_, t0, o0⟩, ⟨_, t1, o1⟩, ⟨_, t2, o2⟩⟩ := hfs
    have h3 : xs.length = 3 := hlen
    have g0 := hf 0 f0 rfl
    have g1 := hf 1 f1 rfl
    have g2 := hf 2 f2 rfl
    rw [t0, o0, hci, List.getElem?_eq_getElem (by omega)] at g0
    rw [t1, o1, hcu, List.getElem?_eq_getElem (by omega)] at g1
    rw [t2, o2, hcb, List.getElem?_eq_getElem (by omega)] at g2
    obtain ⟨d, e0, _, w0⟩ := DataW.trod_int Try.underlying3 g0
    obtain ⟨a, e1, _, w1⟩ := DataW.trod_int Try.underlying25 g1
    obtain ⟨s, hs, e2⟩ := bytes_of_trod Try.underlying22 hcb g2
    match cs, hl with
    | u :: v :: r, hl =>
      simp at e0 e1
      rw [List.take_of_length_le (by simp at hl ⊢; omega)] at e2
      simp at e2
      exact ⟨⟨d, a, s⟩, by rw [e0, e1, e2]; rfl, bounds_i64 w0, bounds_u64 w1, hs⟩
/-- A row of nodes that came in. -/
theorem open_nodes {a : Option Addr} {len cap : Nat} {d : DataW H} {ps : List MemPlace} (h : DataW.Trod enc Try.prog w base spare held 33 (.slice a len cap) d ps) :
    ∃ l : List Nd, l.length = len ∧ len ≤ cap ∧ cap ≤ maxLen ∧ Rd w.heap.size w a (nvs l) ∧ ∀ y ∈ l, (-9223372036854775808 ≤ y.d ∧ y.d ≤ 9223372036854775807) ∧ (0 ≤ y.a ∧ y.a ≤ 18446744073709551615) ∧ y.s.length = 32 := by
  obtain ⟨fuel, hf⟩ := h
  have hf' : DataW.trod enc Try.prog w base spare held fuel 33 [Value.slice a len cap] = some (d, ps) := hf
  have hcn : Try.prog.cellsOf 32 = 34 := by kernel_rfl
  rcases Go.Deep.open_slice Try.underlying33 hf' with ⟨hcs, _⟩ | ⟨a', len', cap', m, n, D, Pl, hcs, _, hl, hm, hmm, _, hx⟩
  · simp only [List.cons.injEq, and_true] at hcs
    injection hcs with e1 e2 e3
    subst e1; subst e2; subst e3
    exact ⟨[], rfl, Nat.le_refl _, Nat.zero_le _, Rd.none, fun y hy => by simp at hy⟩
  · simp only [List.cons.injEq, and_true] at hcs
    injection hcs with e1 e2 e3
    subst e1; subst e2; subst e3
    have hlm : len ≤ m := by rw [hmm]; split <;> omega
    rw [hcn] at hx
    have hall : ∀ j, j ≤ len → ∃ l : List Nd, l.length = j ∧ (∀ y ∈ l, (-9223372036854775808 ≤ y.d ∧ y.d ≤ 9223372036854775807) ∧ (0 ≤ y.a ∧ y.a ≤ 18446744073709551615) ∧ y.s.length = 32) ∧
        ∀ k u, (nvs l)[k]? = some u → w.cell? (a'.add k) = some u := by
      intro j
      induction j with
      | zero => exact fun _ => ⟨[], rfl, fun y hy => by simp at hy, fun k u hu => by simp [nvs] at hu⟩
      | succ j ih =>
        intro hj
        obtain ⟨l, hl', hb, hc⟩ := ih (by omega)
        obtain ⟨cs', h1, h2⟩ := hx j (by omega)
        obtain ⟨y, hy, hyb⟩ := node_of_trod h2
        obtain ⟨_, _, hcl⟩ := World.cells?_some h1
        have hnl : (nvs l).length = j * 34 := by rw [nvs_length (fun z hz => (hb z hz).2.2), hl']
        refine ⟨l ++ [y], by simp [hl'], fun z hz => ?_, fun k u hu => ?_⟩
        · rcases List.mem_append.1 hz with hz | hz
          · exact hb z hz
          · rw [List.mem_singleton] at hz; rw [hz]; exact hyb
        · rw [nvs_append] at hu
          rcases Nat.lt_or_ge k (nvs l).length with hk | hk
          · rw [List.getElem?_append_left hk] at hu
            exact hc k u hu
          · rw [List.getElem?_append_right hk, nvs, nvs, List.append_nil, ← hy, hnl] at hu
            have hk34 : k - j * 34 < 34 := by
              have := (List.getElem?_eq_some_iff.1 hu).1
              rw [hy, ndV_length hyb.2.2] at this; exact this
            have h3 := hcl (k - j * 34) hk34
            rw [add_twice, show j * 34 + (k - j * 34) = k by omega, hu] at h3
            exact h3
    obtain ⟨l, hl', hb, hc⟩ := hall len (Nat.le_refl _)
    refine ⟨l, hl', hl, hm, fun k u hu => ⟨a', rfl, ?_, hc k u hu⟩, hb⟩
    have := World.block_lt_of_cell? _ _ (hc k u hu)
    rw [add_block] at this
    exact this
end
end Go.Proofs.Ytkfcllcdkgnfbaa.Kt
