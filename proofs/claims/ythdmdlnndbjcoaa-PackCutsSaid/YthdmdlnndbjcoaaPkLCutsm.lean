/-
  PackCuts holds: of any row of cells and any two bytes the law returns true, and its arguments read as they did.
-/
import Derived.Test.YthdmdlnndbjcoaaCb1
import Derived.Deep.Cut
import Derived.Deep.RegionHeld
import Derived.Test.YthdmdlnndbjcoaaRows
import Derived.ProofKit
import Derived.OpenShut
import Derived.ShutString
import Derived.ChangeOld
namespace Go.Proofs.Ythdmdlnndbjcoaa
open Go.RowKit Ce Pk Go.ChangeShapes Go.WideShapes Go.ChangeAt
attribute [local go_sem ↓] Go.wp_at_zero Go.wp_at_succ
theorem rd_ccs_take {B : Nat} {w : World} {A : Option Addr} {l : List Cc} (h : Rd B w A (ccs l)) (j : Nat) : Rd B w A (ccs (l.take j)) := fun k u hu => by
  refine h k u ?_
  have e : ccs l = ccs (l.take j) ++ ccs (l.drop j) := by rw [← ccs_append, List.take_append_drop]
  rw [e, List.getElem?_append_left (List.getElem?_eq_some_iff.1 hu).1]
  exact hu
theorem dec_bad8 {b : UInt8} (h : ¬ (1 ≤ (b.toNat : Int) ∧ (b.toNat : Int) ≤ 8)) : (decCl [b]).2.2 ≠ 0 := by
  have hi : isKind (b.toNat : Int) = false := decide_eq_false h
  have h2 : decCl [b] = (zeroCl, 0, 3) := by
    unfold decCl sizeCl
    simp only [hi]
    rfl
  rw [h2]; decide
set_option maxRecDepth 100000 in
set_option maxHeartbeats 12800000 in
theorem packCuts_any (w : World) (A : Option Addr) (N c : Nat) (l : List Cc) (hl : l.length = N) (_ : N ≤ c) (_ : c ≤ maxLen) (hr : Rd w.heap.size w A (ccs l) ∧ ∀ k ∈ l, Rd w.heap.size w k.A (bv k.y.body)) (a : Int) (ha : 0 ≤ a ∧ a ≤ 255) (b : Int) (hb : 0 ≤ b ∧ b ≤ 255) : Calls Try.prog 6 #[.slice A N c, .int .u8 a, .int .u8 b] w (RetB (.bool true) w) := by
  have HL := Lib.hid hl
  have HR := Lib.hid hr.1
  have HBO := Lib.hid hr.2
  have HAB := Lib.hid (And.intro ha hb)
  have B := Lib.hid (Below.refl w.heap.size w)
  clear hl hr ha hb
  go_enter Try.func6, Try.ntmps6
  go_wp2_with fail
  refine (pkAwake_any _).mono ?_
  rintro e w1 ⟨rfl, bw⟩
  have B' := Lib.hid (B.out.trans (bw.mono B.out.size))
  clear bw B
  have B := Lib.hid B'.out
  clear B'
  by_cases hbig : 6 < N
  · have n1 : (6 : Int) < (N : Int) := by omega
    go_wp2_with fail
    go_ret
    exact ⟨rfl, B.out⟩
  have n1 : ¬ (6 : Int) < (N : Int) := by omega
  have HNB := Lib.hid (show N ≤ 6 by omega)
  clear hbig
  go_wp2_with fail
  clear n1
  go_loopw [7] (fun i wr => ∃ j : Nat, j ≤ N ∧ i = .int .i64 j ∧ Below w.heap.size w wr ∧ Hid (allOk (l.take j))) (fun i _ => N - (intOf i).toNat)
  case atStart => exact ⟨0, Nat.zero_le _, rfl, B.out, Lib.hid (fun k hk => by simp at hk)⟩
  case round =>
    clear B
    obtain ⟨j, hj, rfl, hbw, HA⟩ := hrel
    by_cases hlt : j < N
    · have hklx : j < l.length := by rw [HL.out]; exact hlt
      obtain ⟨x, hxex⟩ : ∃ x, x = l[j] := ⟨_, rfl⟩
      have hxmx : x ∈ l := by rw [hxex]; exact List.getElem_mem hklx
      have hrdx := HR.out
      obtain ⟨ad, hAx, -, -⟩ := rd_cell hrdx hklx
      have hcellx : ∀ w', Below w.heap.size w w' → ∀ i v, (ccV x)[i]? = some v → w'.cell? ((ad.add (j * 11)).add i) = some v := fun w' hb' i v hv => by
        obtain ⟨ad', hA', _, hc⟩ := rd_cell (hrdx.below hb') hklx
        rw [hAx] at hA'
        injection hA' with hA'
        subst hA'
        exact hc i v (by rw [← hxex]; exact hv)
      obtain ⟨csx, hcsx⟩ : ∃ cs, cs = clA x.y x.A x.c := ⟨_, rfl⟩
      have HCWx := Lib.hid (show ∀ w', Below w.heap.size w w' → ∀ i v, csx.toList[i]? = some v → w'.cell? ((ad.add (j * 11)).add i) = some v from fun w' hb' i v hv => hcellx w' hb' i v (by rw [hcsx] at hv; exact hv))
      have HIx := Lib.hid (show (Try.prog.info? 44).map (·.size) = some csx.toList.length from by rw [hcsx]; kernel_rfl)
      have HCSx := Lib.hid hcsx
      have HXMx := Lib.hid hxmx
      have HXEx := Lib.hid hxex
      have HTX := Lib.hid (show l.take (j + 1) = l.take j ++ [x] from by rw [hxex]; exact List.take_succ_eq_append_getElem hklx)
      subst hAx
      have HB := Lib.hid hbw
      have k0 : (0 : Int) ≤ (j : Int) := by omega
      have k1 : (j : Int) < (N : Int) := by omega
      have HRT := Lib.hid (show ∀ W, Below w.heap.size w W → Calls Try.prog 20 #[.agg csx] W (RetB (.bool (decide (okCl x.y))) W) from fun W hW => by rw [HCSx.out]; exact cright_any x.y x.A x.c W ((HBO.out x HXMx.out).below hW) hW.size)
      clear hxmx hrdx hcellx hcsx hxex hbw
      by_cases ok : okCl x.y
      · have HOK := Lib.hid ok
        rw [decide_eq_true ok] at HRT
        clear ok
        go_wp2_with (refine wpList_load_at rfl 44 (.tmp 34) rfl (ad.add (j * 11)) rfl (HCWx.out _ (HB.out)) Try.underlying44 rfl HIx.out ?_; change wpList _ _ _ _ (Act.put _ _ (.agg csx)) _)
        refine (HRT.out _ HB.out).mono ?_
        rintro e w5 ⟨rfl, bw⟩
        have B5 := Lib.hid (HB.out.trans (bw.mono HB.out.size))
        clear bw HB
        go_wp2_with fail
        go_roundw
        case rel => exact ⟨j + 1, by omega, by go_num, B5.out, Lib.hid (fun k hk => by
          rw [HTX.out] at hk
          rcases List.mem_append.1 hk with h | h
          · exact HA.out k h
          · rw [List.mem_singleton] at h; rw [h]; exact HOK.out)⟩
        case measure => (simp [intOf]; try omega)
      · rw [decide_eq_false ok] at HRT
        clear ok
        go_wp2_with (refine wpList_load_at rfl 44 (.tmp 34) rfl (ad.add (j * 11)) rfl (HCWx.out _ (HB.out)) Try.underlying44 rfl HIx.out ?_; change wpList _ _ _ _ (Act.put _ _ (.agg csx)) _)
        refine (HRT.out _ HB.out).mono ?_
        rintro e w5 ⟨rfl, bw⟩
        have B5 := Lib.hid (HB.out.trans (bw.mono HB.out.size))
        clear bw HB
        go_wp2_with fail
        go_ret
        exact ⟨rfl, B5.out⟩
    · obtain rfl : N = j := by omega
      have HALL := Lib.hid (show allOk l from by
        have h := HA.out
        rw [List.take_of_length_le (by rw [HL.out]; exact Nat.le_refl _)] at h; exact h)
      have B := Lib.hid hbw
      obtain ⟨wo, hwo⟩ : ∃ v, v = wr := ⟨_, rfl⟩
      subst hwo
      clear hbw hlt hj HA
      go_wp2_with fail
      refine (fill_any (B := w.heap.size) _ A N c l HL.out (HR.out.below B.out) (fun k hk => (HBO.out k hk).below B.out) B.out.size (by have := HNB.out; omega)).mono ?_
      rintro e w5 (⟨_, A3, n3, c3, bl3, I3, d3, rfl, hb3, he3, hi3, bw⟩ | ⟨hno, _⟩)
      rotate_left
      · exact absurd HALL.out hno
      have B5 := Lib.hid (B.out.trans (bw.mono B.out.size))
      have D5 := Lib.hid hb3
      have E3 := Lib.hid he3
      have HN3 := Lib.hid (bods_count hb3 HALL.out he3)
      clear hb3 he3 hi3 bw B
      by_cases h0 : n3 = 0
      · -- nothing was filled: there is nothing
        have hN0 : N = 0 := by
          have h1 := flat_all HALL.out HN3.out.2
          rw [h0] at h1
          have h2 := congrArg List.length h1
          rw [ys_length, HL.out] at h2
          simpa using h2.symm
        have HN0 := Lib.hid hN0
        subst h0
        have z1 : ((N : Int) == 0) = true := by simp; omega
        clear hN0
        go_wp2_with fail
        go_ret
        exact ⟨rfl, B5.out⟩
      have z2 : ((n3 : Int) == 0) = false := by simp; omega
      obtain ⟨g3, e, hA3, hej, hce, hre, hcap1, hcap2, hgl⟩ := Bods.at_ D5.out (i := 0) (by omega)
      subst hA3
      obtain ⟨sg, hsg, hebs, hsne, hele, hop, hsok⟩ := seg_at HALL.out E3.out hej
      have hfirst := SegOk.first encCl (segOk_ys HALL.out) hsg
      obtain ⟨q, hq⟩ : ∃ q, q = e.b.length := ⟨_, rfl⟩
      rw [← hq] at hce hcap1 hele
      obtain ⟨q1, hq1⟩ : ∃ q1, q1 = q + 1 := ⟨_, rfl⟩
      obtain ⟨k, hk⟩ : ∃ k, k = a.toNat % q1 := ⟨_, rfl⟩
      have hkq : k ≤ q := by rw [hk]; have := Nat.mod_lt a.toNat (show 0 < q1 by omega); omega
      have ha0 := HAB.out.1.1
      have ha1 := HAB.out.1.2
      have w1 : IntKind.i64.wrap a = a := IntWalk.i64_in _ (by omega)
      have w2 : IntKind.i64.wrap ((q : Int) + 1) = (q1 : Int) := by rw [IntWalk.i64_in _ (by omega)]; omega
      have q10 : (0 : Int) < (q1 : Int) := by omega
      have tm2 : a % (q1 : Int) = (k : Int) := by rw [hk, Int.natCast_emod, Int.toNat_of_nonneg ha0]
      have HQ := Lib.hid hq
      have HKQ := Lib.hid hkq
      have HCE := Lib.hid hce
      have HRE := Lib.hid hre
      have HCAP := Lib.hid (show q ≤ e.c ∧ e.c ≤ maxLen from ⟨hcap1, hcap2⟩)
      have HEB := Lib.hid hebs
      have HELE := Lib.hid hele
      have HOP := Lib.hid hop
      have HSOK := Lib.hid hsok
      have HFI := Lib.hid hfirst
      have hce0 : w5.cell? ⟨g3, 0, none⟩ = some (.slice e.A q e.c) := hce
      have g0 : (0 : Int) < (n3 : Int) := by omega
      clear hq1 hej hsg hebs hsne hele hop hsok hfirst hq hk hkq hre hcap1 hcap2 hgl hce h0
      go_wp2_with fail
      try simp only [tm2]
      obtain ⟨wb0, hwb0⟩ : ∃ wb : Bool, wb = ((k : Int) == 0) := ⟨_, rfl⟩
      rw [← hwb0]
      have HWB0 := Lib.hid (show wb0 = decide (k = 0) from by rw [hwb0, Bool.eq_iff_iff, beq_iff_eq, decide_eq_true_iff]; omega)
      clear hwb0 tm2 q10 w2 hce0
      obtain ⟨SM, hSM⟩ : ∃ SM : Nat → Nat, SM = fun j => (encs encCl ((ys l).take j)).length := ⟨_, rfl⟩
      have HSM0 := Lib.hid (show SM 0 = 0 from by rw [hSM]; rfl)
      have HSMS := Lib.hid (show ∀ j (h : j < l.length), SM (j + 1) = SM j + (encCl l[j].y).length from fun j h => by
        rw [hSM]
        show (encs encCl ((ys l).take (j + 1))).length = _
        rw [encs_step encCl (ys l) (by rw [ys_length]; exact h), List.length_append]
        simp [ys])
      have HSM := Lib.hid hSM
      clear hSM
      go_loopw [13, 14, 15, 16] (fun su ma wh i wr => ∃ (j sj : Nat) (wb : Bool), j ≤ N ∧ i = .int .i64 j ∧ su = .int .i64 sj ∧ ma = .int .i64 j ∧ wh = .bool wb ∧ sj ≤ 103 * j ∧ Below w5.heap.size w5 wr ∧ Hid (sj = SM j ∧ wb = decide (k = 0 ∨ sj = k) ∧ (j = 0 ∨ SM (j - 1) < k))) (fun _ _ _ i _ => N - (intOf i).toNat)
      case atStart => exact ⟨0, 0, wb0, Nat.zero_le _, rfl, rfl, rfl, rfl, Nat.zero_le _, Below.refl _ _, Lib.hid ⟨HSM0.out.symm, by rw [HWB0.out]; congr 1; simp [eq_comm], .inl rfl⟩⟩
      case round =>
        obtain ⟨j, sj, wb, hj, rfl, rfl, rfl, rfl, hsb, hbw, HI⟩ := hrel
        have hnb := HNB.out
        by_cases hgo : j < N ∧ sj < k
        · have hklx : j < l.length := by rw [HL.out]; exact hgo.1
          obtain ⟨x, hxex⟩ : ∃ x, x = l[j] := ⟨_, rfl⟩
          have hxmx : x ∈ l := by rw [hxex]; exact List.getElem_mem hklx
          have hrdx := HR.out
          obtain ⟨ad, hAx, -, -⟩ := rd_cell hrdx hklx
          have hcellx : ∀ w', Below w.heap.size w w' → ∀ i v, (ccV x)[i]? = some v → w'.cell? ((ad.add (j * 11)).add i) = some v := fun w' hb' i v hv => by
            obtain ⟨ad', hA', _, hc⟩ := rd_cell (hrdx.below hb') hklx
            rw [hAx] at hA'
            injection hA' with hA'
            subst hA'
            exact hc i v (by rw [← hxex]; exact hv)
          obtain ⟨csx, hcsx⟩ : ∃ cs, cs = clA x.y x.A x.c := ⟨_, rfl⟩
          have HCWx := Lib.hid (show ∀ w', Below w.heap.size w w' → ∀ i v, csx.toList[i]? = some v → w'.cell? ((ad.add (j * 11)).add i) = some v from fun w' hb' i v hv => hcellx w' hb' i v (by rw [hcsx] at hv; exact hv))
          have HIx := Lib.hid (show (Try.prog.info? 44).map (·.size) = some csx.toList.length from by rw [hcsx]; kernel_rfl)
          have HCSx := Lib.hid hcsx
          have HXMx := Lib.hid hxmx
          have HXEx := Lib.hid hxex
          subst hAx
          have hokx := HALL.out x hxmx
          obtain ⟨z, hz⟩ : ∃ z, z = (encCl x.y).length := ⟨_, rfl⟩
          have hzl : z ≤ 103 := by rw [hz]; exact encCl_le hokx
          have HSZ := Lib.hid (show ∀ W, Calls Try.prog 21 #[.agg csx] W (RetB (.int .i64 (z : Int)) W) from fun W => by
            have h := size_any x.y x.A x.c W
            rw [if_pos hokx, ← hcsx, ← hz] at h; exact h)
          have hwbf : wb = false := by rw [HI.out.2.1]; exact decide_eq_false (by omega)
          subst hwbf
          obtain ⟨s1, hs1⟩ : ∃ s1, s1 = sj + z := ⟨_, rfl⟩
          have HS1 := Lib.hid (show s1 = SM (j + 1) from by rw [HSMS.out j hklx, ← hxex, ← hz, ← HI.out.1]; exact hs1)
          obtain ⟨wb2, hwb2⟩ : ∃ wb : Bool, wb = ((s1 : Int) == (k : Int)) := ⟨_, rfl⟩
          have HWB2 := Lib.hid (show wb2 = decide (k = 0 ∨ s1 = k) from by
            rw [hwb2, Bool.eq_iff_iff, beq_iff_eq, decide_eq_true_iff]; omega)
          have HPR := Lib.hid (show SM (j + 1 - 1) < k from by rw [Nat.add_sub_cancel, ← HI.out.1]; exact hgo.2)
          have k0 : (0 : Int) ≤ (j : Int) := by omega
          have k1 : (j : Int) < (N : Int) := by omega
          have k2 : (sj : Int) < (k : Int) := by omega
          have k3 : (N : Int) ≤ 6 := by omega
          have ws : IntKind.i64.wrap ((sj : Int) + (z : Int)) = (s1 : Int) := by rw [IntWalk.i64_in _ (by omega)]; omega
          have HB := Lib.hid (B5.out.trans (hbw.mono B5.out.size))
          have F := Lib.hid hbw
          have HS1B := Lib.hid (show s1 ≤ 103 * (j + 1) by omega)
          have HGO := Lib.hid hgo
          clear hxmx hrdx hcellx hcsx hxex hbw hokx hz hzl hs1 hgo hsb
          go_wp2_with (refine wpList_load_at rfl 44 (.tmp 83) rfl (ad.add (j * 11)) rfl (HCWx.out _ (HB.out)) Try.underlying44 rfl HIx.out ?_; change wpList _ _ _ _ (Act.put _ _ (.agg csx)) _)
          refine (HSZ.out _).mono ?_
          rintro e2 w7 ⟨rfl, bw⟩
          have F7 := Lib.hid (F.out.trans (bw.mono F.out.size))
          clear bw
          go_wp2_with fail
          try rw [← hwb2]
          go_roundw
          case rel => exact ⟨j + 1, s1, wb2, by have := HGO.out; omega, by go_num, rfl, by go_num, rfl, HS1B.out, F7.out, Lib.hid ⟨HS1.out, HWB2.out, .inr HPR.out⟩⟩
          case measure => (have := HGO.out; simp [intOf]; try omega)
        · obtain ⟨wv, hwv⟩ : ∃ v, v = wr := ⟨_, rfl⟩
          subst hwv
          have HB := Lib.hid (B5.out.trans (hbw.mono B5.out.size))
          have hks : k ≤ sj := by
            by_cases h1 : j < N
            · omega
            · have hjN : j = N := by omega
              have h2 := HI.out.1
              rw [HSM.out, hjN] at h2
              have h3 : (ys l).take N = ys l := List.take_of_length_le (by rw [ys_length, HL.out]; exact Nat.le_refl _)
              have h4 : (encs encCl sg).length ≤ (encs encCl (ys l)).length := by
                have h5 := encs_take encCl (ys l) sg.length
                rw [← HFI.out.1] at h5
                have h6 := congrArg List.length h5
                rw [List.length_take] at h6; omega
              have h7 := HKQ.out
              have h8 := HQ.out
              have h9 : sj = (encs encCl (ys l)).length := by rw [h2]; show (encs encCl ((ys l).take N)).length = _; rw [h3]
              rw [HEB.out] at h8
              omega
          obtain ⟨tk, htk⟩ : ∃ tk, tk = e.b.take k := ⟨_, rfl⟩
          have htkl : tk.length = k := by rw [htk, List.length_take, ← HQ.out]; have := HKQ.out; omega
          have htke : tk = (encs encCl (ys l)).take k := by
            have h5 := encs_take encCl (ys l) sg.length
            rw [← HFI.out.1] at h5
            rw [htk, HEB.out, ← h5, List.take_take, Nat.min_eq_left]
            rw [← HEB.out, ← HQ.out]; exact HKQ.out
          have hsj := HI.out.1
          have hopk : (wb = true ∧ openL tk = ((ys l).take j, true)) ∨ (wb = false ∧ openL tk = ([], false)) := by
            by_cases hw : k = 0 ∨ sj = k
            · left
              refine ⟨by rw [HI.out.2.1]; exact decide_eq_true hw, ?_⟩
              have hkj : k = SM j := by
                rcases hw with hw | hw
                · rcases HI.out.2.2 with h1 | h1
                  · rw [hw, h1, HSM0.out]
                  · omega
                · omega
              have h1 : tk = encs encCl ((ys l).take j) := by
                have h2 := encs_take encCl (ys l) j
                rw [htke, hkj, HSM.out]; exact h2
              rw [h1]
              refine open_yes (fun y hy => ?_) (by rw [← h1, htkl]; have := HKQ.out; have := HELE.out; omega)
              obtain ⟨c1, h3, rfl⟩ := List.mem_map.1 (List.mem_of_mem_take hy)
              exact HALL.out c1 h3
            · right
              refine ⟨by rw [HI.out.2.1]; exact decide_eq_false hw, ?_⟩
              have hj0 : j ≠ 0 := fun h => by rw [h, HSM0.out] at hsj; omega
              obtain ⟨m, rfl⟩ : ∃ m, j = m + 1 := ⟨j - 1, by omega⟩
              have hpr : SM m < k := by
                rcases HI.out.2.2 with h1 | h1
                · omega
                · exact h1
              have hml : m < l.length := by rw [HL.out]; omega
              have hst := HSMS.out m hml
              have hm2 : m < (ys l).length := by rw [ys_length]; exact hml
              have hmy : (ys l)[m] = l[m].y := by simp [ys]
              have hcut := encs_cut encCl (ys l) (k := k) hm2 (by have h := hpr; rw [HSM.out] at h; exact Nat.le_of_lt h) (by rw [hsj, HSM.out] at hks; exact hks)
              rw [hmy] at hcut
              rw [htke, hcut]
              have hsmm : (encs encCl ((ys l).take m)).length = SM m := by rw [HSM.out]
              rw [hsmm]
              have hokm : okCl l[m].y := HALL.out _ (List.getElem_mem hml)
              refine open_no (fun h => ?_) ?_ (fun y hy => ?_)
              · have := congrArg List.length h
                rw [List.length_take, List.length_nil] at this
                have h7 := encCl_pos hokm
                omega
              · rw [dec_cut hokm (by omega)]; decide
              · obtain ⟨c1, h3, rfl⟩ := List.mem_map.1 (List.mem_of_mem_take hy)
                exact HALL.out c1 h3
          have HTK := Lib.hid (show Rd wv.heap.size wv e.A (bv tk) from by rw [htk]; exact ((HRE.out.below hbw).more hbw.size).take k)
          have HTL := Lib.hid htkl
          have HREv := Lib.hid ((HRE.out.below hbw).more hbw.size)
          have HJN := Lib.hid hj
          have kk0 : (0 : Int) ≤ (k : Int) := by omega
          have kk1 : (k : Int) ≤ (e.c : Int) := by have := HKQ.out; have := HCAP.out; omega
          have kk2 : (k : Int) ≤ (q : Int) := by have := HKQ.out; omega
          have jj0 : (0 : Int) ≤ (j : Int) := by omega
          have jj1 : (j : Int) ≤ (N : Int) := by omega
          have jj2 : (j : Int) ≤ (c : Int) := by omega
          have HGO := Lib.hid hgo
          have HOPK := Lib.hid hopk
          clear hbw hsb hks htk htke hsj hopk hgo hj htkl
          by_cases hlt : j < N
          · have f1 : decide ((j : Int) < (N : Int)) = true := decide_eq_true (by omega)
            have f1n : decide (j < N) = true := decide_eq_true hlt
            have f2 : decide ((sj : Int) < (k : Int)) = false := decide_eq_false (by have := HGO.out; omega)
            have f2n : decide (sj < k) = false := decide_eq_false (by have := HGO.out; omega)
            clear hlt
            go_wp2_with fail
            refine (open_any wv e.A k e.c tk HTL.out ⟨by have := HKQ.out; have := HCAP.out; omega, HCAP.out.2⟩ HTK.out (Nat.le_refl _)).mono ?_
            rintro e9 w9 ⟨A9, n9, c9, cl9, rfl, ho9, hy9, ⟨hb9, _⟩, bw⟩
            have HB9 := Lib.hid (HB.out.trans (bw.mono HB.out.size))
            have HR9 := Lib.hid ((HREv.out.below bw).more bw.size)
            have N9 := Lib.hid ho9
            have C9 := Lib.hid hb9
            have Y9 := Lib.hid hy9
            clear ho9 hy9 hb9 bw
            rcases HOPK.out with ⟨hw, ho⟩ | ⟨hw, ho⟩
            · subst hw
              have Y9b := Lib.hid (show ys cl9 = (ys l).take j from by rw [Y9.out, ho])
              have e1 : (openL tk).2 = true := by rw [ho]
              have HSM2 := Lib.hid (show Calls Try.prog 19 #[.slice A9 n9 c9, .slice A j c] w9 (RetB (.bool true) w9) from by
                have hl9 : cl9.length = n9 := by have h1 := N9.out.1; rw [ccs_length] at h1; omega
                have hn9 : n9 ≤ 1000 := by
                  have h1 := congrArg List.length Y9b.out
                  rw [ys_length, hl9, List.length_take, ys_length, HL.out] at h1
                  have := HNB.out; omega
                have hlj : (l.take j).length = j := by rw [List.length_take, HL.out]; have := HJN.out; omega
                have h := qsame_any w9 A9 A n9 j c9 c cl9 (l.take j) hl9 hlj (Rd.ownN N9.out) (((rd_ccs_take HR.out j).below HB9.out).more HB9.out.size) (fun c1 hc => (C9.out c1 hc).1) (fun c1 hc => ((HBO.out c1 (List.mem_of_mem_take hc)).below HB9.out).more HB9.out.size) (Nat.le_refl _) hn9 (by have := HNB.out; have := HJN.out; omega)
                rw [decide_eq_true (by rw [Y9b.out, ys_take])] at h; exact h)
              rw [e1]
              clear ho e1
              go_wp2_with fail
              refine HSM2.out.mono ?_
              rintro e3 w10 ⟨rfl, bw⟩
              have HB10 := Lib.hid (HB9.out.trans (bw.mono HB9.out.size))
              have HR10 := Lib.hid ((HR9.out.below bw).more bw.size)
              clear bw
              go_upto_region 25 with fail
              obtain ⟨bb, hbb⟩ : ∃ bb : UInt8, b = (bb.toNat : Int) := ⟨UInt8.ofNat b.toNat, by have h1 := HAB.out.2.1; have h2 := HAB.out.2.2; rw [UInt8.toNat_ofNat']; omega⟩
              by_cases h1 : 1 ≤ b
              · have m1 : decide ((1 : Int) ≤ b) = true := decide_eq_true h1
                by_cases h8 : b ≤ 8
                · have m2 : decide (b ≤ 8) = true := decide_eq_true h8
                  clear h1 h8 hbb
                  go_wp2_with fail
                  go_ret
                  exact ⟨rfl, HB10.out⟩
                · have m2 : decide (b ≤ 8) = false := decide_eq_false h8
                  have HBAD := Lib.hid (show openL (e.b ++ [bb]) = ([], false) from by rw [HEB.out]; exact open_no (by simp) (dec_bad8 (by omega)) HSOK.out)
                  have HBB := Lib.hid hbb.symm
                  clear h1 h8 hbb
                  go_wp2_with (show wpList _ _ _ ({ dst := some 125, op := .call { callee := .builtin .append, args := #[.tmp 123, .tmp 124], argTypes := #[34, 34] }, type := _, pos := _, after := _, guard := _ } :: _) _ _; apply Classical.byContradiction; intro hneg)
                  refine hneg ?_
                  clear hneg
                  obtain ⟨w11, hw11⟩ : ∃ v, v = w10.alloc (.cells #[] 5) := ⟨_, rfl⟩
                  have b11 : Below w10.heap.size w10 w11 := by rw [hw11]; exact (Below.refl _ _).alloc (Nat.le_refl _) _
                  have o11 : w11.ownsRow w10.heap.size 5 1 (.slice (some ⟨w10.heap.size, 0, none⟩) 0 0) 0 [] := by rw [hw11]; exact World.ownsRow_made _ #[] 0 (Nat.le_refl _) (Nat.zero_le _) rfl
                  rw [← hw11]
                  have B11 := Lib.hid b11
                  have O11 := Lib.hid o11
                  have R11 := Lib.hid (HR10.out.below b11)
                  clear hw11 b11 o11
                  refine wpList_app _ rfl (.tmp 123) (.tmp 124) _ rfl Wi.bytesElt (base := w10.heap.size) (v := .slice (some ⟨w10.heap.size, 0, none⟩) 0 0) rfl O11.out (m := q) rfl R11.out (by rw [bv_length]; exact HQ.out.symm) (bv_one _) (by have := HELE.out; omega) B11.out.size ?_
                  intro A12 c12 w12 ho12 hg12 _
                  have B12 := Lib.hid (app_below B11.out O11.out hg12 (Nat.le_refl _) B11.out.size)
                  have O12 := Lib.hid (own_eq ho12 (Nat.zero_add q) (List.nil_append _))
                  rw [Nat.zero_add]
                  clear ho12 hg12 B11 O11 R11
                  have W13 := Lib.hid (show Below w12.heap.size w12 (w12.alloc (.cells #[.int .u8 b] 5)) from (Below.refl _ _).alloc (Nat.le_refl _) _)
                  have R13 := Lib.hid (show Rd (w12.heap.size + 1) (w12.alloc (.cells #[.int .u8 b] 5)) (some ⟨w12.heap.size, 0, .none⟩) (bv [bb]) from by
                    have h := Rd.lit w12 5 (bv [bb])
                    rw [show (bv [bb]).toArray = #[.int .u8 b] from by simp [bv, HBB.out]] at h
                    exact h)
                  have O13 := Lib.hid (own_below O12.out W13.out)
                  go_wp2_with (show wpList _ _ _ ({ dst := some 128, op := .call { callee := .builtin .append, args := #[.tmp 125, .tmp 127], argTypes := #[34, 34] }, type := _, pos := _, after := _, guard := _ } :: _) _ _; apply Classical.byContradiction; intro hneg)
                  refine hneg ?_
                  clear hneg
                  refine wpList_app _ rfl (.tmp 125) (.tmp 127) _ rfl Wi.bytesElt (base := w10.heap.size) (v := .slice A12 q c12) rfl O13.out (m := 1) rfl R13.out rfl (bv_one _) (by have := HELE.out; omega) (Nat.le_trans B12.out.size W13.out.size) ?_
                  intro A14 c14 w14 ho14 hg14 _
                  have B14 := Lib.hid (app_below (B12.out.trans (W13.out.mono B12.out.size)) O13.out hg14 (Nat.le_refl _) (Nat.le_trans B12.out.size W13.out.size))
                  have O14 := Lib.hid (own_eq ho14 rfl (bv_append _ _).symm)
                  have HB14 := Lib.hid (HB10.out.trans (B14.out.mono HB10.out.size))
                  have HCP14 := Lib.hid (own_caps O14.out)
                  clear ho14 hg14 B12 O12 R13 O13 W13
                  go_wp2_with fail
                  refine (open_any w14 A14 (q + 1) c14 (e.b ++ [bb]) (by rw [List.length_append, ← HQ.out]; rfl) HCP14.out (Rd.own O14.out) (Nat.le_refl _)).mono ?_
                  rintro e15 w15 ⟨A15, n15, c15, cl15, rfl, _, _, _, bw⟩
                  rw [HBAD.out]
                  have HB15 := Lib.hid (HB14.out.trans (bw.mono HB14.out.size))
                  clear bw
                  go_wp2_with fail
                  go_ret
                  exact ⟨rfl, HB15.out⟩
              · have m1 : decide ((1 : Int) ≤ b) = false := decide_eq_false h1
                have HBAD := Lib.hid (show openL (e.b ++ [bb]) = ([], false) from by rw [HEB.out]; exact open_no (by simp) (dec_bad8 (by omega)) HSOK.out)
                have HBB := Lib.hid hbb.symm
                clear h1 hbb
                go_wp2_with (show wpList _ _ _ ({ dst := some 125, op := .call { callee := .builtin .append, args := #[.tmp 123, .tmp 124], argTypes := #[34, 34] }, type := _, pos := _, after := _, guard := _ } :: _) _ _; apply Classical.byContradiction; intro hneg)
                refine hneg ?_
                clear hneg
                obtain ⟨w11, hw11⟩ : ∃ v, v = w10.alloc (.cells #[] 5) := ⟨_, rfl⟩
                have b11 : Below w10.heap.size w10 w11 := by rw [hw11]; exact (Below.refl _ _).alloc (Nat.le_refl _) _
                have o11 : w11.ownsRow w10.heap.size 5 1 (.slice (some ⟨w10.heap.size, 0, none⟩) 0 0) 0 [] := by rw [hw11]; exact World.ownsRow_made _ #[] 0 (Nat.le_refl _) (Nat.zero_le _) rfl
                rw [← hw11]
                have B11 := Lib.hid b11
                have O11 := Lib.hid o11
                have R11 := Lib.hid (HR10.out.below b11)
                clear hw11 b11 o11
                refine wpList_app _ rfl (.tmp 123) (.tmp 124) _ rfl Wi.bytesElt (base := w10.heap.size) (v := .slice (some ⟨w10.heap.size, 0, none⟩) 0 0) rfl O11.out (m := q) rfl R11.out (by rw [bv_length]; exact HQ.out.symm) (bv_one _) (by have := HELE.out; omega) B11.out.size ?_
                intro A12 c12 w12 ho12 hg12 _
                have B12 := Lib.hid (app_below B11.out O11.out hg12 (Nat.le_refl _) B11.out.size)
                have O12 := Lib.hid (own_eq ho12 (Nat.zero_add q) (List.nil_append _))
                rw [Nat.zero_add]
                clear ho12 hg12 B11 O11 R11
                have W13 := Lib.hid (show Below w12.heap.size w12 (w12.alloc (.cells #[.int .u8 b] 5)) from (Below.refl _ _).alloc (Nat.le_refl _) _)
                have R13 := Lib.hid (show Rd (w12.heap.size + 1) (w12.alloc (.cells #[.int .u8 b] 5)) (some ⟨w12.heap.size, 0, .none⟩) (bv [bb]) from by
                  have h := Rd.lit w12 5 (bv [bb])
                  rw [show (bv [bb]).toArray = #[.int .u8 b] from by simp [bv, HBB.out]] at h
                  exact h)
                have O13 := Lib.hid (own_below O12.out W13.out)
                go_wp2_with (show wpList _ _ _ ({ dst := some 128, op := .call { callee := .builtin .append, args := #[.tmp 125, .tmp 127], argTypes := #[34, 34] }, type := _, pos := _, after := _, guard := _ } :: _) _ _; apply Classical.byContradiction; intro hneg)
                refine hneg ?_
                clear hneg
                refine wpList_app _ rfl (.tmp 125) (.tmp 127) _ rfl Wi.bytesElt (base := w10.heap.size) (v := .slice A12 q c12) rfl O13.out (m := 1) rfl R13.out rfl (bv_one _) (by have := HELE.out; omega) (Nat.le_trans B12.out.size W13.out.size) ?_
                intro A14 c14 w14 ho14 hg14 _
                have B14 := Lib.hid (app_below (B12.out.trans (W13.out.mono B12.out.size)) O13.out hg14 (Nat.le_refl _) (Nat.le_trans B12.out.size W13.out.size))
                have O14 := Lib.hid (own_eq ho14 rfl (bv_append _ _).symm)
                have HB14 := Lib.hid (HB10.out.trans (B14.out.mono HB10.out.size))
                have HCP14 := Lib.hid (own_caps O14.out)
                clear ho14 hg14 B12 O12 R13 O13 W13
                go_wp2_with fail
                refine (open_any w14 A14 (q + 1) c14 (e.b ++ [bb]) (by rw [List.length_append, ← HQ.out]; rfl) HCP14.out (Rd.own O14.out) (Nat.le_refl _)).mono ?_
                rintro e15 w15 ⟨A15, n15, c15, cl15, rfl, _, _, _, bw⟩
                rw [HBAD.out]
                have HB15 := Lib.hid (HB14.out.trans (bw.mono HB14.out.size))
                clear bw
                go_wp2_with fail
                go_ret
                exact ⟨rfl, HB15.out⟩
            · subst hw
              have e1 : (openL tk).2 = false := by rw [ho]
              rw [e1]
              have HB10 := HB9
              have HR10 := HR9
              clear ho e1
              obtain ⟨w10, hw10⟩ : ∃ v, v = w9 := ⟨_, rfl⟩
              subst hw10
              go_upto_region 25 with fail
              obtain ⟨bb, hbb⟩ : ∃ bb : UInt8, b = (bb.toNat : Int) := ⟨UInt8.ofNat b.toNat, by have h1 := HAB.out.2.1; have h2 := HAB.out.2.2; rw [UInt8.toNat_ofNat']; omega⟩
              by_cases h1 : 1 ≤ b
              · have m1 : decide ((1 : Int) ≤ b) = true := decide_eq_true h1
                by_cases h8 : b ≤ 8
                · have m2 : decide (b ≤ 8) = true := decide_eq_true h8
                  clear h1 h8 hbb
                  go_wp2_with fail
                  go_ret
                  exact ⟨rfl, HB10.out⟩
                · have m2 : decide (b ≤ 8) = false := decide_eq_false h8
                  have HBAD := Lib.hid (show openL (e.b ++ [bb]) = ([], false) from by rw [HEB.out]; exact open_no (by simp) (dec_bad8 (by omega)) HSOK.out)
                  have HBB := Lib.hid hbb.symm
                  clear h1 h8 hbb
                  go_wp2_with (show wpList _ _ _ ({ dst := some 125, op := .call { callee := .builtin .append, args := #[.tmp 123, .tmp 124], argTypes := #[34, 34] }, type := _, pos := _, after := _, guard := _ } :: _) _ _; apply Classical.byContradiction; intro hneg)
                  refine hneg ?_
                  clear hneg
                  obtain ⟨w11, hw11⟩ : ∃ v, v = w10.alloc (.cells #[] 5) := ⟨_, rfl⟩
                  have b11 : Below w10.heap.size w10 w11 := by rw [hw11]; exact (Below.refl _ _).alloc (Nat.le_refl _) _
                  have o11 : w11.ownsRow w10.heap.size 5 1 (.slice (some ⟨w10.heap.size, 0, none⟩) 0 0) 0 [] := by rw [hw11]; exact World.ownsRow_made _ #[] 0 (Nat.le_refl _) (Nat.zero_le _) rfl
                  rw [← hw11]
                  have B11 := Lib.hid b11
                  have O11 := Lib.hid o11
                  have R11 := Lib.hid (HR10.out.below b11)
                  clear hw11 b11 o11
                  refine wpList_app _ rfl (.tmp 123) (.tmp 124) _ rfl Wi.bytesElt (base := w10.heap.size) (v := .slice (some ⟨w10.heap.size, 0, none⟩) 0 0) rfl O11.out (m := q) rfl R11.out (by rw [bv_length]; exact HQ.out.symm) (bv_one _) (by have := HELE.out; omega) B11.out.size ?_
                  intro A12 c12 w12 ho12 hg12 _
                  have B12 := Lib.hid (app_below B11.out O11.out hg12 (Nat.le_refl _) B11.out.size)
                  have O12 := Lib.hid (own_eq ho12 (Nat.zero_add q) (List.nil_append _))
                  rw [Nat.zero_add]
                  clear ho12 hg12 B11 O11 R11
                  have W13 := Lib.hid (show Below w12.heap.size w12 (w12.alloc (.cells #[.int .u8 b] 5)) from (Below.refl _ _).alloc (Nat.le_refl _) _)
                  have R13 := Lib.hid (show Rd (w12.heap.size + 1) (w12.alloc (.cells #[.int .u8 b] 5)) (some ⟨w12.heap.size, 0, .none⟩) (bv [bb]) from by
                    have h := Rd.lit w12 5 (bv [bb])
                    rw [show (bv [bb]).toArray = #[.int .u8 b] from by simp [bv, HBB.out]] at h
                    exact h)
                  have O13 := Lib.hid (own_below O12.out W13.out)
                  go_wp2_with (show wpList _ _ _ ({ dst := some 128, op := .call { callee := .builtin .append, args := #[.tmp 125, .tmp 127], argTypes := #[34, 34] }, type := _, pos := _, after := _, guard := _ } :: _) _ _; apply Classical.byContradiction; intro hneg)
                  refine hneg ?_
                  clear hneg
                  refine wpList_app _ rfl (.tmp 125) (.tmp 127) _ rfl Wi.bytesElt (base := w10.heap.size) (v := .slice A12 q c12) rfl O13.out (m := 1) rfl R13.out rfl (bv_one _) (by have := HELE.out; omega) (Nat.le_trans B12.out.size W13.out.size) ?_
                  intro A14 c14 w14 ho14 hg14 _
                  have B14 := Lib.hid (app_below (B12.out.trans (W13.out.mono B12.out.size)) O13.out hg14 (Nat.le_refl _) (Nat.le_trans B12.out.size W13.out.size))
                  have O14 := Lib.hid (own_eq ho14 rfl (bv_append _ _).symm)
                  have HB14 := Lib.hid (HB10.out.trans (B14.out.mono HB10.out.size))
                  have HCP14 := Lib.hid (own_caps O14.out)
                  clear ho14 hg14 B12 O12 R13 O13 W13
                  go_wp2_with fail
                  refine (open_any w14 A14 (q + 1) c14 (e.b ++ [bb]) (by rw [List.length_append, ← HQ.out]; rfl) HCP14.out (Rd.own O14.out) (Nat.le_refl _)).mono ?_
                  rintro e15 w15 ⟨A15, n15, c15, cl15, rfl, _, _, _, bw⟩
                  rw [HBAD.out]
                  have HB15 := Lib.hid (HB14.out.trans (bw.mono HB14.out.size))
                  clear bw
                  go_wp2_with fail
                  go_ret
                  exact ⟨rfl, HB15.out⟩
              · have m1 : decide ((1 : Int) ≤ b) = false := decide_eq_false h1
                have HBAD := Lib.hid (show openL (e.b ++ [bb]) = ([], false) from by rw [HEB.out]; exact open_no (by simp) (dec_bad8 (by omega)) HSOK.out)
                have HBB := Lib.hid hbb.symm
                clear h1 hbb
                go_wp2_with (show wpList _ _ _ ({ dst := some 125, op := .call { callee := .builtin .append, args := #[.tmp 123, .tmp 124], argTypes := #[34, 34] }, type := _, pos := _, after := _, guard := _ } :: _) _ _; apply Classical.byContradiction; intro hneg)
                refine hneg ?_
                clear hneg
                obtain ⟨w11, hw11⟩ : ∃ v, v = w10.alloc (.cells #[] 5) := ⟨_, rfl⟩
                have b11 : Below w10.heap.size w10 w11 := by rw [hw11]; exact (Below.refl _ _).alloc (Nat.le_refl _) _
                have o11 : w11.ownsRow w10.heap.size 5 1 (.slice (some ⟨w10.heap.size, 0, none⟩) 0 0) 0 [] := by rw [hw11]; exact World.ownsRow_made _ #[] 0 (Nat.le_refl _) (Nat.zero_le _) rfl
                rw [← hw11]
                have B11 := Lib.hid b11
                have O11 := Lib.hid o11
                have R11 := Lib.hid (HR10.out.below b11)
                clear hw11 b11 o11
                refine wpList_app _ rfl (.tmp 123) (.tmp 124) _ rfl Wi.bytesElt (base := w10.heap.size) (v := .slice (some ⟨w10.heap.size, 0, none⟩) 0 0) rfl O11.out (m := q) rfl R11.out (by rw [bv_length]; exact HQ.out.symm) (bv_one _) (by have := HELE.out; omega) B11.out.size ?_
                intro A12 c12 w12 ho12 hg12 _
                have B12 := Lib.hid (app_below B11.out O11.out hg12 (Nat.le_refl _) B11.out.size)
                have O12 := Lib.hid (own_eq ho12 (Nat.zero_add q) (List.nil_append _))
                rw [Nat.zero_add]
                clear ho12 hg12 B11 O11 R11
                have W13 := Lib.hid (show Below w12.heap.size w12 (w12.alloc (.cells #[.int .u8 b] 5)) from (Below.refl _ _).alloc (Nat.le_refl _) _)
                have R13 := Lib.hid (show Rd (w12.heap.size + 1) (w12.alloc (.cells #[.int .u8 b] 5)) (some ⟨w12.heap.size, 0, .none⟩) (bv [bb]) from by
                  have h := Rd.lit w12 5 (bv [bb])
                  rw [show (bv [bb]).toArray = #[.int .u8 b] from by simp [bv, HBB.out]] at h
                  exact h)
                have O13 := Lib.hid (own_below O12.out W13.out)
                go_wp2_with (show wpList _ _ _ ({ dst := some 128, op := .call { callee := .builtin .append, args := #[.tmp 125, .tmp 127], argTypes := #[34, 34] }, type := _, pos := _, after := _, guard := _ } :: _) _ _; apply Classical.byContradiction; intro hneg)
                refine hneg ?_
                clear hneg
                refine wpList_app _ rfl (.tmp 125) (.tmp 127) _ rfl Wi.bytesElt (base := w10.heap.size) (v := .slice A12 q c12) rfl O13.out (m := 1) rfl R13.out rfl (bv_one _) (by have := HELE.out; omega) (Nat.le_trans B12.out.size W13.out.size) ?_
                intro A14 c14 w14 ho14 hg14 _
                have B14 := Lib.hid (app_below (B12.out.trans (W13.out.mono B12.out.size)) O13.out hg14 (Nat.le_refl _) (Nat.le_trans B12.out.size W13.out.size))
                have O14 := Lib.hid (own_eq ho14 rfl (bv_append _ _).symm)
                have HB14 := Lib.hid (HB10.out.trans (B14.out.mono HB10.out.size))
                have HCP14 := Lib.hid (own_caps O14.out)
                clear ho14 hg14 B12 O12 R13 O13 W13
                go_wp2_with fail
                refine (open_any w14 A14 (q + 1) c14 (e.b ++ [bb]) (by rw [List.length_append, ← HQ.out]; rfl) HCP14.out (Rd.own O14.out) (Nat.le_refl _)).mono ?_
                rintro e15 w15 ⟨A15, n15, c15, cl15, rfl, _, _, _, bw⟩
                rw [HBAD.out]
                have HB15 := Lib.hid (HB14.out.trans (bw.mono HB14.out.size))
                clear bw
                go_wp2_with fail
                go_ret
                exact ⟨rfl, HB15.out⟩
          · have f1 : decide ((j : Int) < (N : Int)) = false := decide_eq_false (by omega)
            have f1n : decide (j < N) = false := decide_eq_false hlt
            clear hlt
            go_wp2_with fail
            refine (open_any wv e.A k e.c tk HTL.out ⟨by have := HKQ.out; have := HCAP.out; omega, HCAP.out.2⟩ HTK.out (Nat.le_refl _)).mono ?_
            rintro e9 w9 ⟨A9, n9, c9, cl9, rfl, ho9, hy9, ⟨hb9, _⟩, bw⟩
            have HB9 := Lib.hid (HB.out.trans (bw.mono HB.out.size))
            have HR9 := Lib.hid ((HREv.out.below bw).more bw.size)
            have N9 := Lib.hid ho9
            have C9 := Lib.hid hb9
            have Y9 := Lib.hid hy9
            clear ho9 hy9 hb9 bw
            rcases HOPK.out with ⟨hw, ho⟩ | ⟨hw, ho⟩
            · subst hw
              have Y9b := Lib.hid (show ys cl9 = (ys l).take j from by rw [Y9.out, ho])
              have e1 : (openL tk).2 = true := by rw [ho]
              have HSM2 := Lib.hid (show Calls Try.prog 19 #[.slice A9 n9 c9, .slice A j c] w9 (RetB (.bool true) w9) from by
                have hl9 : cl9.length = n9 := by have h1 := N9.out.1; rw [ccs_length] at h1; omega
                have hn9 : n9 ≤ 1000 := by
                  have h1 := congrArg List.length Y9b.out
                  rw [ys_length, hl9, List.length_take, ys_length, HL.out] at h1
                  have := HNB.out; omega
                have hlj : (l.take j).length = j := by rw [List.length_take, HL.out]; have := HJN.out; omega
                have h := qsame_any w9 A9 A n9 j c9 c cl9 (l.take j) hl9 hlj (Rd.ownN N9.out) (((rd_ccs_take HR.out j).below HB9.out).more HB9.out.size) (fun c1 hc => (C9.out c1 hc).1) (fun c1 hc => ((HBO.out c1 (List.mem_of_mem_take hc)).below HB9.out).more HB9.out.size) (Nat.le_refl _) hn9 (by have := HNB.out; have := HJN.out; omega)
                rw [decide_eq_true (by rw [Y9b.out, ys_take])] at h; exact h)
              rw [e1]
              clear ho e1
              go_wp2_with fail
              refine HSM2.out.mono ?_
              rintro e3 w10 ⟨rfl, bw⟩
              have HB10 := Lib.hid (HB9.out.trans (bw.mono HB9.out.size))
              have HR10 := Lib.hid ((HR9.out.below bw).more bw.size)
              clear bw
              go_upto_region 25 with fail
              obtain ⟨bb, hbb⟩ : ∃ bb : UInt8, b = (bb.toNat : Int) := ⟨UInt8.ofNat b.toNat, by have h1 := HAB.out.2.1; have h2 := HAB.out.2.2; rw [UInt8.toNat_ofNat']; omega⟩
              by_cases h1 : 1 ≤ b
              · have m1 : decide ((1 : Int) ≤ b) = true := decide_eq_true h1
                by_cases h8 : b ≤ 8
                · have m2 : decide (b ≤ 8) = true := decide_eq_true h8
                  clear h1 h8 hbb
                  go_wp2_with fail
                  go_ret
                  exact ⟨rfl, HB10.out⟩
                · have m2 : decide (b ≤ 8) = false := decide_eq_false h8
                  have HBAD := Lib.hid (show openL (e.b ++ [bb]) = ([], false) from by rw [HEB.out]; exact open_no (by simp) (dec_bad8 (by omega)) HSOK.out)
                  have HBB := Lib.hid hbb.symm
                  clear h1 h8 hbb
                  go_wp2_with (show wpList _ _ _ ({ dst := some 125, op := .call { callee := .builtin .append, args := #[.tmp 123, .tmp 124], argTypes := #[34, 34] }, type := _, pos := _, after := _, guard := _ } :: _) _ _; apply Classical.byContradiction; intro hneg)
                  refine hneg ?_
                  clear hneg
                  obtain ⟨w11, hw11⟩ : ∃ v, v = w10.alloc (.cells #[] 5) := ⟨_, rfl⟩
                  have b11 : Below w10.heap.size w10 w11 := by rw [hw11]; exact (Below.refl _ _).alloc (Nat.le_refl _) _
                  have o11 : w11.ownsRow w10.heap.size 5 1 (.slice (some ⟨w10.heap.size, 0, none⟩) 0 0) 0 [] := by rw [hw11]; exact World.ownsRow_made _ #[] 0 (Nat.le_refl _) (Nat.zero_le _) rfl
                  rw [← hw11]
                  have B11 := Lib.hid b11
                  have O11 := Lib.hid o11
                  have R11 := Lib.hid (HR10.out.below b11)
                  clear hw11 b11 o11
                  refine wpList_app _ rfl (.tmp 123) (.tmp 124) _ rfl Wi.bytesElt (base := w10.heap.size) (v := .slice (some ⟨w10.heap.size, 0, none⟩) 0 0) rfl O11.out (m := q) rfl R11.out (by rw [bv_length]; exact HQ.out.symm) (bv_one _) (by have := HELE.out; omega) B11.out.size ?_
                  intro A12 c12 w12 ho12 hg12 _
                  have B12 := Lib.hid (app_below B11.out O11.out hg12 (Nat.le_refl _) B11.out.size)
                  have O12 := Lib.hid (own_eq ho12 (Nat.zero_add q) (List.nil_append _))
                  rw [Nat.zero_add]
                  clear ho12 hg12 B11 O11 R11
                  have W13 := Lib.hid (show Below w12.heap.size w12 (w12.alloc (.cells #[.int .u8 b] 5)) from (Below.refl _ _).alloc (Nat.le_refl _) _)
                  have R13 := Lib.hid (show Rd (w12.heap.size + 1) (w12.alloc (.cells #[.int .u8 b] 5)) (some ⟨w12.heap.size, 0, .none⟩) (bv [bb]) from by
                    have h := Rd.lit w12 5 (bv [bb])
                    rw [show (bv [bb]).toArray = #[.int .u8 b] from by simp [bv, HBB.out]] at h
                    exact h)
                  have O13 := Lib.hid (own_below O12.out W13.out)
                  go_wp2_with (show wpList _ _ _ ({ dst := some 128, op := .call { callee := .builtin .append, args := #[.tmp 125, .tmp 127], argTypes := #[34, 34] }, type := _, pos := _, after := _, guard := _ } :: _) _ _; apply Classical.byContradiction; intro hneg)
                  refine hneg ?_
                  clear hneg
                  refine wpList_app _ rfl (.tmp 125) (.tmp 127) _ rfl Wi.bytesElt (base := w10.heap.size) (v := .slice A12 q c12) rfl O13.out (m := 1) rfl R13.out rfl (bv_one _) (by have := HELE.out; omega) (Nat.le_trans B12.out.size W13.out.size) ?_
                  intro A14 c14 w14 ho14 hg14 _
                  have B14 := Lib.hid (app_below (B12.out.trans (W13.out.mono B12.out.size)) O13.out hg14 (Nat.le_refl _) (Nat.le_trans B12.out.size W13.out.size))
                  have O14 := Lib.hid (own_eq ho14 rfl (bv_append _ _).symm)
                  have HB14 := Lib.hid (HB10.out.trans (B14.out.mono HB10.out.size))
                  have HCP14 := Lib.hid (own_caps O14.out)
                  clear ho14 hg14 B12 O12 R13 O13 W13
                  go_wp2_with fail
                  refine (open_any w14 A14 (q + 1) c14 (e.b ++ [bb]) (by rw [List.length_append, ← HQ.out]; rfl) HCP14.out (Rd.own O14.out) (Nat.le_refl _)).mono ?_
                  rintro e15 w15 ⟨A15, n15, c15, cl15, rfl, _, _, _, bw⟩
                  rw [HBAD.out]
                  have HB15 := Lib.hid (HB14.out.trans (bw.mono HB14.out.size))
                  clear bw
                  go_wp2_with fail
                  go_ret
                  exact ⟨rfl, HB15.out⟩
              · have m1 : decide ((1 : Int) ≤ b) = false := decide_eq_false h1
                have HBAD := Lib.hid (show openL (e.b ++ [bb]) = ([], false) from by rw [HEB.out]; exact open_no (by simp) (dec_bad8 (by omega)) HSOK.out)
                have HBB := Lib.hid hbb.symm
                clear h1 hbb
                go_wp2_with (show wpList _ _ _ ({ dst := some 125, op := .call { callee := .builtin .append, args := #[.tmp 123, .tmp 124], argTypes := #[34, 34] }, type := _, pos := _, after := _, guard := _ } :: _) _ _; apply Classical.byContradiction; intro hneg)
                refine hneg ?_
                clear hneg
                obtain ⟨w11, hw11⟩ : ∃ v, v = w10.alloc (.cells #[] 5) := ⟨_, rfl⟩
                have b11 : Below w10.heap.size w10 w11 := by rw [hw11]; exact (Below.refl _ _).alloc (Nat.le_refl _) _
                have o11 : w11.ownsRow w10.heap.size 5 1 (.slice (some ⟨w10.heap.size, 0, none⟩) 0 0) 0 [] := by rw [hw11]; exact World.ownsRow_made _ #[] 0 (Nat.le_refl _) (Nat.zero_le _) rfl
                rw [← hw11]
                have B11 := Lib.hid b11
                have O11 := Lib.hid o11
                have R11 := Lib.hid (HR10.out.below b11)
                clear hw11 b11 o11
                refine wpList_app _ rfl (.tmp 123) (.tmp 124) _ rfl Wi.bytesElt (base := w10.heap.size) (v := .slice (some ⟨w10.heap.size, 0, none⟩) 0 0) rfl O11.out (m := q) rfl R11.out (by rw [bv_length]; exact HQ.out.symm) (bv_one _) (by have := HELE.out; omega) B11.out.size ?_
                intro A12 c12 w12 ho12 hg12 _
                have B12 := Lib.hid (app_below B11.out O11.out hg12 (Nat.le_refl _) B11.out.size)
                have O12 := Lib.hid (own_eq ho12 (Nat.zero_add q) (List.nil_append _))
                rw [Nat.zero_add]
                clear ho12 hg12 B11 O11 R11
                have W13 := Lib.hid (show Below w12.heap.size w12 (w12.alloc (.cells #[.int .u8 b] 5)) from (Below.refl _ _).alloc (Nat.le_refl _) _)
                have R13 := Lib.hid (show Rd (w12.heap.size + 1) (w12.alloc (.cells #[.int .u8 b] 5)) (some ⟨w12.heap.size, 0, .none⟩) (bv [bb]) from by
                  have h := Rd.lit w12 5 (bv [bb])
                  rw [show (bv [bb]).toArray = #[.int .u8 b] from by simp [bv, HBB.out]] at h
                  exact h)
                have O13 := Lib.hid (own_below O12.out W13.out)
                go_wp2_with (show wpList _ _ _ ({ dst := some 128, op := .call { callee := .builtin .append, args := #[.tmp 125, .tmp 127], argTypes := #[34, 34] }, type := _, pos := _, after := _, guard := _ } :: _) _ _; apply Classical.byContradiction; intro hneg)
                refine hneg ?_
                clear hneg
                refine wpList_app _ rfl (.tmp 125) (.tmp 127) _ rfl Wi.bytesElt (base := w10.heap.size) (v := .slice A12 q c12) rfl O13.out (m := 1) rfl R13.out rfl (bv_one _) (by have := HELE.out; omega) (Nat.le_trans B12.out.size W13.out.size) ?_
                intro A14 c14 w14 ho14 hg14 _
                have B14 := Lib.hid (app_below (B12.out.trans (W13.out.mono B12.out.size)) O13.out hg14 (Nat.le_refl _) (Nat.le_trans B12.out.size W13.out.size))
                have O14 := Lib.hid (own_eq ho14 rfl (bv_append _ _).symm)
                have HB14 := Lib.hid (HB10.out.trans (B14.out.mono HB10.out.size))
                have HCP14 := Lib.hid (own_caps O14.out)
                clear ho14 hg14 B12 O12 R13 O13 W13
                go_wp2_with fail
                refine (open_any w14 A14 (q + 1) c14 (e.b ++ [bb]) (by rw [List.length_append, ← HQ.out]; rfl) HCP14.out (Rd.own O14.out) (Nat.le_refl _)).mono ?_
                rintro e15 w15 ⟨A15, n15, c15, cl15, rfl, _, _, _, bw⟩
                rw [HBAD.out]
                have HB15 := Lib.hid (HB14.out.trans (bw.mono HB14.out.size))
                clear bw
                go_wp2_with fail
                go_ret
                exact ⟨rfl, HB15.out⟩
            · subst hw
              have e1 : (openL tk).2 = false := by rw [ho]
              rw [e1]
              have HB10 := HB9
              have HR10 := HR9
              clear ho e1
              obtain ⟨w10, hw10⟩ : ∃ v, v = w9 := ⟨_, rfl⟩
              subst hw10
              go_upto_region 25 with fail
              obtain ⟨bb, hbb⟩ : ∃ bb : UInt8, b = (bb.toNat : Int) := ⟨UInt8.ofNat b.toNat, by have h1 := HAB.out.2.1; have h2 := HAB.out.2.2; rw [UInt8.toNat_ofNat']; omega⟩
              by_cases h1 : 1 ≤ b
              · have m1 : decide ((1 : Int) ≤ b) = true := decide_eq_true h1
                by_cases h8 : b ≤ 8
                · have m2 : decide (b ≤ 8) = true := decide_eq_true h8
                  clear h1 h8 hbb
                  go_wp2_with fail
                  go_ret
                  exact ⟨rfl, HB10.out⟩
                · have m2 : decide (b ≤ 8) = false := decide_eq_false h8
                  have HBAD := Lib.hid (show openL (e.b ++ [bb]) = ([], false) from by rw [HEB.out]; exact open_no (by simp) (dec_bad8 (by omega)) HSOK.out)
                  have HBB := Lib.hid hbb.symm
                  clear h1 h8 hbb
                  go_wp2_with (show wpList _ _ _ ({ dst := some 125, op := .call { callee := .builtin .append, args := #[.tmp 123, .tmp 124], argTypes := #[34, 34] }, type := _, pos := _, after := _, guard := _ } :: _) _ _; apply Classical.byContradiction; intro hneg)
                  refine hneg ?_
                  clear hneg
                  obtain ⟨w11, hw11⟩ : ∃ v, v = w10.alloc (.cells #[] 5) := ⟨_, rfl⟩
                  have b11 : Below w10.heap.size w10 w11 := by rw [hw11]; exact (Below.refl _ _).alloc (Nat.le_refl _) _
                  have o11 : w11.ownsRow w10.heap.size 5 1 (.slice (some ⟨w10.heap.size, 0, none⟩) 0 0) 0 [] := by rw [hw11]; exact World.ownsRow_made _ #[] 0 (Nat.le_refl _) (Nat.zero_le _) rfl
                  rw [← hw11]
                  have B11 := Lib.hid b11
                  have O11 := Lib.hid o11
                  have R11 := Lib.hid (HR10.out.below b11)
                  clear hw11 b11 o11
                  refine wpList_app _ rfl (.tmp 123) (.tmp 124) _ rfl Wi.bytesElt (base := w10.heap.size) (v := .slice (some ⟨w10.heap.size, 0, none⟩) 0 0) rfl O11.out (m := q) rfl R11.out (by rw [bv_length]; exact HQ.out.symm) (bv_one _) (by have := HELE.out; omega) B11.out.size ?_
                  intro A12 c12 w12 ho12 hg12 _
                  have B12 := Lib.hid (app_below B11.out O11.out hg12 (Nat.le_refl _) B11.out.size)
                  have O12 := Lib.hid (own_eq ho12 (Nat.zero_add q) (List.nil_append _))
                  rw [Nat.zero_add]
                  clear ho12 hg12 B11 O11 R11
                  have W13 := Lib.hid (show Below w12.heap.size w12 (w12.alloc (.cells #[.int .u8 b] 5)) from (Below.refl _ _).alloc (Nat.le_refl _) _)
                  have R13 := Lib.hid (show Rd (w12.heap.size + 1) (w12.alloc (.cells #[.int .u8 b] 5)) (some ⟨w12.heap.size, 0, .none⟩) (bv [bb]) from by
                    have h := Rd.lit w12 5 (bv [bb])
                    rw [show (bv [bb]).toArray = #[.int .u8 b] from by simp [bv, HBB.out]] at h
                    exact h)
                  have O13 := Lib.hid (own_below O12.out W13.out)
                  go_wp2_with (show wpList _ _ _ ({ dst := some 128, op := .call { callee := .builtin .append, args := #[.tmp 125, .tmp 127], argTypes := #[34, 34] }, type := _, pos := _, after := _, guard := _ } :: _) _ _; apply Classical.byContradiction; intro hneg)
                  refine hneg ?_
                  clear hneg
                  refine wpList_app _ rfl (.tmp 125) (.tmp 127) _ rfl Wi.bytesElt (base := w10.heap.size) (v := .slice A12 q c12) rfl O13.out (m := 1) rfl R13.out rfl (bv_one _) (by have := HELE.out; omega) (Nat.le_trans B12.out.size W13.out.size) ?_
                  intro A14 c14 w14 ho14 hg14 _
                  have B14 := Lib.hid (app_below (B12.out.trans (W13.out.mono B12.out.size)) O13.out hg14 (Nat.le_refl _) (Nat.le_trans B12.out.size W13.out.size))
                  have O14 := Lib.hid (own_eq ho14 rfl (bv_append _ _).symm)
                  have HB14 := Lib.hid (HB10.out.trans (B14.out.mono HB10.out.size))
                  have HCP14 := Lib.hid (own_caps O14.out)
                  clear ho14 hg14 B12 O12 R13 O13 W13
                  go_wp2_with fail
                  refine (open_any w14 A14 (q + 1) c14 (e.b ++ [bb]) (by rw [List.length_append, ← HQ.out]; rfl) HCP14.out (Rd.own O14.out) (Nat.le_refl _)).mono ?_
                  rintro e15 w15 ⟨A15, n15, c15, cl15, rfl, _, _, _, bw⟩
                  rw [HBAD.out]
                  have HB15 := Lib.hid (HB14.out.trans (bw.mono HB14.out.size))
                  clear bw
                  go_wp2_with fail
                  go_ret
                  exact ⟨rfl, HB15.out⟩
              · have m1 : decide ((1 : Int) ≤ b) = false := decide_eq_false h1
                have HBAD := Lib.hid (show openL (e.b ++ [bb]) = ([], false) from by rw [HEB.out]; exact open_no (by simp) (dec_bad8 (by omega)) HSOK.out)
                have HBB := Lib.hid hbb.symm
                clear h1 hbb
                go_wp2_with (show wpList _ _ _ ({ dst := some 125, op := .call { callee := .builtin .append, args := #[.tmp 123, .tmp 124], argTypes := #[34, 34] }, type := _, pos := _, after := _, guard := _ } :: _) _ _; apply Classical.byContradiction; intro hneg)
                refine hneg ?_
                clear hneg
                obtain ⟨w11, hw11⟩ : ∃ v, v = w10.alloc (.cells #[] 5) := ⟨_, rfl⟩
                have b11 : Below w10.heap.size w10 w11 := by rw [hw11]; exact (Below.refl _ _).alloc (Nat.le_refl _) _
                have o11 : w11.ownsRow w10.heap.size 5 1 (.slice (some ⟨w10.heap.size, 0, none⟩) 0 0) 0 [] := by rw [hw11]; exact World.ownsRow_made _ #[] 0 (Nat.le_refl _) (Nat.zero_le _) rfl
                rw [← hw11]
                have B11 := Lib.hid b11
                have O11 := Lib.hid o11
                have R11 := Lib.hid (HR10.out.below b11)
                clear hw11 b11 o11
                refine wpList_app _ rfl (.tmp 123) (.tmp 124) _ rfl Wi.bytesElt (base := w10.heap.size) (v := .slice (some ⟨w10.heap.size, 0, none⟩) 0 0) rfl O11.out (m := q) rfl R11.out (by rw [bv_length]; exact HQ.out.symm) (bv_one _) (by have := HELE.out; omega) B11.out.size ?_
                intro A12 c12 w12 ho12 hg12 _
                have B12 := Lib.hid (app_below B11.out O11.out hg12 (Nat.le_refl _) B11.out.size)
                have O12 := Lib.hid (own_eq ho12 (Nat.zero_add q) (List.nil_append _))
                rw [Nat.zero_add]
                clear ho12 hg12 B11 O11 R11
                have W13 := Lib.hid (show Below w12.heap.size w12 (w12.alloc (.cells #[.int .u8 b] 5)) from (Below.refl _ _).alloc (Nat.le_refl _) _)
                have R13 := Lib.hid (show Rd (w12.heap.size + 1) (w12.alloc (.cells #[.int .u8 b] 5)) (some ⟨w12.heap.size, 0, .none⟩) (bv [bb]) from by
                  have h := Rd.lit w12 5 (bv [bb])
                  rw [show (bv [bb]).toArray = #[.int .u8 b] from by simp [bv, HBB.out]] at h
                  exact h)
                have O13 := Lib.hid (own_below O12.out W13.out)
                go_wp2_with (show wpList _ _ _ ({ dst := some 128, op := .call { callee := .builtin .append, args := #[.tmp 125, .tmp 127], argTypes := #[34, 34] }, type := _, pos := _, after := _, guard := _ } :: _) _ _; apply Classical.byContradiction; intro hneg)
                refine hneg ?_
                clear hneg
                refine wpList_app _ rfl (.tmp 125) (.tmp 127) _ rfl Wi.bytesElt (base := w10.heap.size) (v := .slice A12 q c12) rfl O13.out (m := 1) rfl R13.out rfl (bv_one _) (by have := HELE.out; omega) (Nat.le_trans B12.out.size W13.out.size) ?_
                intro A14 c14 w14 ho14 hg14 _
                have B14 := Lib.hid (app_below (B12.out.trans (W13.out.mono B12.out.size)) O13.out hg14 (Nat.le_refl _) (Nat.le_trans B12.out.size W13.out.size))
                have O14 := Lib.hid (own_eq ho14 rfl (bv_append _ _).symm)
                have HB14 := Lib.hid (HB10.out.trans (B14.out.mono HB10.out.size))
                have HCP14 := Lib.hid (own_caps O14.out)
                clear ho14 hg14 B12 O12 R13 O13 W13
                go_wp2_with fail
                refine (open_any w14 A14 (q + 1) c14 (e.b ++ [bb]) (by rw [List.length_append, ← HQ.out]; rfl) HCP14.out (Rd.own O14.out) (Nat.le_refl _)).mono ?_
                rintro e15 w15 ⟨A15, n15, c15, cl15, rfl, _, _, _, bw⟩
                rw [HBAD.out]
                have HB15 := Lib.hid (HB14.out.trans (bw.mono HB14.out.size))
                clear bw
                go_wp2_with fail
                go_ret
                exact ⟨rfl, HB15.out⟩
      
theorem packCuts_own : ownKnob Try.prog.godebug = none := by kernel_rfl
theorem packCuts_laid : laidOutB Try.prog = true := by kernel_rfl

set_option maxRecDepth 100000 in
theorem packCuts_lifted (os : Os) (started : os.Started) (H : Type) (enc : TypeId × Value → H) :
    ReturnsInHanded {} Try.checked os 6 .any (Rows.packCutsSpec.pre6 enc Try.prog Try.f6 Rows.packCutsRow.domain false) (Rows.packCutsSpec.post enc Try.prog Try.f6 false true false false) := by
  refine returnsInHanded_of_change (C := Try.checked) packCuts_own started (by kernel_rfl) Try.func6
    (ChangeSpec.witness6 (enc := enc) (C := Try.checked) false ⟨#[], #[.slice none 0 0, .int .u8 0, .int .u8 0], []⟩ 8 (by kernel_rfl) (by kernel_rfl) (by kernel_rfl) (by kernel_rfl)) ?_
  intro W base args ds gs before hval0 hW _ _
  have hval : ∀ (j : Nat) t v, Try.f6.params[j]? = some t → args[j]? = some v → Value.okWide Try.prog W .any base t v := hval0
  have hW' := hW
  obtain ⟨p, q, hA0, hV, rfl, hfz, hnd⟩ := hW
  have hA : DataW.TrodAll enc Try.prog W 0 (fun _ => true) true Try.f6.params.toList args.toList ds p := hA0
  rw [Try.params6] at hA hval
  obtain ⟨v0, vs0, d0, ds0, p0, q0, hargs, rfl, rfl, h0, r0⟩ := trodAll_cons hA
  obtain ⟨v1, vs1, d1, ds1, p1, q1, rfl, rfl, rfl, h1, r1⟩ := trodAll_cons r0
  obtain ⟨v2, vs2, d2, ds2, p2, q2, rfl, rfl, rfl, h2, r2⟩ := trodAll_cons r1
  obtain ⟨rfl, rfl, rfl⟩ := trodAll_nil r2
  obtain rfl : args = #[v0, v1, v2] := by cases args; simp_all
  obtain ⟨rfl, rfl⟩ := trodVars_none hV
  obtain ⟨a0, n0, c0, rfl⟩ := okWide_slice Try.underlying22 (hval 0 22 v0 rfl rfl)
  have lt0 : ∀ x ∈ p0, x.block < W.heap.size := by obtain ⟨m, hm⟩ := h0; exact DataW.trod_lt m _ _ _ hm
  obtain ⟨l0, hl0, hc0, hm0, hr0⟩ := Ce.open_cells h0
  obtain ⟨a1, rfl, rfl, rfl, w1⟩ := open_int Try.underlying5 (hval 1 5 v1 rfl rfl) h1
  have b1 := bounds_u8 w1
  obtain ⟨a2, rfl, rfl, rfl, w2⟩ := open_int Try.underlying5 (hval 2 5 v2 rfl rfl) h2
  have b2 := bounds_u8 w2
  clear hA0 hval0
  refine (packCuts_any W a0 n0 c0 l0 hl0 hc0 hm0 hr0 a1 b1 a2 b2).mono fun e W' ⟨he, bel⟩ => ?_
  subst he
  exact ⟨_, rfl, _, _, _, [], _, [], hW', trodAll_mk1 (shut_bool Try.underlying4 _), (trodAll_cons_mk (Below.trod packCuts_laid (by kernel_rfl) (of_decide_eq_true (by kernel_rfl)) h0 bel lt0) (trodAll_cons_mk (shut_int Try.underlying5 w1) (trodAll_cons_mk (shut_int Try.underlying5 w2) trodAll_mk0))), rfl, bel.frame _, fun h => by cases h⟩

theorem packCuts_holds : Rows.PackCutsSaid :=
  OpenClaim.holds_of_wide 6 Try.f6 rfl rfl rfl rfl rfl rfl rfl ⟨rfl, rfl, rfl, rfl, rfl⟩ rfl rfl rfl rfl rfl (by kernel_rfl) Try.func6 (by kernel_rfl)
    (of_decide_eq_true (by kernel_rfl)) (by unfold Func.isWrapper; rw [if_neg (of_decide_eq_false (by kernel_rfl))]; exact ⟨rfl, rfl⟩)
    (fun os started H enc _ => packCuts_lifted os started H enc)

#print axioms packCuts_holds

end Go.Proofs.Ythdmdlnndbjcoaa
