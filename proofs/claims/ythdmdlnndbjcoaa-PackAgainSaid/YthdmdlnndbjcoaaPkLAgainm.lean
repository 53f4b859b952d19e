/-
  PackAgain holds: of any row of cells the law returns true, and its argument reads as it did.
-/
import Derived.Test.YthdmdlnndbjcoaaCb1
import Derived.Deep.Cut
import Derived.Deep.RegionHeld
import Derived.Test.YthdmdlnndbjcoaaRows
import Derived.ProofKit
import Derived.OpenShut
import Derived.ShutString
import Derived.ChangeOld
namespace Go.Proofs.Ythdmdlnndbjcoaa
open Go.RowKit Ce Pk Go.ChangeShapes Go.WideShapes Go.ChangeAt
attribute [local go_sem ↓] Go.wp_at_zero Go.wp_at_succ
set_option maxRecDepth 100000 in
set_option maxHeartbeats 12800000 in
theorem packAgain_any (w : World) (A : Option Addr) (N c : Nat) (l : List Cc) (hl : l.length = N) (_ : N ≤ c) (_ : c ≤ maxLen) (hr : Rd w.heap.size w A (ccs l) ∧ ∀ k ∈ l, Rd w.heap.size w k.A (bv k.y.body)) : Calls Try.prog 5 #[.slice A N c] w (RetB (.bool true) w) := by
  have HL := Lib.hid hl
  have HR := Lib.hid hr.1
  have HBO := Lib.hid hr.2
  have B := Lib.hid (Below.refl w.heap.size w)
  clear hl hr
  go_enter Try.func5, Try.ntmps5
  go_wp2_with fail
  refine (pkAwake_any _).mono ?_
  rintro e w1 ⟨rfl, bw⟩
  have B' := Lib.hid (B.out.trans (bw.mono B.out.size))
  clear bw B
  have B := Lib.hid B'.out
  clear B'
  by_cases hbig : 20 < N
  · have n1 : (20 : Int) < (N : Int) := by omega
    go_wp2_with fail
    go_ret
    exact ⟨rfl, B.out⟩
  have n1 : ¬ (20 : Int) < (N : Int) := by omega
  have HNB := Lib.hid (show N ≤ 20 by omega)
  clear hbig
  go_wp2_with fail
  clear n1
  go_loopw [3] (fun i wr => ∃ j : Nat, j ≤ N ∧ i = .int .i64 j ∧ Below w.heap.size w wr ∧ Hid (allOk (l.take j))) (fun i _ => N - (intOf i).toNat)
  case atStart => exact ⟨0, Nat.zero_le _, rfl, B.out, Lib.hid (fun k hk => by simp at hk)⟩
  case round =>
    clear B
    obtain ⟨j, hj, rfl, hbw, HA⟩ := hrel
    by_cases hlt : j < N
    · have hklx : j < l.length := by rw [HL.out]; exact hlt
      obtain ⟨x, hxex⟩ : ∃ x, x = l[j] := ⟨_, rfl⟩
      have hxmx : x ∈ l := by rw [hxex]; exact List.getElem_mem hklx
      have hrdx := HR.out
      obtain ⟨ad, hAx, -, -⟩ := rd_cell hrdx hklx
      have hcellx : ∀ w', Below w.heap.size w w' → ∀ i v, (ccV x)[i]? = some v → w'.cell? ((ad.add (j * 11)).add i) = some v := fun w' hb' i v hv => by
        obtain ⟨ad', hA', _, hc⟩ := rd_cell (hrdx.below hb') hklx
        rw [hAx] at hA'
        injection hA' with hA'
        subst hA'
        exact hc i v (by rw [← hxex]; exact hv)
      obtain ⟨csx, hcsx⟩ : ∃ cs, cs = clA x.y x.A x.c := ⟨_, rfl⟩
      have HCWx := Lib.hid (show ∀ w', Below w.heap.size w w' → ∀ i v, csx.toList[i]? = some v → w'.cell? ((ad.add (j * 11)).add i) = some v from fun w' hb' i v hv => hcellx w' hb' i v (by rw [hcsx] at hv; exact hv))
      have HIx := Lib.hid (show (Try.prog.info? 44).map (·.size) = some csx.toList.length from by rw [hcsx]; kernel_rfl)
      have HCSx := Lib.hid hcsx
      have HXMx := Lib.hid hxmx
      have HXEx := Lib.hid hxex
      have HTX := Lib.hid (show l.take (j + 1) = l.take j ++ [x] from by rw [hxex]; exact List.take_succ_eq_append_getElem hklx)
      subst hAx
      have HB := Lib.hid hbw
      have k0 : (0 : Int) ≤ (j : Int) := by omega
      have k1 : (j : Int) < (N : Int) := by omega
      have HRT := Lib.hid (show ∀ W, Below w.heap.size w W → Calls Try.prog 20 #[.agg csx] W (RetB (.bool (decide (okCl x.y))) W) from fun W hW => by rw [HCSx.out]; exact cright_any x.y x.A x.c W ((HBO.out x HXMx.out).below hW) hW.size)
      clear hxmx hrdx hcellx hcsx hxex hbw
      by_cases ok : okCl x.y
      · have HOK := Lib.hid ok
        rw [decide_eq_true ok] at HRT
        clear ok
        go_wp2_with (refine wpList_load_at rfl 44 (.tmp 25) rfl (ad.add (j * 11)) rfl (HCWx.out _ (HB.out)) Try.underlying44 rfl HIx.out ?_; change wpList _ _ _ _ (Act.put _ _ (.agg csx)) _)
        refine (HRT.out _ HB.out).mono ?_
        rintro e w5 ⟨rfl, bw⟩
        have B5 := Lib.hid (HB.out.trans (bw.mono HB.out.size))
        clear bw HB
        go_wp2_with fail
        go_roundw
        case rel => exact ⟨j + 1, by omega, by go_num, B5.out, Lib.hid (fun k hk => by
          rw [HTX.out] at hk
          rcases List.mem_append.1 hk with h | h
          · exact HA.out k h
          · rw [List.mem_singleton] at h; rw [h]; exact HOK.out)⟩
        case measure => (simp [intOf]; try omega)
      · rw [decide_eq_false ok] at HRT
        clear ok
        go_wp2_with (refine wpList_load_at rfl 44 (.tmp 25) rfl (ad.add (j * 11)) rfl (HCWx.out _ (HB.out)) Try.underlying44 rfl HIx.out ?_; change wpList _ _ _ _ (Act.put _ _ (.agg csx)) _)
        refine (HRT.out _ HB.out).mono ?_
        rintro e w5 ⟨rfl, bw⟩
        have B5 := Lib.hid (HB.out.trans (bw.mono HB.out.size))
        clear bw HB
        go_wp2_with fail
        go_ret
        exact ⟨rfl, B5.out⟩
    · obtain rfl : N = j := by omega
      have HALL := Lib.hid (show allOk l from by
        have h := HA.out
        rw [List.take_of_length_le (by rw [HL.out]; exact Nat.le_refl _)] at h; exact h)
      have B := Lib.hid hbw
      obtain ⟨wo, hwo⟩ : ∃ v, v = wr := ⟨_, rfl⟩
      subst hwo
      clear hbw hlt hj HA
      go_wp2_with fail
      refine (fill_any (B := w.heap.size) _ A N c l HL.out (HR.out.below B.out) (fun k hk => (HBO.out k hk).below B.out) B.out.size (by have := HNB.out; omega)).mono ?_
      rintro e w5 (⟨_, A3, n3, c3, bl3, I3, d3, rfl, hb3, he3, hi3, bw⟩ | ⟨hno, _⟩)
      rotate_left
      · exact absurd HALL.out hno
      have B5 := Lib.hid (B.out.trans (bw.mono B.out.size))
      have D3 := Lib.hid hb3
      have E3 := Lib.hid he3
      have O3 := Lib.hid hi3
      have HN3 := Lib.hid (bods_count hb3 HALL.out he3)
      clear hb3 he3 hi3 bw B
      rw [HL.out]
      have e1 : ((N : Int) != (N : Int)) = false := by simp
      have n3N : (n3 : Int) ≤ (N : Int) := by have := HN3.out.1; have := HL.out; omega
      have e2 : decide ((N : Int) < (n3 : Int)) = false := decide_eq_false (by omega)
      have e2n : decide (N < n3) = false := decide_eq_false (by omega)
      have e3 : max (N : Int) 0 = (N : Int) := by omega
      go_wp2_with fail
      refine (worst_any (N : Int) _).mono ?_
      rw [e3]
      rintro e w6 ⟨rfl, bw⟩
      have B6 := Lib.hid (B5.out.trans (bw.mono B5.out.size))
      have D6 := Lib.hid (D3.out.below bw)
      have O6 := Lib.hid (own_below O3.out bw)
      clear bw B5 D3 O3
      go_wp2_with fail
      clear e1 n3N e2 e2n e3
      obtain ⟨SS, hSS⟩ : ∃ SS, SS = segs encCl (ys l) := ⟨_, rfl⟩
      have HSS := Lib.hid hSS
      clear hSS
      go_loopw [7, 8, 9, 10, 11] (fun a i _ _ _ wr => ∃ (j n7 : Nat) (A7 : Option Addr) (c7 : Nat) (cl7 : List Cc), j ≤ n3 ∧ i = .int .i64 j ∧ a = .slice A7 n7 c7 ∧ Below w6.heap.size w6 wr ∧ Hid (OwnC wr w6.heap.size A7 n7 c7 cl7 ∧ ys cl7 = (SS.take j).flatten)) (fun _ i _ _ _ _ => n3 - (intOf i).toNat)
      case atStart => exact ⟨0, 0, none, 0, [], Nat.zero_le _, rfl, rfl, Below.refl _ _, Lib.hid ⟨OwnC.nil, rfl⟩⟩
      case round =>
        obtain ⟨j, n7, A7, c7, cl7, hj, rfl, rfl, hbw, HI⟩ := hrel
        obtain ⟨wv, hwv⟩ : ∃ v, v = wr := ⟨_, rfl⟩
        subst hwv
        by_cases hlt : j < n3
        · obtain ⟨g3, e, hA3, hej, _, _, _, _, hgl⟩ := Bods.at_ D6.out hlt
          subst hA3
          obtain ⟨sg, hsg, hebs, hsne, hele, hop, hsok⟩ := seg_at HALL.out E3.out hej
          have hfb := flat_bound HALL.out hsg
          have hft := flat_take hsg
          have HIN := Lib.hid (in_at encCl (ys l) j sg)
          rw [← HSS.out] at hsg hfb hft HIN
          obtain ⟨q, hq⟩ : ∃ q, q = e.b.length := ⟨_, rfl⟩
          have HQ := Lib.hid hq
          have hcj : ∀ w', Below w6.heap.size w6 w' → w'.cell? ⟨g3, j, none⟩ = some (.slice e.A q e.c) ∧ Rd w'.heap.size w' e.A (bv e.b) := fun w' hw' => by
            obtain ⟨g', e', h1, h2, h3, h4, _⟩ := Bods.at_ (D6.out.below hw') hlt
            injection h1 with h1; injection h1 with h1; subst h1
            rw [hej] at h2; injection h2 with h2; subst h2
            rw [hq]; exact ⟨h3, h4⟩
          have HCJ := Lib.hid hcj
          have HCAP := Lib.hid (show q ≤ e.c ∧ e.c ≤ maxLen from by rw [hq]; exact own_caps (A := e.A) (c := e.c) (D6.out.el j e hej))
          have cj := (hcj wv hbw).1
          have HQL := Lib.hid (show q ≤ 103 from by rw [hq]; exact hele)
          have HSG := Lib.hid hsg
          have HFB := Lib.hid hfb
          have HFT := Lib.hid hft
          have HOP := Lib.hid hop
          have HEJ := Lib.hid hej
          have HEB := Lib.hid hebs
          have HSOK := Lib.hid hsok
          have HNE := Lib.hid hsne
          have k0 : (0 : Int) ≤ (j : Int) := by omega
          have k1 : (j : Int) < (n3 : Int) := by omega
          have HB := Lib.hid hbw
          have HLT := Lib.hid hlt
          clear hej hsg hebs hsne hele hop hsok hfb hft hq hcj hbw hgl hlt
          go_wp2_with fail
          refine (open_any wv e.A q e.c e.b HQ.out.symm HCAP.out (HCJ.out wv HB.out).2 (Nat.le_refl _)).mono ?_
          rintro e9 w9 ⟨A9, n9, c9, cl9, rfl, ho9, hy9, ⟨hb9, hnw9⟩, bw⟩
          have hop2 := HOP.out
          rw [hop2] at hy9 ⊢
          have hn9 : cl9.length = n9 := by have h1 := ho9.1; rw [ccs_length] at h1; omega
          have hs9 : sg.length = n9 := by rw [← hn9, ← ys_length cl9, hy9]
          have HB9 := Lib.hid (HB.out.trans (bw.mono HB.out.size))
          have N9 := Lib.hid ho9
          have C9 := Lib.hid hb9
          have NW9 := Lib.hid hnw9
          have Y9 := Lib.hid hy9
          have HL9 := Lib.hid hn9
          have HS9 := Lib.hid hs9
          have HOW := Lib.hid (HI.out.1.below bw)
          have n90 : 0 < n9 := by rw [← hs9]; exact List.length_pos_iff.2 HNE.out
          have HN9L := Lib.hid (show n9 ≤ 1000 ∧ n3 ≤ 1000 from by have h1 := HFB.out; have h2 := HNB.out; have h3 := HL.out; have h4 := HN3.out.1; omega)
          have HLN9 := Lib.hid (show wv.heap.size ≤ w9.heap.size from bw.size)
          clear ho9 hy9 hb9 hnw9 bw hop2 hn9 hs9
          have hklx : 0 < cl9.length := by rw [HL9.out]; exact n90
          have hrx := Rd.ownN N9.out
          have HRX := Lib.hid hrx
      
          obtain ⟨x, hxex⟩ : ∃ x, x = cl9[0] := ⟨_, rfl⟩
          have hxmx : x ∈ cl9 := by rw [hxex]; exact List.getElem_mem hklx
          have hrdx := HRX.out
          obtain ⟨ad, hAx, -, -⟩ := rd_cell hrdx hklx
          have hcellx : ∀ w', Below w9.heap.size w9 w' → ∀ i v, (ccV x)[i]? = some v → w'.cell? ((ad.add (0 * 11)).add i) = some v := fun w' hb' i v hv => by
            obtain ⟨ad', hA', _, hc⟩ := rd_cell (hrdx.below hb') hklx
            rw [hAx] at hA'
            injection hA' with hA'
            subst hA'
            exact hc i v (by rw [← hxex]; exact hv)
          obtain ⟨csx, hcsx⟩ : ∃ cs, cs = clA x.y x.A x.c := ⟨_, rfl⟩
          have HCWx := Lib.hid (show ∀ w', Below w9.heap.size w9 w' → ∀ i v, csx.toList[i]? = some v → w'.cell? ((ad.add (0 * 11)).add i) = some v from fun w' hb' i v hv => hcellx w' hb' i v (by rw [hcsx] at hv; exact hv))
          have HIx := Lib.hid (show (Try.prog.info? 44).map (·.size) = some csx.toList.length from by rw [hcsx]; kernel_rfl)
          have HCSx := Lib.hid hcsx
          have HXMx := Lib.hid hxmx
          have HXEx := Lib.hid hxex
          subst hAx
          clear hxmx hrdx hcellx hcsx hxex hrx
          have n91 : (0 : Int) < (n9 : Int) := by omega
          have n92 : ((n9 : Int) == 0) = false := by simp; omega
          have q1 : decide ((103 : Int) < (q : Int)) = false := decide_eq_false (by have := HQL.out; omega)
          have q1n : decide (103 < q) = false := decide_eq_false (by have := HQL.out; omega)
          by_cases hj0 : j = 0
          · have k2 : decide ((0 : Int) < (j : Int)) = false := decide_eq_false (by omega)
            have k2n : decide (0 < j) = false := decide_eq_false (by omega)
            have HJ0 := Lib.hid hj0
            clear hj0
            go_upto_region 18 with fail
            refine wp_region_held_drew (S := (fun w' => Below w9.heap.size w9 w')) (by kernel_rfl) (Below.refl w9.heap.size w9).drew (fun hh => ?_)
            have HH := Lib.hid hh
            clear hh
            refine wpAnyH_take (i := 0) (v := ?va0) rfl (by kernel_rfl) (by kernel_rfl) (by kernel_rfl) (fun _ _ _ h => h) (Or.inl ⟨by rfl, fun w' _ => ?ya0⟩) HH.out ?_
            case ya0 => (go_simp; try with_reducible rfl)
            refine wpAnyH_take (i := 1) (v := ?va1) rfl (by kernel_rfl) (by kernel_rfl) (by kernel_rfl) (fun _ _ _ h => h) (Or.inl ⟨by rfl, fun w' _ => ?ya1⟩) HH.out ?_
            case ya1 => (go_simp; try with_reducible rfl)
            try simp only [List.getElem_toArray, List.getElem_cons_succ, List.getElem_cons_zero, Act.put, List.setIfInBounds_toArray, List.set_cons_zero, List.set_cons_succ]
            refine wpAnyH_take (i := 2) (v := ?va2) rfl (by kernel_rfl) (by kernel_rfl) (by kernel_rfl) (fun _ _ _ h => h) (Or.inl ⟨by rfl, fun w' _ => ?ya2⟩) HH.out ?_
            case ya2 => (go_simp; try with_reducible rfl)
            try simp only [List.getElem_toArray, List.getElem_cons_succ, List.getElem_cons_zero, Act.put, List.setIfInBounds_toArray, List.set_cons_zero, List.set_cons_succ]
            refine wpAnyH_take (i := 3) (v := ?va3) rfl (by kernel_rfl) (by kernel_rfl) (by kernel_rfl) (fun _ _ _ h => h) (Or.inl ⟨by rfl, fun w' _ => ?ya3⟩) HH.out ?_
            case ya3 => (go_simp; try with_reducible rfl)
            try simp only [List.getElem_toArray, List.getElem_cons_succ, List.getElem_cons_zero, Act.put, List.setIfInBounds_toArray, List.set_cons_zero, List.set_cons_succ]
            refine wpAnyH_take (i := 4) (v := ?va4) rfl (by kernel_rfl) (by kernel_rfl) (by kernel_rfl) (fun _ _ _ h => h) (Or.inl ⟨by rfl, fun w' _ => ?ya4⟩) HH.out ?_
            case ya4 => (go_simp; try with_reducible rfl)
            try simp only [List.getElem_toArray, List.getElem_cons_succ, List.getElem_cons_zero, Act.put, List.setIfInBounds_toArray, List.set_cons_zero, List.set_cons_succ]
            refine wpAnyH_take (i := 5) (v := ?va5) rfl (by kernel_rfl) (by kernel_rfl) (by kernel_rfl) (fun _ _ _ h => h) (Or.inl ⟨by rfl, fun w' _ => ?ya5⟩) HH.out ?_
            case ya5 => (go_simp; try with_reducible rfl)
            refine wpAnyH_take (i := 6) (v := ?va6) rfl (by kernel_rfl) (by kernel_rfl) (by kernel_rfl) (fun _ _ _ h => h) (Or.inl ⟨by rfl, fun w' _ => ?ya6⟩) HH.out ?_
            case ya6 => (go_simp; try with_reducible rfl)
            refine wpAnyH_take (i := 7) (v := ?va7) rfl (by kernel_rfl) (by kernel_rfl) (by kernel_rfl) (fun _ _ _ h => h) (Or.inl ⟨by rfl, fun w' _ => ?ya7⟩) HH.out ?_
            case ya7 => (go_simp; try with_reducible rfl)
            try simp only [List.getElem_toArray, List.getElem_cons_succ, List.getElem_cons_zero, Act.put, List.setIfInBounds_toArray, List.set_cons_zero, List.set_cons_succ]
            refine wpAnyH_take (i := 8) (v := ?va8) rfl (by kernel_rfl) (by kernel_rfl) (by kernel_rfl) (fun _ _ _ h => h) (Or.inl ⟨by rfl, fun w' _ => ?ya8⟩) HH.out ?_
            case ya8 => (go_simp; try with_reducible rfl)
            try simp only [List.getElem_toArray, List.getElem_cons_succ, List.getElem_cons_zero, Act.put, List.setIfInBounds_toArray, List.set_cons_zero, List.set_cons_succ]
            refine wpAnyH_take (i := 9) (v := ?va9) rfl (by kernel_rfl) (by kernel_rfl) (by kernel_rfl) (fun _ _ _ h => h) (Or.inl ⟨by rfl, fun w' _ => ?ya9⟩) HH.out ?_
            case ya9 => (go_simp; try with_reducible rfl)
            try simp only [List.getElem_toArray, List.getElem_cons_succ, List.getElem_cons_zero, Act.put, List.setIfInBounds_toArray, List.set_cons_zero, List.set_cons_succ]
            refine wpAnyH_take (i := 10) (v := ?va10) rfl (by kernel_rfl) (by kernel_rfl) (by kernel_rfl) (fun _ _ _ h => h) (Or.inl ⟨by rfl, fun w' _ => ?ya10⟩) HH.out ?_
            case ya10 => (go_simp; try with_reducible rfl)
            try simp only [List.getElem_toArray, List.getElem_cons_succ, List.getElem_cons_zero, Act.put, List.setIfInBounds_toArray, List.set_cons_zero, List.set_cons_succ]
            try simp only [List.getElem_toArray, List.getElem_cons_succ, List.getElem_cons_zero, Act.put, List.setIfInBounds_toArray, List.set_cons_zero, List.set_cons_succ]
            refine wpAnyH_take (i := 11) (v := .slice e.A q e.c) rfl (by kernel_rfl) (by kernel_rfl) (by kernel_rfl) (fun _ _ _ h => h) (Or.inl ⟨by rfl, fun w' hw' => ?ya11⟩) HH.out ?_
            case ya11 => (have hc := (fun w' hw' => (HCJ.out w' (HB9.out.trans (hw'.mono HB9.out.size))).1) w' hw'; go_simp; try with_reducible rfl)
            try simp only [List.getElem_toArray, List.getElem_cons_succ, List.getElem_cons_zero, Act.put, List.setIfInBounds_toArray, List.set_cons_zero, List.set_cons_succ]
            refine wpAnyH_take (i := 12) (v := ?va12) rfl (by kernel_rfl) (by kernel_rfl) (by kernel_rfl) (fun _ _ _ h => h) (Or.inl ⟨by rfl, fun w' _ => ?ya12⟩) HH.out ?_
            case ya12 => (go_simp; try with_reducible rfl)
            try simp only [List.getElem_toArray, List.getElem_cons_succ, List.getElem_cons_zero, Act.put, List.setIfInBounds_toArray, List.set_cons_zero, List.set_cons_succ]
            refine wpAnyH_take (i := 13) (v := ?va13) rfl (by kernel_rfl) (by kernel_rfl) (by kernel_rfl) (fun _ _ _ h => h) (Or.inl ⟨by rfl, fun w' _ => ?ya13⟩) HH.out ?_
            case ya13 => (go_simp; try with_reducible rfl)
            try simp only [List.getElem_toArray, List.getElem_cons_succ, List.getElem_cons_zero, Act.put, List.setIfInBounds_toArray, List.set_cons_zero, List.set_cons_succ]
            refine wpAnyH_take (i := 14) (v := ?va14) rfl (by kernel_rfl) (by kernel_rfl) (by kernel_rfl) (fun _ _ _ h => h) (Or.inl ⟨by rfl, fun w' _ => ?ya14⟩) HH.out ?_
            case ya14 => (go_simp; try with_reducible rfl)
            refine wpAnyH_take (i := 15) (v := ?va15) rfl (by kernel_rfl) (by kernel_rfl) (by kernel_rfl) (fun _ _ _ h => h) (Or.inl ⟨by rfl, fun w' _ => ?ya15⟩) HH.out ?_
            case ya15 => (go_simp; try with_reducible rfl)
            try simp only [List.getElem_toArray, List.getElem_cons_succ, List.getElem_cons_zero, Act.put, List.setIfInBounds_toArray, List.set_cons_zero, List.set_cons_succ]
            refine wpAnyH_take (i := 16) (v := ?va16) rfl (by kernel_rfl) (by kernel_rfl) (by kernel_rfl) (fun _ _ _ h => h) (Or.inl ⟨by rfl, fun w' _ => ?ya16⟩) HH.out ?_
            case ya16 => (go_simp; try with_reducible rfl)
            try simp only [List.getElem_toArray, List.getElem_cons_succ, List.getElem_cons_zero, Act.put, List.setIfInBounds_toArray, List.set_cons_zero, List.set_cons_succ]
            refine wpAnyH_take (i := 17) (v := ?va17) rfl (by kernel_rfl) (by kernel_rfl) (by kernel_rfl) (fun _ _ _ h => h) (Or.inl ⟨by rfl, fun w' _ => ?ya17⟩) HH.out ?_
            case ya17 => (go_simp; try with_reducible rfl)
            try simp only [List.getElem_toArray, List.getElem_cons_succ, List.getElem_cons_zero, Act.put, List.setIfInBounds_toArray, List.set_cons_zero, List.set_cons_succ]
            refine wpAnyH_take (i := 18) (v := ?va18) rfl (by kernel_rfl) (by kernel_rfl) (by kernel_rfl) (fun _ _ _ h => h) (Or.inl ⟨by rfl, fun w' _ => ?ya18⟩) HH.out ?_
            case ya18 => (go_simp; try with_reducible rfl)
            refine wpAnyH_take (i := 19) (v := undef) rfl (by kernel_rfl) (by kernel_rfl) (by kernel_rfl) (fun _ _ _ h => h) (Or.inr ⟨by rfl, rfl⟩) HH.out ?_
            try simp only [List.getElem_toArray, List.getElem_cons_succ, List.getElem_cons_zero, Act.put, List.setIfInBounds_toArray, List.set_cons_zero, List.set_cons_succ]
            refine wpAnyH_take (i := 20) (v := undef) rfl (by kernel_rfl) (by kernel_rfl) (by kernel_rfl) (fun _ _ _ h => h) (Or.inr ⟨by rfl, rfl⟩) HH.out ?_
            refine wpAnyH_take (i := 21) (v := undef) rfl (by kernel_rfl) (by kernel_rfl) (by kernel_rfl) (fun _ _ _ h => h) (Or.inr ⟨by rfl, rfl⟩) HH.out ?_
            refine wpAnyH_take (i := 22) (v := undef) rfl (by kernel_rfl) (by kernel_rfl) (by kernel_rfl) (fun _ _ _ h => h) (Or.inr ⟨by rfl, rfl⟩) HH.out ?_
            try simp only [List.getElem_toArray, List.getElem_cons_succ, List.getElem_cons_zero, Act.put, List.setIfInBounds_toArray, List.set_cons_zero, List.set_cons_succ]
            refine wpAnyH_take (i := 23) (v := undef) rfl (by kernel_rfl) (by kernel_rfl) (by kernel_rfl) (fun _ _ _ h => h) (Or.inr ⟨by rfl, rfl⟩) HH.out ?_
            refine wpAnyH_take (i := 24) (v := undef) rfl (by kernel_rfl) (by kernel_rfl) (by kernel_rfl) (fun _ _ _ h => h) (Or.inr ⟨by rfl, rfl⟩) HH.out ?_
            refine wpAnyH_take (i := 25) (v := undef) rfl (by kernel_rfl) (by kernel_rfl) (by kernel_rfl) (fun _ _ _ h => h) (Or.inr ⟨by rfl, rfl⟩) HH.out ?_
            try simp only [List.getElem_toArray, List.getElem_cons_succ, List.getElem_cons_zero, Act.put, List.setIfInBounds_toArray, List.set_cons_zero, List.set_cons_succ]
            refine wpAnyH_take (i := 26) (v := undef) rfl (by kernel_rfl) (by kernel_rfl) (by kernel_rfl) (fun _ _ _ h => h) (Or.inr ⟨by rfl, rfl⟩) HH.out ?_
            refine wpAnyH_take (i := 27) (v := undef) rfl (by kernel_rfl) (by kernel_rfl) (by kernel_rfl) (fun _ _ _ h => h) (Or.inr ⟨by rfl, rfl⟩) HH.out ?_
            refine wpAnyH_take (i := 28) (v := undef) rfl (by kernel_rfl) (by kernel_rfl) (by kernel_rfl) (fun _ _ _ h => h) (Or.inr ⟨by rfl, rfl⟩) HH.out ?_
            try simp only [List.getElem_toArray, List.getElem_cons_succ, List.getElem_cons_zero, Act.put, List.setIfInBounds_toArray, List.set_cons_zero, List.set_cons_succ]
            refine wpAnyH_take (i := 29) (v := undef) rfl (by kernel_rfl) (by kernel_rfl) (by kernel_rfl) (fun _ _ _ h => h) (Or.inr ⟨by rfl, rfl⟩) HH.out ?_
            refine wpAnyH_take (i := 30) (v := undef) rfl (by kernel_rfl) (by kernel_rfl) (by kernel_rfl) (fun _ _ _ h => h) (Or.inr ⟨by rfl, rfl⟩) HH.out ?_
            try simp only [List.getElem_toArray, List.getElem_cons_succ, List.getElem_cons_zero, Act.put, List.setIfInBounds_toArray, List.set_cons_zero, List.set_cons_succ]
            refine wpAnyH_take (i := 31) (v := ?va31) rfl (by kernel_rfl) (by kernel_rfl) (by kernel_rfl) (fun _ _ _ h => h) (Or.inl ⟨by rfl, fun w' _ => ?ya31⟩) HH.out ?_
            case ya31 => (go_simp; try with_reducible rfl)
            try simp only [List.getElem_toArray, List.getElem_cons_succ, List.getElem_cons_zero, Act.put, List.setIfInBounds_toArray, List.set_cons_zero, List.set_cons_succ]
            refine wpAnyH_take (i := 32) (v := ?va32) rfl (by kernel_rfl) (by kernel_rfl) (by kernel_rfl) (fun _ _ _ h => h) (Or.inl ⟨by rfl, fun w' _ => ?ya32⟩) HH.out ?_
            case ya32 => (go_simp; try with_reducible rfl)
            try simp only [List.getElem_toArray, List.getElem_cons_succ, List.getElem_cons_zero, Act.put, List.setIfInBounds_toArray, List.set_cons_zero, List.set_cons_succ]
            refine wpAnyH_done (by kernel_rfl) ?_ _
            have HBQ := Lib.hid (HB9.out.trans (HH.out.mono HB9.out.size))
            have NQ := Lib.hid (own_belowN N9.out HH.out)
            have CQ := Lib.hid (C9.out.below HH.out)
            have OWQ := Lib.hid (HOW.out.below HH.out)
            obtain ⟨wq, hwq⟩ : ∃ v, v = w9.drew := ⟨_, rfl⟩
            rw [← hwq] at HBQ NQ CQ OWQ ⊢
            clear hwq HH
            have HA7 := Lib.hid (show ∀ q, (Value.slice A7 n7 c7).ownBlock = some q → q < wv.heap.size from fun q h => (HI.out.1.own.lt q h).2)
            go_wp2_with fail
            go_loopw [7, 11] (fun a k wr => ∃ (m n8 : Nat) (A8 : Option Addr) (c8 : Nat) (cl8 : List Cc), m ≤ n9 ∧ k = .int .i64 m ∧ a = .slice A8 n8 c8 ∧ But (fun q => (Value.slice A7 n7 c7).ownBlock = some q) wq wr ∧ Hid (OwnC wr w6.heap.size A8 n8 c8 cl8 ∧ ys cl8 = (SS.take j).flatten ++ sg.take m ∧ ∀ q, (Value.slice A8 n8 c8).ownBlock = some q → (Value.slice A7 n7 c7).ownBlock = some q ∨ wq.heap.size ≤ q)) (fun _ k _ => n9 - (intOf k).toNat)
            case atStart => exact ⟨0, n7, A7, c7, cl7, Nat.zero_le _, rfl, rfl, But.refl _, Lib.hid ⟨OWQ.out, by rw [HI.out.2]; simp, fun q h => .inl h⟩⟩
            case round =>
              obtain ⟨m, n8, A8, c8, cl8, hm, rfl, rfl, hbt, HJ⟩ := hrel
              by_cases hlt : m < n9
              · have hkly : m < cl9.length := by rw [HL9.out]; exact hlt
                have hrd9 : Rd wr.heap.size wr (some ad) (ccs cl9) := Rd.ownN (Own.but NQ.out hbt (fun q h1 h2 => by have h3 := (NQ.out.lt q h1).1; have h4 := HA7.out q h2; omega))
                have HRY := Lib.hid hrd9
                have hbc : BodC wr cl9 := fun k hk => ⟨(rd_but (CQ.out k hk).1 hbt (fun ad had h2 => by have h3 := NW9.out k hk ad had; have h4 := HA7.out _ h2; omega)).more hbt.size, fun ad had => Nat.lt_of_lt_of_le ((CQ.out k hk).2 ad had) hbt.size⟩
                obtain ⟨y, hxey⟩ : ∃ y, y = cl9[m] := ⟨_, rfl⟩
                have hmy : y ∈ cl9 := by rw [hxey]; exact List.getElem_mem hkly
                have HBY := Lib.hid (hbc y hmy)
                have HNY := Lib.hid (NW9.out y hmy)
                have HQY := Lib.hid (CQ.out y hmy).2
                have hcy : ∀ i v, (ccV y)[i]? = some v → wr.cell? ((ad.add (m * 11)).add i) = some v := fun i v hv => by
                  obtain ⟨ad', hA', _, hc⟩ := rd_cell hrd9 hkly
                  injection hA' with hA'
                  subst hA'
                  exact hc i v (by rw [← hxey]; exact hv)
                obtain ⟨csy, hcsy⟩ : ∃ cs, cs = clA y.y y.A y.c := ⟨_, rfl⟩
                have HCY := Lib.hid (show ∀ i v, csy.toList[i]? = some v → wr.cell? ((ad.add (m * 11)).add i) = some v from fun i v hv => hcy i v (by rw [hcsy] at hv; exact hv))
                have HIy := Lib.hid (show (Try.prog.info? 44).map (·.size) = some csy.toList.length from by rw [hcsy]; kernel_rfl)
                have HSy := Lib.hid (show csy.size = 11 from by rw [hcsy]; rfl)
                have HCSy := Lib.hid hcsy
                -- its number
                have hsm : m < sg.length := by rw [HS9.out]; exact hlt
                have hyy : y.y = sg[m] := by
                  have h1 : (ys cl9)[m]? = some y.y := by rw [ys, List.getElem?_map, List.getElem?_eq_getElem hkly, ← hxey]; rfl
                  rw [Y9.out, List.getElem?_eq_getElem hsm] at h1; injection h1 with h1; exact h1.symm
                have hn8 : n8 = (SS.take j).flatten.length + m := by
                  have h1 := HJ.out.1.len
                  have h2 := congrArg List.length HJ.out.2.1
                  rw [ys_length, List.length_append, List.length_take, h1] at h2
                  omega
                have hfb := HFB.out
                have hLN := HL.out
                have hin := HIN.out m HSG.out hsm
                rw [← hn8] at hin
                have hn8N : n8 < N := by omega
                obtain ⟨gi, hgi, hgc⟩ := Pk.ints_at (own_below O6.out (HBQ.out)) (by rw [in_length, ys_length])
                have hgi := hgi (by omega)
                have hci := hgc n8 (by omega)
                have hvi : (inB encCl (ys l))[n8]'(by rw [in_length, ys_length]; omega) = j := by
                  rw [List.getElem?_eq_getElem (by rw [in_length, ys_length]; omega)] at hin; injection hin
                rw [hvi] at hci
                have hgw : gi < w6.heap.size := by
                  have h1 := (O6.out.lt gi (by rw [hgi]; rfl)).2; exact h1
                have hci2 : wr.cell? ⟨gi, n8, none⟩ = some (.int .i64 (j : Int)) := by
                  rw [← hci]
                  exact World.cell?_of_block (w := wq) (hbt.block gi (Nat.lt_of_lt_of_le hgw HBQ.out.size) (fun h2 => by have h3 := (HI.out.1.own.lt gi h2).1; omega))
                subst hgi
                have z0 : (0 : Int) ≤ (m : Int) := by omega
                have z1 : (m : Int) < (n9 : Int) := by omega
                have z2 : (0 : Int) ≤ (n8 : Int) := by omega
                have z3 : (n8 : Int) < (N : Int) := by omega
                have z4 : decide ((N : Int) ≤ (n8 : Int)) = false := decide_eq_false (by omega)
                have z5 : decide (N ≤ n8) = false := decide_eq_false (by omega)
                have hL2 := HN9L.out
                have z6 : ((j : Int) != (j : Int)) = false := by simp
                have HBT := Lib.hid hbt
                have HYY := Lib.hid hyy
                have HSM := Lib.hid hsm
                have HLM := Lib.hid hlt
                have W7 := Lib.hid (show Below wr.heap.size wr (wr.alloc (.cells csy 44)) from (Below.refl _ _).alloc (Nat.le_refl _) _)
                have HOW7 := Lib.hid (HJ.out.1.below W7.out)
                have R7 := Lib.hid (show Rd (wr.alloc (.cells csy 44)).heap.size (wr.alloc (.cells csy 44)) (some ⟨wr.heap.size, 0, none⟩) (ccs [y]) from by
                  have hb5 : Blk (wr.alloc (.cells csy 44)) wr.heap.size csy 44 := heap_alloc_new _ _
                  intro i v hv
                  refine ⟨_, rfl, hb5.lt, ?_⟩
                  rw [Addr.add_mid, hb5.cell, Nat.zero_add, HCSy.out]
                  simpa [ccs, ccV] using hv)
                have H6S := Lib.hid (show w6.heap.size ≤ (wr.alloc (.cells csy 44)).heap.size from Nat.le_trans HBQ.out.size (Nat.le_trans hbt.size W7.out.size))
                have HYthdmdlnndbjcoaa8 := Lib.hid (show n8 + 1 ≤ 1000 by have := HNB.out; omega)
                clear hrd9 hbc hmy hxey hcy hcsy hyy hn8 hfb hLN hin hn8N hgc hci hvi hgw hbt hlt
                go_wp2_with (first
                  | (refine wpList_load_at rfl 44 (.tmp 122) rfl (ad.add (m * 11)) rfl HCY.out Try.underlying44 rfl HIy.out ?_; change wpList _ _ _ _ (Act.put _ _ (.agg csy)) _)
                  | (show wpList _ _ _ ({ dst := some 124, op := .buildSlice 22 1 #[(0, .tmp 123)], type := _, pos := _, after := _, guard := _ } :: _) _ _; apply Classical.byContradiction; intro hneg))
                refine hneg ?_
                clear hneg
                refine wpList_execgC (v := .slice (some ⟨wr.heap.size, 0, none⟩) 1 1) (w' := wr.alloc (.cells csy 44)) rfl (exec_buildSlice 22 1 #[(0, .tmp 123)] rfl ?hbld) ?_
                case hbld =>
                  simp only [List.map_toArray, List.map_cons, List.map_nil]
                  exact run_oneN cellsElt _ (.agg csy) HSy.out (by omega)
                go_wp2_with (at_builtin; apply Classical.byContradiction; intro hneg)
                refine hneg ?_
                clear hneg
                refine wpList_appN _ rfl (.tmp 119) (.tmp 124) 22 rfl cellsElt (base := w6.heap.size) (v := .slice A8 n8 c8) (n := n8) (xs := ccs cl8) rfl HOW7.out.own (m := 1) rfl R7.out rfl (ccs_one _) (by have := HYthdmdlnndbjcoaa8.out; omega) H6S.out ?_
                intro A10 c10 w10 ho10 hg10 hl10
                have C10 := Lib.hid (HOW7.out.push (y := y) ⟨(HBY.out.1.below W7.out).more W7.out.size, fun ad had => Nat.lt_of_lt_of_le (HBY.out.2 ad had) W7.out.size⟩ (fun ad had h => by
                  have h1 := HNY.out ad had
                  have h3 := HBY.out.2 ad had
                  rcases HJ.out.2.2 _ h with h2 | h2
                  · have := HA7.out _ h2; omega
                  · have := HQY.out ad had; omega) hg10 ho10 hl10)
                have G10 := Lib.hid hg10
                have L10 := Lib.hid hl10
                clear ho10 hg10 hl10
                go_wp2_with fail
                go_roundw
                case rel =>
                  have hbt2 : But (fun q => (Value.slice A7 n7 c7).ownBlock = some q) wq w10 := by
                    have h1 := (HBT.out).trans (But.of_below (S := fun q => (Value.slice A7 n7 c7).ownBlock = some q) W7.out (fun k h1 h2 => by omega))
                    exact h1.grown G10.out (fun k hk => by
                      rcases HJ.out.2.2 k hk with h2 | h2
                      · exact .inl h2
                      · exact .inr h2)
                  refine ⟨m + 1, n8 + 1, A10, c10, cl8 ++ [y], by omega, by go_num, rfl, hbt2, Lib.hid ⟨C10.out, ?_, fun q hq => ?_⟩⟩
                  · rw [ys_append, HJ.out.2.1, List.take_succ_eq_append_getElem HSM.out, ← HYY.out, List.append_assoc]; rfl
                  · rcases L10.out with h1 | h1
                    · exact HJ.out.2.2 q (h1 ▸ hq)
                    · rw [h1] at hq; injection hq with hq
                      exact .inr (by rw [← hq]; exact Nat.le_trans HBT.out.size W7.out.size)
                case measure => (simp [intOf]; try omega)
              · have HBR := Lib.hid (show Below w6.heap.size w6 wr from HBQ.out.trans (hbt.below (fun k h1 h2 => by have h3 := (HI.out.1.own.lt k h2).1; omega) HBQ.out.size))
                have hmn : m = n9 := by omega
                have HJ2 := Lib.hid (show ys cl8 = (SS.take (j + 1)).flatten from by rw [HJ.out.2.1, HFT.out, show sg.take m = sg from List.take_of_length_le (by rw [HS9.out, hmn]; exact Nat.le_refl _)])
                have hL1 := HLT.out
                have hL2 := HN9L.out
                clear hbt hlt hm
                go_wp2_with fail
                go_roundw
                case rel => exact ⟨j + 1, n8, A8, c8, cl8, by omega, by go_num, rfl, HBR.out, Lib.hid ⟨HJ.out.1, HJ2.out⟩⟩
                case measure => (simp [intOf]; try omega)
          · have k2 : decide ((0 : Int) < (j : Int)) = true := decide_eq_true (by omega)
            have k2n : decide (0 < j) = true := decide_eq_true (by omega)
            obtain ⟨j0, hj0e⟩ : ∃ j0, j = j0 + 1 := ⟨j - 1, by omega⟩
            have wj : IntKind.i64.wrap ((j : Int) - 1) = (j0 : Int) := by rw [IntWalk.i64_in _ (by have := HN9L.out; omega)]; omega
            have k3 : (0 : Int) ≤ (j0 : Int) := by omega
            have k4 : (j0 : Int) < (n3 : Int) := by omega
            have hlt0 : j0 < n3 := by omega
            obtain ⟨g4, e0, hA4, hej0, _, _, _, _, _⟩ := Bods.at_ D6.out hlt0
            injection hA4 with hA4; injection hA4 with hA4; subst hA4
            obtain ⟨sg0, hsg0, hebs0, _, hele0, _, _⟩ := seg_at HALL.out E3.out hej0
            obtain ⟨q0, hq0⟩ : ∃ q, q = e0.b.length := ⟨_, rfl⟩
            have HCJ0 := Lib.hid (show ∀ w', Below w6.heap.size w6 w' → w'.cell? ⟨g3, j0, none⟩ = some (.slice e0.A q0 e0.c) from fun w' hw' => by
              obtain ⟨g', e', h1, h2, h3, h4, _⟩ := Bods.at_ (D6.out.below hw') hlt0
              injection h1 with h1; injection h1 with h1; subst h1
              rw [hej0] at h2; injection h2 with h2; subst h2
              rw [hq0]; exact h3)
            obtain ⟨y0, ty, hsy⟩ : ∃ y0 ty, sg = y0 :: ty := List.exists_cons_of_ne_nil HNE.out
            have hxy : x.y = y0 := by
              have h1 : (ys cl9)[0]? = some x.y := by rw [ys, List.getElem?_map, List.getElem?_eq_getElem (by rw [HL9.out]; exact n90), ← HXEx.out]; rfl
              rw [Y9.out, hsy] at h1; injection h1 with h1; exact h1.symm
            have hokx : okCl x.y := HSOK.out _ (by rw [hxy, hsy]; simp)
            have hgap := (segOk_ys HALL.out).gap j0 sg0 y0 ty hsg0 (by rw [← HSS.out, ← hj0e, HSG.out, hsy])
            obtain ⟨z0, hz0⟩ : ∃ z, z = (encCl x.y).length := ⟨_, rfl⟩
            have HSZ := Lib.hid (show ∀ W, Calls Try.prog 21 #[.agg csx] W (RetB (.int .i64 (z0 : Int)) W) from fun W => by
              have h := size_any x.y x.A x.c W
              rw [if_pos hokx, ← HCSx.out, ← hz0] at h; exact h)
            have hzl := encCl_le hokx
            obtain ⟨t0, ht0⟩ : ∃ t0, t0 = q0 + z0 := ⟨_, rfl⟩
            have wz : IntKind.i64.wrap ((q0 : Int) + (z0 : Int)) = (t0 : Int) := by rw [IntWalk.i64_in _ (by omega)]; omega
            have qz : decide ((t0 : Int) ≤ 103) = false := decide_eq_false (by rw [← hebs0, ← hxy, ← hq0, ← hz0] at hgap; omega)
            have qzn : decide (t0 ≤ 103) = false := decide_eq_false (by have := of_decide_eq_false qz; omega)
            have HJ0 := Lib.hid hj0e
            clear hj0e hlt0 hej0 hsg0 hebs0 hele0 hq0 hsy hxy hokx hgap hz0 hzl hj0 ht0
            go_upto_region 18 with fail
            refine wp_region_held_drew (S := (fun w' => Below w9.heap.size w9 w')) (by kernel_rfl) (Below.refl w9.heap.size w9).drew (fun hh => ?_)
            have HH := Lib.hid hh
            clear hh
            refine wpAnyH_take (i := 0) (v := ?vb0) rfl (by kernel_rfl) (by kernel_rfl) (by kernel_rfl) (fun _ _ _ h => h) (Or.inl ⟨by rfl, fun w' _ => ?yb0⟩) HH.out ?_
            case yb0 => (go_simp; try with_reducible rfl)
            refine wpAnyH_take (i := 1) (v := ?vb1) rfl (by kernel_rfl) (by kernel_rfl) (by kernel_rfl) (fun _ _ _ h => h) (Or.inl ⟨by rfl, fun w' _ => ?yb1⟩) HH.out ?_
            case yb1 => (go_simp; try with_reducible rfl)
            try simp only [List.getElem_toArray, List.getElem_cons_succ, List.getElem_cons_zero, Act.put, List.setIfInBounds_toArray, List.set_cons_zero, List.set_cons_succ]
            refine wpAnyH_take (i := 2) (v := ?vb2) rfl (by kernel_rfl) (by kernel_rfl) (by kernel_rfl) (fun _ _ _ h => h) (Or.inl ⟨by rfl, fun w' _ => ?yb2⟩) HH.out ?_
            case yb2 => (go_simp; try with_reducible rfl)
            try simp only [List.getElem_toArray, List.getElem_cons_succ, List.getElem_cons_zero, Act.put, List.setIfInBounds_toArray, List.set_cons_zero, List.set_cons_succ]
            refine wpAnyH_take (i := 3) (v := ?vb3) rfl (by kernel_rfl) (by kernel_rfl) (by kernel_rfl) (fun _ _ _ h => h) (Or.inl ⟨by rfl, fun w' _ => ?yb3⟩) HH.out ?_
            case yb3 => (go_simp; try with_reducible rfl)
            try simp only [List.getElem_toArray, List.getElem_cons_succ, List.getElem_cons_zero, Act.put, List.setIfInBounds_toArray, List.set_cons_zero, List.set_cons_succ]
            refine wpAnyH_take (i := 4) (v := ?vb4) rfl (by kernel_rfl) (by kernel_rfl) (by kernel_rfl) (fun _ _ _ h => h) (Or.inl ⟨by rfl, fun w' _ => ?yb4⟩) HH.out ?_
            case yb4 => (go_simp; try with_reducible rfl)
            try simp only [List.getElem_toArray, List.getElem_cons_succ, List.getElem_cons_zero, Act.put, List.setIfInBounds_toArray, List.set_cons_zero, List.set_cons_succ]
            refine wpAnyH_take (i := 5) (v := ?vb5) rfl (by kernel_rfl) (by kernel_rfl) (by kernel_rfl) (fun _ _ _ h => h) (Or.inl ⟨by rfl, fun w' _ => ?yb5⟩) HH.out ?_
            case yb5 => (go_simp; try with_reducible rfl)
            refine wpAnyH_take (i := 6) (v := ?vb6) rfl (by kernel_rfl) (by kernel_rfl) (by kernel_rfl) (fun _ _ _ h => h) (Or.inl ⟨by rfl, fun w' _ => ?yb6⟩) HH.out ?_
            case yb6 => (go_simp; try with_reducible rfl)
            refine wpAnyH_take (i := 7) (v := ?vb7) rfl (by kernel_rfl) (by kernel_rfl) (by kernel_rfl) (fun _ _ _ h => h) (Or.inl ⟨by rfl, fun w' _ => ?yb7⟩) HH.out ?_
            case yb7 => (go_simp; try with_reducible rfl)
            try simp only [List.getElem_toArray, List.getElem_cons_succ, List.getElem_cons_zero, Act.put, List.setIfInBounds_toArray, List.set_cons_zero, List.set_cons_succ]
            refine wpAnyH_take (i := 8) (v := ?vb8) rfl (by kernel_rfl) (by kernel_rfl) (by kernel_rfl) (fun _ _ _ h => h) (Or.inl ⟨by rfl, fun w' _ => ?yb8⟩) HH.out ?_
            case yb8 => (go_simp; try with_reducible rfl)
            try simp only [List.getElem_toArray, List.getElem_cons_succ, List.getElem_cons_zero, Act.put, List.setIfInBounds_toArray, List.set_cons_zero, List.set_cons_succ]
            refine wpAnyH_take (i := 9) (v := ?vb9) rfl (by kernel_rfl) (by kernel_rfl) (by kernel_rfl) (fun _ _ _ h => h) (Or.inl ⟨by rfl, fun w' _ => ?yb9⟩) HH.out ?_
            case yb9 => (go_simp; try with_reducible rfl)
            try simp only [List.getElem_toArray, List.getElem_cons_succ, List.getElem_cons_zero, Act.put, List.setIfInBounds_toArray, List.set_cons_zero, List.set_cons_succ]
            refine wpAnyH_take (i := 10) (v := ?vb10) rfl (by kernel_rfl) (by kernel_rfl) (by kernel_rfl) (fun _ _ _ h => h) (Or.inl ⟨by rfl, fun w' _ => ?yb10⟩) HH.out ?_
            case yb10 => (go_simp; try with_reducible rfl)
            try simp only [List.getElem_toArray, List.getElem_cons_succ, List.getElem_cons_zero, Act.put, List.setIfInBounds_toArray, List.set_cons_zero, List.set_cons_succ]
            try simp only [List.getElem_toArray, List.getElem_cons_succ, List.getElem_cons_zero, Act.put, List.setIfInBounds_toArray, List.set_cons_zero, List.set_cons_succ]
            refine wpAnyH_take (i := 11) (v := .slice e.A q e.c) rfl (by kernel_rfl) (by kernel_rfl) (by kernel_rfl) (fun _ _ _ h => h) (Or.inl ⟨by rfl, fun w' hw' => ?yb11⟩) HH.out ?_
            case yb11 => (have hc := (fun w' hw' => (HCJ.out w' (HB9.out.trans (hw'.mono HB9.out.size))).1) w' hw'; go_simp; try with_reducible rfl)
            try simp only [List.getElem_toArray, List.getElem_cons_succ, List.getElem_cons_zero, Act.put, List.setIfInBounds_toArray, List.set_cons_zero, List.set_cons_succ]
            refine wpAnyH_take (i := 12) (v := ?vb12) rfl (by kernel_rfl) (by kernel_rfl) (by kernel_rfl) (fun _ _ _ h => h) (Or.inl ⟨by rfl, fun w' _ => ?yb12⟩) HH.out ?_
            case yb12 => (go_simp; try with_reducible rfl)
            try simp only [List.getElem_toArray, List.getElem_cons_succ, List.getElem_cons_zero, Act.put, List.setIfInBounds_toArray, List.set_cons_zero, List.set_cons_succ]
            refine wpAnyH_take (i := 13) (v := ?vb13) rfl (by kernel_rfl) (by kernel_rfl) (by kernel_rfl) (fun _ _ _ h => h) (Or.inl ⟨by rfl, fun w' _ => ?yb13⟩) HH.out ?_
            case yb13 => (go_simp; try with_reducible rfl)
            try simp only [List.getElem_toArray, List.getElem_cons_succ, List.getElem_cons_zero, Act.put, List.setIfInBounds_toArray, List.set_cons_zero, List.set_cons_succ]
            refine wpAnyH_take (i := 14) (v := ?vb14) rfl (by kernel_rfl) (by kernel_rfl) (by kernel_rfl) (fun _ _ _ h => h) (Or.inl ⟨by rfl, fun w' _ => ?yb14⟩) HH.out ?_
            case yb14 => (go_simp; try with_reducible rfl)
            refine wpAnyH_take (i := 15) (v := ?vb15) rfl (by kernel_rfl) (by kernel_rfl) (by kernel_rfl) (fun _ _ _ h => h) (Or.inl ⟨by rfl, fun w' _ => ?yb15⟩) HH.out ?_
            case yb15 => (go_simp; try with_reducible rfl)
            try simp only [List.getElem_toArray, List.getElem_cons_succ, List.getElem_cons_zero, Act.put, List.setIfInBounds_toArray, List.set_cons_zero, List.set_cons_succ]
            refine wpAnyH_take (i := 16) (v := ?vb16) rfl (by kernel_rfl) (by kernel_rfl) (by kernel_rfl) (fun _ _ _ h => h) (Or.inl ⟨by rfl, fun w' _ => ?yb16⟩) HH.out ?_
            case yb16 => (go_simp; try with_reducible rfl)
            try simp only [List.getElem_toArray, List.getElem_cons_succ, List.getElem_cons_zero, Act.put, List.setIfInBounds_toArray, List.set_cons_zero, List.set_cons_succ]
            refine wpAnyH_take (i := 17) (v := ?vb17) rfl (by kernel_rfl) (by kernel_rfl) (by kernel_rfl) (fun _ _ _ h => h) (Or.inl ⟨by rfl, fun w' _ => ?yb17⟩) HH.out ?_
            case yb17 => (go_simp; try with_reducible rfl)
            try simp only [List.getElem_toArray, List.getElem_cons_succ, List.getElem_cons_zero, Act.put, List.setIfInBounds_toArray, List.set_cons_zero, List.set_cons_succ]
            refine wpAnyH_take (i := 18) (v := ?vb18) rfl (by kernel_rfl) (by kernel_rfl) (by kernel_rfl) (fun _ _ _ h => h) (Or.inl ⟨by rfl, fun w' _ => ?yb18⟩) HH.out ?_
            case yb18 => (go_simp; try with_reducible rfl)
            try simp only [List.getElem_toArray, List.getElem_cons_succ, List.getElem_cons_zero, Act.put, List.setIfInBounds_toArray, List.set_cons_zero, List.set_cons_succ]
            refine wpAnyH_take (i := 19) (v := ?vb19) rfl (by kernel_rfl) (by kernel_rfl) (by kernel_rfl) (fun _ _ _ h => h) (Or.inl ⟨by rfl, fun w' _ => ?yb19⟩) HH.out ?_
            case yb19 => (go_simp; try with_reducible rfl)
            try simp only [List.getElem_toArray, List.getElem_cons_succ, List.getElem_cons_zero, Act.put, List.setIfInBounds_toArray, List.set_cons_zero, List.set_cons_succ]
            refine wpAnyH_take (i := 20) (v := ?vb20) rfl (by kernel_rfl) (by kernel_rfl) (by kernel_rfl) (fun _ _ _ h => h) (Or.inl ⟨by rfl, fun w' _ => ?yb20⟩) HH.out ?_
            case yb20 => (go_simp; try with_reducible rfl)
            try simp only [List.getElem_toArray, List.getElem_cons_succ, List.getElem_cons_zero, Act.put, List.setIfInBounds_toArray, List.set_cons_zero, List.set_cons_succ]
            refine wpAnyH_take (i := 21) (v := ?vb21) rfl (by kernel_rfl) (by kernel_rfl) (by kernel_rfl) (fun _ _ _ h => h) (Or.inl ⟨by rfl, fun w' _ => ?yb21⟩) HH.out ?_
            case yb21 => (go_simp; try with_reducible rfl)
            try simp only [List.getElem_toArray, List.getElem_cons_succ, List.getElem_cons_zero, Act.put, List.setIfInBounds_toArray, List.set_cons_zero, List.set_cons_succ]
            refine wpAnyH_take (i := 22) (v := ?vb22) rfl (by kernel_rfl) (by kernel_rfl) (by kernel_rfl) (fun _ _ _ h => h) (Or.inl ⟨by rfl, fun w' _ => ?yb22⟩) HH.out ?_
            case yb22 => (go_simp; try with_reducible rfl)
            try simp only [List.getElem_toArray, List.getElem_cons_succ, List.getElem_cons_zero, Act.put, List.setIfInBounds_toArray, List.set_cons_zero, List.set_cons_succ]
            try simp only [List.getElem_toArray, List.getElem_cons_succ, List.getElem_cons_zero, Act.put, List.setIfInBounds_toArray, List.set_cons_zero, List.set_cons_succ]
            refine wpAnyH_take (i := 23) (v := .slice e0.A q0 e0.c) rfl (by kernel_rfl) (by kernel_rfl) (by kernel_rfl) (fun _ _ _ h => h) (Or.inl ⟨by rfl, fun w' hw' => ?yb23⟩) HH.out ?_
            case yb23 => (have hc := (fun w' hw' => HCJ0.out w' (HB9.out.trans (hw'.mono HB9.out.size))) w' hw'; go_simp; try with_reducible rfl)
            try simp only [List.getElem_toArray, List.getElem_cons_succ, List.getElem_cons_zero, Act.put, List.setIfInBounds_toArray, List.set_cons_zero, List.set_cons_succ]
            refine wpAnyH_take (i := 24) (v := ?vb24) rfl (by kernel_rfl) (by kernel_rfl) (by kernel_rfl) (fun _ _ _ h => h) (Or.inl ⟨by rfl, fun w' _ => ?yb24⟩) HH.out ?_
            case yb24 => (go_simp; try with_reducible rfl)
            try simp only [List.getElem_toArray, List.getElem_cons_succ, List.getElem_cons_zero, Act.put, List.setIfInBounds_toArray, List.set_cons_zero, List.set_cons_succ]
            refine wpAnyH_take (i := 25) (v := ?vb25) rfl (by kernel_rfl) (by kernel_rfl) (by kernel_rfl) (fun _ _ _ h => h) (Or.inl ⟨by rfl, fun w' _ => ?yb25⟩) HH.out ?_
            case yb25 => (go_simp; try with_reducible rfl)
            try simp only [List.getElem_toArray, List.getElem_cons_succ, List.getElem_cons_zero, Act.put, List.setIfInBounds_toArray, List.set_cons_zero, List.set_cons_succ]
            refine wpAnyH_take (i := 26) (v := ?vb26) rfl (by kernel_rfl) (by kernel_rfl) (by kernel_rfl) (fun _ _ _ h => h) (Or.inl ⟨by rfl, fun w' _ => ?yb26⟩) HH.out ?_
            case yb26 => (go_simp; try with_reducible rfl)
            refine wpAnyH_take (i := 27) (v := .agg csx) rfl (by kernel_rfl) (by kernel_rfl) (by kernel_rfl) (fun _ _ _ h => h) (Or.inl ⟨by rfl, fun w' hw' => ?yb27⟩) HH.out ?_
            case yb27 => exact exec_load_at 44 (.tmp 92) rfl (ad.add (0 * 11)) (by first | rfl | (go_simp; rfl)) (HCWx.out _ hw') Try.underlying44 rfl HIx.out
            try simp only [List.getElem_toArray, List.getElem_cons_succ, List.getElem_cons_zero, Act.put, List.setIfInBounds_toArray, List.set_cons_zero, List.set_cons_succ]
            refine wpAnyH_ready (rs := [28]) (by kernel_rfl) (by simp) (AllReadyH.cons rfl (fun K hK => ?_) AllReadyH.nil)
            rw [if_pos (by rfl)]
            go_simp
            refine (HSZ.out _).mono ?_
            rintro e wz ⟨rfl, bwz⟩
            have hb := HH.out.trans (bwz.mono HH.out.size)
            go_simp
            refine hK.out _ _ hb (fun hh => ?_)
            have HH' := Lib.hid hh
            clear hh hK K HH bwz
            have HH := Lib.hid HH'.out
            clear HH'
            try simp only [List.getElem_toArray, List.getElem_cons_succ, List.getElem_cons_zero, Act.put, List.setIfInBounds_toArray, List.set_cons_zero, List.set_cons_succ]
            refine wpAnyH_take (i := 29) (v := ?vb29) rfl (by kernel_rfl) (by kernel_rfl) (by kernel_rfl) (fun _ _ _ h => h) (Or.inl ⟨by rfl, fun w' _ => ?yb29⟩) HH.out ?_
            case yb29 => (go_simp; try with_reducible rfl)
            try simp only [List.getElem_toArray, List.getElem_cons_succ, List.getElem_cons_zero, Act.put, List.setIfInBounds_toArray, List.set_cons_zero, List.set_cons_succ]
            refine wpAnyH_take (i := 30) (v := ?vb30) rfl (by kernel_rfl) (by kernel_rfl) (by kernel_rfl) (fun _ _ _ h => h) (Or.inl ⟨by rfl, fun w' _ => ?yb30⟩) HH.out ?_
            case yb30 => (go_simp; try with_reducible rfl)
            try simp only [List.getElem_toArray, List.getElem_cons_succ, List.getElem_cons_zero, Act.put, List.setIfInBounds_toArray, List.set_cons_zero, List.set_cons_succ]
            refine wpAnyH_take (i := 31) (v := ?vb31) rfl (by kernel_rfl) (by kernel_rfl) (by kernel_rfl) (fun _ _ _ h => h) (Or.inl ⟨by rfl, fun w' _ => ?yb31⟩) HH.out ?_
            case yb31 => (go_simp; try with_reducible rfl)
            try simp only [List.getElem_toArray, List.getElem_cons_succ, List.getElem_cons_zero, Act.put, List.setIfInBounds_toArray, List.set_cons_zero, List.set_cons_succ]
            refine wpAnyH_take (i := 32) (v := ?vb32) rfl (by kernel_rfl) (by kernel_rfl) (by kernel_rfl) (fun _ _ _ h => h) (Or.inl ⟨by rfl, fun w' _ => ?yb32⟩) HH.out ?_
            case yb32 => (go_simp; try with_reducible rfl)
            try simp only [List.getElem_toArray, List.getElem_cons_succ, List.getElem_cons_zero, Act.put, List.setIfInBounds_toArray, List.set_cons_zero, List.set_cons_succ]
            refine wpAnyH_done (by kernel_rfl) ?_ _
            have HBQ := Lib.hid (HB9.out.trans (HH.out.mono HB9.out.size))
            have NQ := Lib.hid (own_belowN N9.out HH.out)
            have CQ := Lib.hid (C9.out.below HH.out)
            have OWQ := Lib.hid (HOW.out.below HH.out)
            obtain ⟨wq, hwq⟩ : ∃ v, v = wz := ⟨_, rfl⟩
            rw [← hwq] at HBQ NQ CQ OWQ ⊢
            clear hwq HH
            have HA7 := Lib.hid (show ∀ q, (Value.slice A7 n7 c7).ownBlock = some q → q < wv.heap.size from fun q h => (HI.out.1.own.lt q h).2)
            go_wp2_with fail
            go_loopw [7, 11] (fun a k wr => ∃ (m n8 : Nat) (A8 : Option Addr) (c8 : Nat) (cl8 : List Cc), m ≤ n9 ∧ k = .int .i64 m ∧ a = .slice A8 n8 c8 ∧ But (fun q => (Value.slice A7 n7 c7).ownBlock = some q) wq wr ∧ Hid (OwnC wr w6.heap.size A8 n8 c8 cl8 ∧ ys cl8 = (SS.take j).flatten ++ sg.take m ∧ ∀ q, (Value.slice A8 n8 c8).ownBlock = some q → (Value.slice A7 n7 c7).ownBlock = some q ∨ wq.heap.size ≤ q)) (fun _ k _ => n9 - (intOf k).toNat)
            case atStart => exact ⟨0, n7, A7, c7, cl7, Nat.zero_le _, rfl, rfl, But.refl _, Lib.hid ⟨OWQ.out, by rw [HI.out.2]; simp, fun q h => .inl h⟩⟩
            case round =>
              obtain ⟨m, n8, A8, c8, cl8, hm, rfl, rfl, hbt, HJ⟩ := hrel
              by_cases hlt : m < n9
              · have hkly : m < cl9.length := by rw [HL9.out]; exact hlt
                have hrd9 : Rd wr.heap.size wr (some ad) (ccs cl9) := Rd.ownN (Own.but NQ.out hbt (fun q h1 h2 => by have h3 := (NQ.out.lt q h1).1; have h4 := HA7.out q h2; omega))
                have HRY := Lib.hid hrd9
                have hbc : BodC wr cl9 := fun k hk => ⟨(rd_but (CQ.out k hk).1 hbt (fun ad had h2 => by have h3 := NW9.out k hk ad had; have h4 := HA7.out _ h2; omega)).more hbt.size, fun ad had => Nat.lt_of_lt_of_le ((CQ.out k hk).2 ad had) hbt.size⟩
                obtain ⟨y, hxey⟩ : ∃ y, y = cl9[m] := ⟨_, rfl⟩
                have hmy : y ∈ cl9 := by rw [hxey]; exact List.getElem_mem hkly
                have HBY := Lib.hid (hbc y hmy)
                have HNY := Lib.hid (NW9.out y hmy)
                have HQY := Lib.hid (CQ.out y hmy).2
                have hcy : ∀ i v, (ccV y)[i]? = some v → wr.cell? ((ad.add (m * 11)).add i) = some v := fun i v hv => by
                  obtain ⟨ad', hA', _, hc⟩ := rd_cell hrd9 hkly
                  injection hA' with hA'
                  subst hA'
                  exact hc i v (by rw [← hxey]; exact hv)
                obtain ⟨csy, hcsy⟩ : ∃ cs, cs = clA y.y y.A y.c := ⟨_, rfl⟩
                have HCY := Lib.hid (show ∀ i v, csy.toList[i]? = some v → wr.cell? ((ad.add (m * 11)).add i) = some v from fun i v hv => hcy i v (by rw [hcsy] at hv; exact hv))
                have HIy := Lib.hid (show (Try.prog.info? 44).map (·.size) = some csy.toList.length from by rw [hcsy]; kernel_rfl)
                have HSy := Lib.hid (show csy.size = 11 from by rw [hcsy]; rfl)
                have HCSy := Lib.hid hcsy
                -- its number
                have hsm : m < sg.length := by rw [HS9.out]; exact hlt
                have hyy : y.y = sg[m] := by
                  have h1 : (ys cl9)[m]? = some y.y := by rw [ys, List.getElem?_map, List.getElem?_eq_getElem hkly, ← hxey]; rfl
                  rw [Y9.out, List.getElem?_eq_getElem hsm] at h1; injection h1 with h1; exact h1.symm
                have hn8 : n8 = (SS.take j).flatten.length + m := by
                  have h1 := HJ.out.1.len
                  have h2 := congrArg List.length HJ.out.2.1
                  rw [ys_length, List.length_append, List.length_take, h1] at h2
                  omega
                have hfb := HFB.out
                have hLN := HL.out
                have hin := HIN.out m HSG.out hsm
                rw [← hn8] at hin
                have hn8N : n8 < N := by omega
                obtain ⟨gi, hgi, hgc⟩ := Pk.ints_at (own_below O6.out (HBQ.out)) (by rw [in_length, ys_length])
                have hgi := hgi (by omega)
                have hci := hgc n8 (by omega)
                have hvi : (inB encCl (ys l))[n8]'(by rw [in_length, ys_length]; omega) = j := by
                  rw [List.getElem?_eq_getElem (by rw [in_length, ys_length]; omega)] at hin; injection hin
                rw [hvi] at hci
                have hgw : gi < w6.heap.size := by
                  have h1 := (O6.out.lt gi (by rw [hgi]; rfl)).2; exact h1
                have hci2 : wr.cell? ⟨gi, n8, none⟩ = some (.int .i64 (j : Int)) := by
                  rw [← hci]
                  exact World.cell?_of_block (w := wq) (hbt.block gi (Nat.lt_of_lt_of_le hgw HBQ.out.size) (fun h2 => by have h3 := (HI.out.1.own.lt gi h2).1; omega))
                subst hgi
                have z0 : (0 : Int) ≤ (m : Int) := by omega
                have z1 : (m : Int) < (n9 : Int) := by omega
                have z2 : (0 : Int) ≤ (n8 : Int) := by omega
                have z3 : (n8 : Int) < (N : Int) := by omega
                have z4 : decide ((N : Int) ≤ (n8 : Int)) = false := decide_eq_false (by omega)
                have z5 : decide (N ≤ n8) = false := decide_eq_false (by omega)
                have hL2 := HN9L.out
                have z6 : ((j : Int) != (j : Int)) = false := by simp
                have HBT := Lib.hid hbt
                have HYY := Lib.hid hyy
                have HSM := Lib.hid hsm
                have HLM := Lib.hid hlt
                have W7 := Lib.hid (show Below wr.heap.size wr (wr.alloc (.cells csy 44)) from (Below.refl _ _).alloc (Nat.le_refl _) _)
                have HOW7 := Lib.hid (HJ.out.1.below W7.out)
                have R7 := Lib.hid (show Rd (wr.alloc (.cells csy 44)).heap.size (wr.alloc (.cells csy 44)) (some ⟨wr.heap.size, 0, none⟩) (ccs [y]) from by
                  have hb5 : Blk (wr.alloc (.cells csy 44)) wr.heap.size csy 44 := heap_alloc_new _ _
                  intro i v hv
                  refine ⟨_, rfl, hb5.lt, ?_⟩
                  rw [Addr.add_mid, hb5.cell, Nat.zero_add, HCSy.out]
                  simpa [ccs, ccV] using hv)
                have H6S := Lib.hid (show w6.heap.size ≤ (wr.alloc (.cells csy 44)).heap.size from Nat.le_trans HBQ.out.size (Nat.le_trans hbt.size W7.out.size))
                have HYthdmdlnndbjcoaa8 := Lib.hid (show n8 + 1 ≤ 1000 by have := HNB.out; omega)
                clear hrd9 hbc hmy hxey hcy hcsy hyy hn8 hfb hLN hin hn8N hgc hci hvi hgw hbt hlt
                go_wp2_with (first
                  | (refine wpList_load_at rfl 44 (.tmp 122) rfl (ad.add (m * 11)) rfl HCY.out Try.underlying44 rfl HIy.out ?_; change wpList _ _ _ _ (Act.put _ _ (.agg csy)) _)
                  | (show wpList _ _ _ ({ dst := some 124, op := .buildSlice 22 1 #[(0, .tmp 123)], type := _, pos := _, after := _, guard := _ } :: _) _ _; apply Classical.byContradiction; intro hneg))
                refine hneg ?_
                clear hneg
                refine wpList_execgC (v := .slice (some ⟨wr.heap.size, 0, none⟩) 1 1) (w' := wr.alloc (.cells csy 44)) rfl (exec_buildSlice 22 1 #[(0, .tmp 123)] rfl ?hbld) ?_
                case hbld =>
                  simp only [List.map_toArray, List.map_cons, List.map_nil]
                  exact run_oneN cellsElt _ (.agg csy) HSy.out (by omega)
                go_wp2_with (at_builtin; apply Classical.byContradiction; intro hneg)
                refine hneg ?_
                clear hneg
                refine wpList_appN _ rfl (.tmp 119) (.tmp 124) 22 rfl cellsElt (base := w6.heap.size) (v := .slice A8 n8 c8) (n := n8) (xs := ccs cl8) rfl HOW7.out.own (m := 1) rfl R7.out rfl (ccs_one _) (by have := HYthdmdlnndbjcoaa8.out; omega) H6S.out ?_
                intro A10 c10 w10 ho10 hg10 hl10
                have C10 := Lib.hid (HOW7.out.push (y := y) ⟨(HBY.out.1.below W7.out).more W7.out.size, fun ad had => Nat.lt_of_lt_of_le (HBY.out.2 ad had) W7.out.size⟩ (fun ad had h => by
                  have h1 := HNY.out ad had
                  have h3 := HBY.out.2 ad had
                  rcases HJ.out.2.2 _ h with h2 | h2
                  · have := HA7.out _ h2; omega
                  · have := HQY.out ad had; omega) hg10 ho10 hl10)
                have G10 := Lib.hid hg10
                have L10 := Lib.hid hl10
                clear ho10 hg10 hl10
                go_wp2_with fail
                go_roundw
                case rel =>
                  have hbt2 : But (fun q => (Value.slice A7 n7 c7).ownBlock = some q) wq w10 := by
                    have h1 := (HBT.out).trans (But.of_below (S := fun q => (Value.slice A7 n7 c7).ownBlock = some q) W7.out (fun k h1 h2 => by omega))
                    exact h1.grown G10.out (fun k hk => by
                      rcases HJ.out.2.2 k hk with h2 | h2
                      · exact .inl h2
                      · exact .inr h2)
                  refine ⟨m + 1, n8 + 1, A10, c10, cl8 ++ [y], by omega, by go_num, rfl, hbt2, Lib.hid ⟨C10.out, ?_, fun q hq => ?_⟩⟩
                  · rw [ys_append, HJ.out.2.1, List.take_succ_eq_append_getElem HSM.out, ← HYY.out, List.append_assoc]; rfl
                  · rcases L10.out with h1 | h1
                    · exact HJ.out.2.2 q (h1 ▸ hq)
                    · rw [h1] at hq; injection hq with hq
                      exact .inr (by rw [← hq]; exact Nat.le_trans HBT.out.size W7.out.size)
                case measure => (simp [intOf]; try omega)
              · have HBR := Lib.hid (show Below w6.heap.size w6 wr from HBQ.out.trans (hbt.below (fun k h1 h2 => by have h3 := (HI.out.1.own.lt k h2).1; omega) HBQ.out.size))
                have hmn : m = n9 := by omega
                have HJ2 := Lib.hid (show ys cl8 = (SS.take (j + 1)).flatten from by rw [HJ.out.2.1, HFT.out, show sg.take m = sg from List.take_of_length_le (by rw [HS9.out, hmn]; exact Nat.le_refl _)])
                have hL1 := HLT.out
                have hL2 := HN9L.out
                clear hbt hlt hm
                go_wp2_with fail
                go_roundw
                case rel => exact ⟨j + 1, n8, A8, c8, cl8, by omega, by go_num, rfl, HBR.out, Lib.hid ⟨HJ.out.1, HJ2.out⟩⟩
                case measure => (simp [intOf]; try omega)
        · obtain rfl : n3 = j := by omega
          have HB := Lib.hid hbw
          have HSM := Lib.hid (show Calls Try.prog 19 #[.slice A7 n7 c7, .slice A N c] wv (RetB (.bool true) wv) from by
            have hb := B6.out.trans (HB.out.mono B6.out.size)
            have hy : ys cl7 = ys l := by rw [HI.out.2, HSS.out]; exact flat_all HALL.out HN3.out.2
            have hn7 : n7 ≤ 1000 := by
              have h1 := HI.out.1.len
              have h2 := congrArg List.length hy
              rw [ys_length, ys_length, h1, HL.out] at h2
              have := HNB.out; omega
            have h := qsame_any wv A7 A n7 N c7 c cl7 l HI.out.1.len HL.out (Rd.ownN HI.out.1.own) ((HR.out.below hb).more hb.size) (fun k hk => (HI.out.1.bodies k hk).1) (fun k hk => ((HBO.out k hk).below hb).more hb.size) (Nat.le_refl _) hn7 (by have := HNB.out; omega)
            rw [decide_eq_true hy] at h; exact h)
          have HB0 := Lib.hid (B6.out.trans (HB.out.mono B6.out.size))
          clear hbw hlt hj
          go_wp2_with fail
          refine HSM.out.mono ?_
          rintro e w7 ⟨rfl, bw⟩
          have B7 := Lib.hid (HB0.out.trans (bw.mono HB0.out.size))
          clear bw
          go_wp2_with fail
          go_ret
          exact ⟨rfl, B7.out⟩
theorem packAgain_own : ownKnob Try.prog.godebug = none := by kernel_rfl
theorem packAgain_laid : laidOutB Try.prog = true := by kernel_rfl

set_option maxRecDepth 100000 in
theorem packAgain_lifted (os : Os) (started : os.Started) (H : Type) (enc : TypeId × Value → H) :
    ReturnsInHanded {} Try.checked os 5 .any (Rows.packAgainSpec.pre6 enc Try.prog Try.f5 Rows.packAgainRow.domain false) (Rows.packAgainSpec.post enc Try.prog Try.f5 false true false false) := by
  refine returnsInHanded_of_change (C := Try.checked) packAgain_own started (by kernel_rfl) Try.func5
    (ChangeSpec.witness6 (enc := enc) (C := Try.checked) false ⟨#[], #[.slice none 0 0], []⟩ 8 (by kernel_rfl) (by kernel_rfl) (by kernel_rfl) (by kernel_rfl)) ?_
  intro W base args ds gs before hval0 hW _ _
  have hval : ∀ (j : Nat) t v, Try.f5.params[j]? = some t → args[j]? = some v → Value.okWide Try.prog W .any base t v := hval0
  have hW' := hW
  obtain ⟨p, q, hA0, hV, rfl, hfz, hnd⟩ := hW
  have hA : DataW.TrodAll enc Try.prog W 0 (fun _ => true) true Try.f5.params.toList args.toList ds p := hA0
  rw [Try.params5] at hA hval
  obtain ⟨v0, vs0, d0, ds0, p0, q0, hargs, rfl, rfl, h0, r0⟩ := trodAll_cons hA
  obtain ⟨rfl, rfl, rfl⟩ := trodAll_nil r0
  obtain rfl : args = #[v0] := by cases args; simp_all
  obtain ⟨rfl, rfl⟩ := trodVars_none hV
  obtain ⟨a0, n0, c0, rfl⟩ := okWide_slice Try.underlying22 (hval 0 22 v0 rfl rfl)
  have lt0 : ∀ x ∈ p0, x.block < W.heap.size := by obtain ⟨m, hm⟩ := h0; exact DataW.trod_lt m _ _ _ hm
  obtain ⟨l0, hl0, hc0, hm0, hr0⟩ := Ce.open_cells h0
  clear hA0 hval0
  refine (packAgain_any W a0 n0 c0 l0 hl0 hc0 hm0 hr0).mono fun e W' ⟨he, bel⟩ => ?_
  subst he
  exact ⟨_, rfl, _, _, _, [], _, [], hW', trodAll_mk1 (shut_bool Try.underlying4 _), (trodAll_cons_mk (Below.trod packAgain_laid (by kernel_rfl) (of_decide_eq_true (by kernel_rfl)) h0 bel lt0) trodAll_mk0), rfl, bel.frame _, fun h => by cases h⟩

theorem packAgain_holds : Rows.PackAgainSaid :=
  OpenClaim.holds_of_wide 5 Try.f5 rfl rfl rfl rfl rfl rfl rfl ⟨rfl, rfl, rfl, rfl, rfl⟩ rfl rfl rfl rfl rfl (by kernel_rfl) Try.func5 (by kernel_rfl)
    (of_decide_eq_true (by kernel_rfl)) (by unfold Func.isWrapper; rw [if_neg (of_decide_eq_false (by kernel_rfl))]; exact ⟨rfl, rfl⟩)
    (fun os started H enc _ => packAgain_lifted os started H enc)

#print axioms packAgain_holds

end Go.Proofs.Ythdmdlnndbjcoaa
