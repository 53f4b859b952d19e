/-
  PackParts holds: of any row of cells and any byte the law returns true, and its arguments read as they did.
-/
import Derived.Test.YthdmdlnndbjcoaaCb1
import Derived.Deep.Cut
import Derived.Deep.RegionHeld
import Derived.Test.YthdmdlnndbjcoaaRows
import Derived.ProofKit
import Derived.OpenShut
import Derived.ShutString
import Derived.ChangeOld
namespace Go.Proofs.Ythdmdlnndbjcoaa
open Go.RowKit Ce Pk Go.ChangeShapes Go.WideShapes Go.ChangeAt
attribute [local go_sem ↓] Go.wp_at_zero Go.wp_at_succ
theorem rd_ccs_takeP {B : Nat} {w : World} {A : Option Addr} {l : List Cc} (h : Rd B w A (ccs l)) (j : Nat) : Rd B w A (ccs (l.take j)) := fun k u hu => by
  refine h k u ?_
  have e : ccs l = ccs (l.take j) ++ ccs (l.drop j) := by rw [← ccs_append, List.take_append_drop]
  rw [e, List.getElem?_append_left (List.getElem?_eq_some_iff.1 hu).1]
  exact hu
theorem in_take {α : Type} (enc : α → List UInt8) (l : List α) (k : Nat) : inB enc (l.take k) = (inB enc l).take k := by
  unfold inB
  rw [← List.map_take, List.take_range, List.length_take]
  apply List.map_congr_left
  intro i hi
  have h := List.mem_range.1 hi
  rw [List.take_take, Nat.min_eq_left (by omega)]
set_option maxRecDepth 100000 in
set_option maxHeartbeats 12800000 in
theorem packParts_any (w : World) (A : Option Addr) (N c : Nat) (l : List Cc) (hl : l.length = N) (hNc : N ≤ c) (_ : c ≤ maxLen) (hr : Rd w.heap.size w A (ccs l) ∧ ∀ k ∈ l, Rd w.heap.size w k.A (bv k.y.body)) (a : Int) (ha : 0 ≤ a ∧ a ≤ 255) : Calls Try.prog 7 #[.slice A N c, .int .u8 a] w (RetB (.bool true) w) := by
  have HL := Lib.hid hl
  have HR := Lib.hid hr.1
  have HBO := Lib.hid hr.2
  have HAB := Lib.hid ha
  have HCC := Lib.hid hNc
  have B := Lib.hid (Below.refl w.heap.size w)
  clear hl hr ha hNc
  go_enter Try.func7, Try.ntmps7
  go_wp2_with fail
  refine (pkAwake_any _).mono ?_
  rintro e w1 ⟨rfl, bw⟩
  have B' := Lib.hid (B.out.trans (bw.mono B.out.size))
  clear bw B
  have B := Lib.hid B'.out
  clear B'
  by_cases hbig : 12 < N
  · have n1 : (12 : Int) < (N : Int) := by omega
    go_wp2_with fail
    go_ret
    exact ⟨rfl, B.out⟩
  have n1 : ¬ (12 : Int) < (N : Int) := by omega
  have HNB := Lib.hid (show N ≤ 12 by omega)
  clear hbig
  go_wp2_with fail
  clear n1
  go_loopw [5] (fun i wr => ∃ j : Nat, j ≤ N ∧ i = .int .i64 j ∧ Below w.heap.size w wr ∧ Hid (allOk (l.take j))) (fun i _ => N - (intOf i).toNat)
  case atStart => exact ⟨0, Nat.zero_le _, rfl, B.out, Lib.hid (fun k hk => by simp at hk)⟩
  case round =>
    clear B
    obtain ⟨j, hj, rfl, hbw, HA⟩ := hrel
    by_cases hlt : j < N
    · have hklx : j < l.length := by rw [HL.out]; exact hlt
      obtain ⟨x, hxex⟩ : ∃ x, x = l[j] := ⟨_, rfl⟩
      have hxmx : x ∈ l := by rw [hxex]; exact List.getElem_mem hklx
      have hrdx := HR.out
      obtain ⟨ad, hAx, -, -⟩ := rd_cell hrdx hklx
      have hcellx : ∀ w', Below w.heap.size w w' → ∀ i v, (ccV x)[i]? = some v → w'.cell? ((ad.add (j * 11)).add i) = some v := fun w' hb' i v hv => by
        obtain ⟨ad', hA', _, hc⟩ := rd_cell (hrdx.below hb') hklx
        rw [hAx] at hA'
        injection hA' with hA'
        subst hA'
        exact hc i v (by rw [← hxex]; exact hv)
      obtain ⟨csx, hcsx⟩ : ∃ cs, cs = clA x.y x.A x.c := ⟨_, rfl⟩
      have HCWx := Lib.hid (show ∀ w', Below w.heap.size w w' → ∀ i v, csx.toList[i]? = some v → w'.cell? ((ad.add (j * 11)).add i) = some v from fun w' hb' i v hv => hcellx w' hb' i v (by rw [hcsx] at hv; exact hv))
      have HIx := Lib.hid (show (Try.prog.info? 44).map (·.size) = some csx.toList.length from by rw [hcsx]; kernel_rfl)
      have HCSx := Lib.hid hcsx
      have HXMx := Lib.hid hxmx
      have HXEx := Lib.hid hxex
      have HTX := Lib.hid (show l.take (j + 1) = l.take j ++ [x] from by rw [hxex]; exact List.take_succ_eq_append_getElem hklx)
      subst hAx
      have HB := Lib.hid hbw
      have k0 : (0 : Int) ≤ (j : Int) := by omega
      have k1 : (j : Int) < (N : Int) := by omega
      have HRT := Lib.hid (show ∀ W, Below w.heap.size w W → Calls Try.prog 20 #[.agg csx] W (RetB (.bool (decide (okCl x.y))) W) from fun W hW => by rw [HCSx.out]; exact cright_any x.y x.A x.c W ((HBO.out x HXMx.out).below hW) hW.size)
      clear hxmx hrdx hcellx hcsx hxex hbw
      by_cases ok : okCl x.y
      · have HOK := Lib.hid ok
        rw [decide_eq_true ok] at HRT
        clear ok
        go_wp2_with (refine wpList_load_at rfl 44 (.tmp 28) rfl (ad.add (j * 11)) rfl (HCWx.out _ (HB.out)) Try.underlying44 rfl HIx.out ?_; change wpList _ _ _ _ (Act.put _ _ (.agg csx)) _)
        refine (HRT.out _ HB.out).mono ?_
        rintro e w5 ⟨rfl, bw⟩
        have B5 := Lib.hid (HB.out.trans (bw.mono HB.out.size))
        clear bw HB
        go_wp2_with fail
        go_roundw
        case rel => exact ⟨j + 1, by omega, by go_num, B5.out, Lib.hid (fun k hk => by
          rw [HTX.out] at hk
          rcases List.mem_append.1 hk with h | h
          · exact HA.out k h
          · rw [List.mem_singleton] at h; rw [h]; exact HOK.out)⟩
        case measure => (simp [intOf]; try omega)
      · rw [decide_eq_false ok] at HRT
        clear ok
        go_wp2_with (refine wpList_load_at rfl 44 (.tmp 28) rfl (ad.add (j * 11)) rfl (HCWx.out _ (HB.out)) Try.underlying44 rfl HIx.out ?_; change wpList _ _ _ _ (Act.put _ _ (.agg csx)) _)
        refine (HRT.out _ HB.out).mono ?_
        rintro e w5 ⟨rfl, bw⟩
        have B5 := Lib.hid (HB.out.trans (bw.mono HB.out.size))
        clear bw HB
        go_wp2_with fail
        go_ret
        exact ⟨rfl, B5.out⟩
    · obtain rfl : N = j := by omega
      have HALL := Lib.hid (show allOk l from by
        have h := HA.out
        rw [List.take_of_length_le (by rw [HL.out]; exact Nat.le_refl _)] at h; exact h)
      have B := Lib.hid hbw
      obtain ⟨wo, hwo⟩ : ∃ v, v = wr := ⟨_, rfl⟩
      subst hwo
      clear hbw hlt hj HA
      obtain ⟨k, hk⟩ : ∃ k, k = a.toNat % (N + 1) := ⟨_, rfl⟩
      have hkN : k ≤ N := by rw [hk]; have := Nat.mod_lt a.toNat (show 0 < N + 1 by omega); omega
      have ha0 := HAB.out.1
      have ha1 := HAB.out.2
      have hnb := HNB.out
      have w1 : IntKind.i64.wrap a = a := IntWalk.i64_in _ (by omega)
      obtain ⟨q1, hq1⟩ : ∃ q1, q1 = N + 1 := ⟨_, rfl⟩
      rw [← hq1] at hk
      have w2 : IntKind.i64.wrap ((N : Int) + 1) = (q1 : Int) := by rw [IntWalk.i64_in _ (by omega)]; omega
      have q10 : (0 : Int) < (q1 : Int) := by omega
      have tm2 : a % (q1 : Int) = (k : Int) := by rw [hk, Int.natCast_emod, Int.toNat_of_nonneg ha0]
      have kk0 : (0 : Int) ≤ (k : Int) := by omega
      have kk1 : (k : Int) ≤ (c : Int) := by have := HCC.out; omega
      have kk2 : (k : Int) ≤ (N : Int) := by omega
      have HKN := Lib.hid hkN
      clear hk hkN hq1 hnb
      go_wp2_with fail
      try simp only [tm2]
      clear tm2 q10 w2 w1 ha0 ha1
      have hlk : (l.take k).length = k := by rw [List.length_take, HL.out]; have := HKN.out; omega
      have HLK := Lib.hid hlk
      have hokk : allOk (l.take k) := fun x hx => HALL.out x (List.mem_of_mem_take hx)
      have HOKK := Lib.hid hokk
      clear hlk hokk
      refine (fill_any (B := w.heap.size) _ A k c (l.take k) HLK.out (rd_ccs_takeP (HR.out.below B.out) k) (fun x hx => (HBO.out x (List.mem_of_mem_take hx)).below B.out) B.out.size (by have := HNB.out; have := HKN.out; omega)).mono ?_
      rintro e w5 (⟨_, A3, n3, c3, bl3, I3, d3, rfl, hb3, he3, hi3, bw⟩ | ⟨hno, _⟩)
      rotate_left
      · exact absurd HOKK.out hno
      have B5 := Lib.hid (B.out.trans (bw.mono B.out.size))
      have D3 := Lib.hid hb3
      have E3 := Lib.hid he3
      rw [HLK.out] at hi3 ⊢
      have O3 := Lib.hid hi3
      have HN3 := Lib.hid (bods_count hb3 HOKK.out he3)
      clear hb3 he3 hi3 bw B
      go_wp2_with fail
      refine (fill_any (B := w.heap.size) _ A N c l HL.out (HR.out.below B5.out) (fun x hx => (HBO.out x hx).below B5.out) B5.out.size (by have := HNB.out; omega)).mono ?_
      rintro e w6 (⟨_, A4, n4, c4, bl4, I4, d4, rfl, hb4, he4, hi4, bw⟩ | ⟨hno, _⟩)
      rotate_left
      · exact absurd HALL.out hno
      have B6 := Lib.hid (B5.out.trans (bw.mono B5.out.size))
      have D6 := Lib.hid (D3.out.below bw)
      have O6 := Lib.hid (own_below O3.out bw)
      have D4 := Lib.hid hb4
      have E4 := Lib.hid he4
      rw [HL.out] at hi4 ⊢
      have O4 := Lib.hid hi4
      have HN4 := Lib.hid (bods_count hb4 HALL.out he4)
      clear hb4 he4 hi4 bw B5 D3 O3
      have hext := ext_segs encCl (ys (l.take k)) (ys (l.drop k))
      rw [← ys_append, List.take_append_drop] at hext
      have HEXT := Lib.hid hext
      have n34 : decide ((n4 : Int) < (n3 : Int)) = false := decide_eq_false (by have h1 := hext.1; have := HN3.out; have := HN4.out; omega)
      have n34n : decide (n4 < n3) = false := decide_eq_false (by have h1 := hext.1; have := HN3.out; have := HN4.out; omega)
      have e1 : ((k : Int) != (k : Int)) = false := by simp
      have e2 : ((N : Int) != (N : Int)) = false := by simp
      have HN34 := Lib.hid (show n3 ≤ n4 ∧ n4 ≤ 1000 from ⟨by have h1 := hext.1; have := HN3.out; have := HN4.out; omega, by have := HN4.out; have := HL.out; have := HNB.out; omega⟩)
      clear hext
      go_wp2_with fail
      
      go_loopw [13] (fun i wr => ∃ j : Nat, j ≤ n3 ∧ i = .int .i64 j ∧ Below w6.heap.size w6 wr) (fun i _ => n3 - (intOf i).toNat)
      case atStart => exact ⟨0, Nat.zero_le _, rfl, Below.refl _ _⟩
      case round =>
        obtain ⟨j, hj, rfl, hbw⟩ := hrel
        by_cases hlt : j < n3
        · have hlt4 : j < n4 := by have := HN34.out.1; omega
          obtain ⟨g3, e, hA3, hej, _, _, hec, hem, _⟩ := Bods.at_ D6.out hlt
          obtain ⟨g4, f, hA4, hfj, _, _, hfc, hfm, _⟩ := Bods.at_ D4.out hlt4
          subst hA3
          subst hA4
          obtain ⟨sg, hsg, hebs, _, hele, _, _⟩ := seg_at HOKK.out E3.out hej
          obtain ⟨tg, htg, hfbs, _, hfle, _, _⟩ := seg_at HALL.out E4.out hfj
          obtain ⟨t, h1, h2⟩ := HEXT.out.2 j sg hsg
          rw [htg] at h1
          injection h1 with h1
          have hfe : f.b = e.b ++ encs encCl t := by rw [hfbs, hebs, h1, encs_append]
          obtain ⟨qa, hqa⟩ : ∃ q, q = e.b.length := ⟨_, rfl⟩
          obtain ⟨qb, hqb⟩ : ∃ q, q = f.b.length := ⟨_, rfl⟩
          have hqq : qa ≤ qb := by rw [hqa, hqb, hfe, List.length_append]; omega
          have hlast : j + 1 < n3 → qa = qb := fun h => by
            have h3 := h2 (by have := HN3.out.2; omega)
            rw [hqa, hqb, hfe, h3]; simp [encs]
          have HCA := Lib.hid (show ∀ w', Below w6.heap.size w6 w' → w'.cell? ⟨g3, j, none⟩ = some (.slice e.A qa e.c) ∧ Rd w'.heap.size w' e.A (bv e.b) from fun w' hw' => by
            obtain ⟨g', e', h1, h2, h3, h4, _⟩ := Bods.at_ (D6.out.below hw') hlt
            injection h1 with h1; injection h1 with h1; subst h1
            rw [hej] at h2; injection h2 with h2; subst h2
            rw [hqa]; exact ⟨h3, h4⟩)
          have HCB := Lib.hid (show ∀ w', Below w6.heap.size w6 w' → w'.cell? ⟨g4, j, none⟩ = some (.slice f.A qb f.c) ∧ Rd w'.heap.size w' f.A (bv f.b) from fun w' hw' => by
            obtain ⟨g', e', h1, h2, h3, h4, _⟩ := Bods.at_ (D4.out.below hw') hlt4
            injection h1 with h1; injection h1 with h1; subst h1
            rw [hfj] at h2; injection h2 with h2; subst h2
            rw [hqb]; exact ⟨h3, h4⟩)
          have HB := Lib.hid hbw
          have HSM := Lib.hid (show ∀ W, Below wr.heap.size wr W → Calls Try.prog 22 #[.slice e.A qa e.c, .slice f.A qa f.c] W (RetB (.bool true) W) from fun W hW => by
            have hb := HB.out.trans (hW.mono HB.out.size)
            have hbf : f.b.take qa = e.b := by rw [hfe, hqa, List.take_left]
            have h2 := ((HCB.out W hb).2.take qa)
            rw [hbf] at h2
            exact same_r (b := true) (decide_eq_true rfl) hqa.symm hqa.symm (HCA.out W hb).2 h2 (by unfold maxLen; omega) (by unfold maxLen; omega))
          have HLT := Lib.hid hlt
          have HLAST := Lib.hid hlast
          have k0 : (0 : Int) ≤ (j : Int) := by omega
          have k1 : (j : Int) < (n3 : Int) := by omega
          have k2 : (j : Int) < (n4 : Int) := by omega
          have k3 : (n3 : Int) ≤ 1000 := by have := HN34.out; omega
          have a0 : (0 : Int) ≤ (qa : Int) := by omega
          have a1 : (qa : Int) ≤ (f.c : Int) := by omega
          have a2 : (qa : Int) ≤ (qb : Int) := by omega
          have a3 : decide ((qb : Int) < (qa : Int)) = false := decide_eq_false (by omega)
          have a4 : decide (qb < qa) = false := decide_eq_false (by omega)
          obtain ⟨n5, hn5⟩ : ∃ n5, n3 = n5 + 1 := ⟨n3 - 1, by omega⟩
          have HN5 := Lib.hid hn5
          have w5n : IntKind.i64.wrap ((n3 : Int) - 1) = (n5 : Int) := by rw [IntWalk.i64_in _ (by have := HN34.out; omega)]; omega
          clear hej hfj hec hem hfc hfm hsg htg hebs hfbs hele hfle h1 h2 hfe hqa hqb hqq hlast hbw hlt4
          by_cases hl5 : j < n5
          · have b1 : decide ((j : Int) < (n5 : Int)) = true := decide_eq_true (by omega)
            have b1n : decide (j < n5) = true := decide_eq_true hl5
            have hqe : qa = qb := HLAST.out (by have := HN5.out; omega)
            subst hqe
            have b2 : ((qa : Int) != (qa : Int)) = false := by simp
            have b2n : (qa != qa) = false := by simp
            clear hl5 hn5
            go_upto_region 18 with fail
            refine wp_region_held_drew (S := (fun w' => Below wr.heap.size wr w')) (by kernel_rfl) (Below.refl wr.heap.size wr).drew (fun hh => ?_)
            have HH := Lib.hid hh
            clear hh
            refine wpAnyH_take (i := 0) (v := ?va0) rfl (by kernel_rfl) (by kernel_rfl) (by kernel_rfl) (fun _ _ _ h => h) (Or.inl ⟨by rfl, fun w' _ => ?ya0⟩) HH.out ?_
            case ya0 => (go_simp; try with_reducible rfl)
            refine wpAnyH_take (i := 1) (v := ?va1) rfl (by kernel_rfl) (by kernel_rfl) (by kernel_rfl) (fun _ _ _ h => h) (Or.inl ⟨by rfl, fun w' _ => ?ya1⟩) HH.out ?_
            case ya1 => (go_simp; try with_reducible rfl)
            try simp only [List.getElem_toArray, List.getElem_cons_succ, List.getElem_cons_zero, Act.put, List.setIfInBounds_toArray, List.set_cons_zero, List.set_cons_succ]
            refine wpAnyH_take (i := 2) (v := ?va2) rfl (by kernel_rfl) (by kernel_rfl) (by kernel_rfl) (fun _ _ _ h => h) (Or.inl ⟨by rfl, fun w' _ => ?ya2⟩) HH.out ?_
            case ya2 => (go_simp; try with_reducible rfl)
            try simp only [List.getElem_toArray, List.getElem_cons_succ, List.getElem_cons_zero, Act.put, List.setIfInBounds_toArray, List.set_cons_zero, List.set_cons_succ]
            refine wpAnyH_take (i := 3) (v := .slice e.A qa e.c) rfl (by kernel_rfl) (by kernel_rfl) (by kernel_rfl) (fun _ _ _ h => h) (Or.inl ⟨by rfl, fun w' hw' => ?ya3⟩) HH.out ?_
            case ya3 => (have hc := (fun w' hw' => (HCA.out w' (HB.out.trans (hw'.mono HB.out.size))).1) w' hw'; go_simp; try with_reducible rfl)
            refine wpAnyH_take (i := 4) (v := ?va4) rfl (by kernel_rfl) (by kernel_rfl) (by kernel_rfl) (fun _ _ _ h => h) (Or.inl ⟨by rfl, fun w' _ => ?ya4⟩) HH.out ?_
            case ya4 => (go_simp; try with_reducible rfl)
            try simp only [List.getElem_toArray, List.getElem_cons_succ, List.getElem_cons_zero, Act.put, List.setIfInBounds_toArray, List.set_cons_zero, List.set_cons_succ]
            refine wpAnyH_take (i := 5) (v := ?va5) rfl (by kernel_rfl) (by kernel_rfl) (by kernel_rfl) (fun _ _ _ h => h) (Or.inl ⟨by rfl, fun w' _ => ?ya5⟩) HH.out ?_
            case ya5 => (go_simp; try with_reducible rfl)
            refine wpAnyH_take (i := 6) (v := ?va6) rfl (by kernel_rfl) (by kernel_rfl) (by kernel_rfl) (fun _ _ _ h => h) (Or.inl ⟨by rfl, fun w' _ => ?ya6⟩) HH.out ?_
            case ya6 => (go_simp; try with_reducible rfl)
            refine wpAnyH_take (i := 7) (v := ?va7) rfl (by kernel_rfl) (by kernel_rfl) (by kernel_rfl) (fun _ _ _ h => h) (Or.inl ⟨by rfl, fun w' _ => ?ya7⟩) HH.out ?_
            case ya7 => (go_simp; try with_reducible rfl)
            try simp only [List.getElem_toArray, List.getElem_cons_succ, List.getElem_cons_zero, Act.put, List.setIfInBounds_toArray, List.set_cons_zero, List.set_cons_succ]
            try simp only [List.getElem_toArray, List.getElem_cons_succ, List.getElem_cons_zero, Act.put, List.setIfInBounds_toArray, List.set_cons_zero, List.set_cons_succ]
            refine wpAnyH_take (i := 8) (v := .slice f.A qa f.c) rfl (by kernel_rfl) (by kernel_rfl) (by kernel_rfl) (fun _ _ _ h => h) (Or.inl ⟨by rfl, fun w' hw' => ?ya8⟩) HH.out ?_
            case ya8 => (have hc := (fun w' hw' => (HCB.out w' (HB.out.trans (hw'.mono HB.out.size))).1) w' hw'; go_simp; try with_reducible rfl)
            refine wpAnyH_take (i := 9) (v := ?va9) rfl (by kernel_rfl) (by kernel_rfl) (by kernel_rfl) (fun _ _ _ h => h) (Or.inl ⟨by rfl, fun w' _ => ?ya9⟩) HH.out ?_
            case ya9 => (go_simp; try with_reducible rfl)
            refine wpAnyH_take (i := 10) (v := ?va10) rfl (by kernel_rfl) (by kernel_rfl) (by kernel_rfl) (fun _ _ _ h => h) (Or.inl ⟨by rfl, fun w' _ => ?ya10⟩) HH.out ?_
            case ya10 => (go_simp; try with_reducible rfl)
            try simp only [List.getElem_toArray, List.getElem_cons_succ, List.getElem_cons_zero, Act.put, List.setIfInBounds_toArray, List.set_cons_zero, List.set_cons_succ]
            refine wpAnyH_take (i := 11) (v := ?va11) rfl (by kernel_rfl) (by kernel_rfl) (by kernel_rfl) (fun _ _ _ h => h) (Or.inl ⟨by rfl, fun w' _ => ?ya11⟩) HH.out ?_
            case ya11 => (go_simp; try with_reducible rfl)
            try simp only [List.getElem_toArray, List.getElem_cons_succ, List.getElem_cons_zero, Act.put, List.setIfInBounds_toArray, List.set_cons_zero, List.set_cons_succ]
            refine wpAnyH_take (i := 12) (v := ?va12) rfl (by kernel_rfl) (by kernel_rfl) (by kernel_rfl) (fun _ _ _ h => h) (Or.inl ⟨by rfl, fun w' _ => ?ya12⟩) HH.out ?_
            case ya12 => (go_simp; try with_reducible rfl)
            try simp only [List.getElem_toArray, List.getElem_cons_succ, List.getElem_cons_zero, Act.put, List.setIfInBounds_toArray, List.set_cons_zero, List.set_cons_succ]
            refine wpAnyH_take (i := 13) (v := ?va13) rfl (by kernel_rfl) (by kernel_rfl) (by kernel_rfl) (fun _ _ _ h => h) (Or.inl ⟨by rfl, fun w' _ => ?ya13⟩) HH.out ?_
            case ya13 => (go_simp; try with_reducible rfl)
            try simp only [List.getElem_toArray, List.getElem_cons_succ, List.getElem_cons_zero, Act.put, List.setIfInBounds_toArray, List.set_cons_zero, List.set_cons_succ]
            refine wpAnyH_take (i := 14) (v := ?va14) rfl (by kernel_rfl) (by kernel_rfl) (by kernel_rfl) (fun _ _ _ h => h) (Or.inl ⟨by rfl, fun w' _ => ?ya14⟩) HH.out ?_
            case ya14 => (go_simp; try with_reducible rfl)
            try simp only [List.getElem_toArray, List.getElem_cons_succ, List.getElem_cons_zero, Act.put, List.setIfInBounds_toArray, List.set_cons_zero, List.set_cons_succ]
            refine wpAnyH_take (i := 15) (v := .slice e.A qa e.c) rfl (by kernel_rfl) (by kernel_rfl) (by kernel_rfl) (fun _ _ _ h => h) (Or.inl ⟨by rfl, fun w' hw' => ?ya15⟩) HH.out ?_
            case ya15 => (have hc := (fun w' hw' => (HCA.out w' (HB.out.trans (hw'.mono HB.out.size))).1) w' hw'; go_simp; try with_reducible rfl)
            try simp only [List.getElem_toArray, List.getElem_cons_succ, List.getElem_cons_zero, Act.put, List.setIfInBounds_toArray, List.set_cons_zero, List.set_cons_succ]
            refine wpAnyH_take (i := 16) (v := ?va16) rfl (by kernel_rfl) (by kernel_rfl) (by kernel_rfl) (fun _ _ _ h => h) (Or.inl ⟨by rfl, fun w' _ => ?ya16⟩) HH.out ?_
            case ya16 => (go_simp; try with_reducible rfl)
            try simp only [List.getElem_toArray, List.getElem_cons_succ, List.getElem_cons_zero, Act.put, List.setIfInBounds_toArray, List.set_cons_zero, List.set_cons_succ]
            refine wpAnyH_take (i := 17) (v := ?va17) rfl (by kernel_rfl) (by kernel_rfl) (by kernel_rfl) (fun _ _ _ h => h) (Or.inl ⟨by rfl, fun w' _ => ?ya17⟩) HH.out ?_
            case ya17 => (go_simp; try with_reducible rfl)
            try simp only [List.getElem_toArray, List.getElem_cons_succ, List.getElem_cons_zero, Act.put, List.setIfInBounds_toArray, List.set_cons_zero, List.set_cons_succ]
            refine wpAnyH_take (i := 18) (v := ?va18) rfl (by kernel_rfl) (by kernel_rfl) (by kernel_rfl) (fun _ _ _ h => h) (Or.inl ⟨by rfl, fun w' _ => ?ya18⟩) HH.out ?_
            case ya18 => (go_simp; try with_reducible rfl)
            try simp only [List.getElem_toArray, List.getElem_cons_succ, List.getElem_cons_zero, Act.put, List.setIfInBounds_toArray, List.set_cons_zero, List.set_cons_succ]
            refine wpAnyH_take (i := 19) (v := .slice f.A qa f.c) rfl (by kernel_rfl) (by kernel_rfl) (by kernel_rfl) (fun _ _ _ h => h) (Or.inl ⟨by rfl, fun w' hw' => ?ya19⟩) HH.out ?_
            case ya19 => (have hc := (fun w' hw' => (HCB.out w' (HB.out.trans (hw'.mono HB.out.size))).1) w' hw'; go_simp; try with_reducible rfl)
            try simp only [List.getElem_toArray, List.getElem_cons_succ, List.getElem_cons_zero, Act.put, List.setIfInBounds_toArray, List.set_cons_zero, List.set_cons_succ]
            refine wpAnyH_take (i := 20) (v := ?va20) rfl (by kernel_rfl) (by kernel_rfl) (by kernel_rfl) (fun _ _ _ h => h) (Or.inl ⟨by rfl, fun w' _ => ?ya20⟩) HH.out ?_
            case ya20 => (go_simp; try with_reducible rfl)
            try simp only [List.getElem_toArray, List.getElem_cons_succ, List.getElem_cons_zero, Act.put, List.setIfInBounds_toArray, List.set_cons_zero, List.set_cons_succ]
            refine wpAnyH_take (i := 21) (v := ?va21) rfl (by kernel_rfl) (by kernel_rfl) (by kernel_rfl) (fun _ _ _ h => h) (Or.inl ⟨by rfl, fun w' _ => ?ya21⟩) HH.out ?_
            case ya21 => (go_simp; try with_reducible rfl)
            try simp only [List.getElem_toArray, List.getElem_cons_succ, List.getElem_cons_zero, Act.put, List.setIfInBounds_toArray, List.set_cons_zero, List.set_cons_succ]
            refine wpAnyH_take (i := 22) (v := ?va22) rfl (by kernel_rfl) (by kernel_rfl) (by kernel_rfl) (fun _ _ _ h => h) (Or.inl ⟨by rfl, fun w' _ => ?ya22⟩) HH.out ?_
            case ya22 => (go_simp; try with_reducible rfl)
            try simp only [List.getElem_toArray, List.getElem_cons_succ, List.getElem_cons_zero, Act.put, List.setIfInBounds_toArray, List.set_cons_zero, List.set_cons_succ]
            try simp only [List.getElem_toArray, List.getElem_cons_succ, List.getElem_cons_zero, Act.put, List.setIfInBounds_toArray, List.set_cons_zero, List.set_cons_succ]
            refine wpAnyH_take (i := 23) (v := .slice e.A qa e.c) rfl (by kernel_rfl) (by kernel_rfl) (by kernel_rfl) (fun _ _ _ h => h) (Or.inl ⟨by rfl, fun w' hw' => ?ya23⟩) HH.out ?_
            case ya23 => (have hc := (fun w' hw' => (HCA.out w' (HB.out.trans (hw'.mono HB.out.size))).1) w' hw'; go_simp; try with_reducible rfl)
            try simp only [List.getElem_toArray, List.getElem_cons_succ, List.getElem_cons_zero, Act.put, List.setIfInBounds_toArray, List.set_cons_zero, List.set_cons_succ]
            refine wpAnyH_take (i := 24) (v := ?va24) rfl (by kernel_rfl) (by kernel_rfl) (by kernel_rfl) (fun _ _ _ h => h) (Or.inl ⟨by rfl, fun w' _ => ?ya24⟩) HH.out ?_
            case ya24 => (go_simp; try with_reducible rfl)
            try simp only [List.getElem_toArray, List.getElem_cons_succ, List.getElem_cons_zero, Act.put, List.setIfInBounds_toArray, List.set_cons_zero, List.set_cons_succ]
            refine wpAnyH_take (i := 25) (v := ?va25) rfl (by kernel_rfl) (by kernel_rfl) (by kernel_rfl) (fun _ _ _ h => h) (Or.inl ⟨by rfl, fun w' _ => ?ya25⟩) HH.out ?_
            case ya25 => (go_simp; try with_reducible rfl)
            try simp only [List.getElem_toArray, List.getElem_cons_succ, List.getElem_cons_zero, Act.put, List.setIfInBounds_toArray, List.set_cons_zero, List.set_cons_succ]
            try simp only [List.getElem_toArray, List.getElem_cons_succ, List.getElem_cons_zero, Act.put, List.setIfInBounds_toArray, List.set_cons_zero, List.set_cons_succ]
            refine wpAnyH_ready (rs := [26]) (by kernel_rfl) (by simp) (AllReadyH.cons rfl (fun K hK => ?_) AllReadyH.nil)
            rw [if_pos (by rfl)]
            go_simp
            refine (HSM.out _ HH.out).mono ?_
            rintro e9 wz ⟨rfl, bwz⟩
            have hb := HH.out.trans (bwz.mono HH.out.size)
            go_simp
            refine hK.out _ _ hb (fun hh => ?_)
            have HH' := Lib.hid hh
            clear hh hK K HH bwz
            have HH := Lib.hid HH'.out
            clear HH'
            try simp only [List.getElem_toArray, List.getElem_cons_succ, List.getElem_cons_zero, Act.put, List.setIfInBounds_toArray, List.set_cons_zero, List.set_cons_succ]
            refine wpAnyH_take (i := 27) (v := ?va27) rfl (by kernel_rfl) (by kernel_rfl) (by kernel_rfl) (fun _ _ _ h => h) (Or.inl ⟨by rfl, fun w' _ => ?ya27⟩) HH.out ?_
            case ya27 => (go_simp; try with_reducible rfl)
            refine wpAnyH_take (i := 28) (v := ?va28) rfl (by kernel_rfl) (by kernel_rfl) (by kernel_rfl) (fun _ _ _ h => h) (Or.inl ⟨by rfl, fun w' _ => ?ya28⟩) HH.out ?_
            case ya28 => (go_simp; try with_reducible rfl)
            try simp only [List.getElem_toArray, List.getElem_cons_succ, List.getElem_cons_zero, Act.put, List.setIfInBounds_toArray, List.set_cons_zero, List.set_cons_succ]
            refine wpAnyH_take (i := 29) (v := ?va29) rfl (by kernel_rfl) (by kernel_rfl) (by kernel_rfl) (fun _ _ _ h => h) (Or.inl ⟨by rfl, fun w' _ => ?ya29⟩) HH.out ?_
            case ya29 => (go_simp; try with_reducible rfl)
            try simp only [List.getElem_toArray, List.getElem_cons_succ, List.getElem_cons_zero, Act.put, List.setIfInBounds_toArray, List.set_cons_zero, List.set_cons_succ]
            refine wpAnyH_take (i := 30) (v := ?va30) rfl (by kernel_rfl) (by kernel_rfl) (by kernel_rfl) (fun _ _ _ h => h) (Or.inl ⟨by rfl, fun w' _ => ?ya30⟩) HH.out ?_
            case ya30 => (go_simp; try with_reducible rfl)
            try simp only [List.getElem_toArray, List.getElem_cons_succ, List.getElem_cons_zero, Act.put, List.setIfInBounds_toArray, List.set_cons_zero, List.set_cons_succ]
            refine wpAnyH_take (i := 31) (v := ?va31) rfl (by kernel_rfl) (by kernel_rfl) (by kernel_rfl) (fun _ _ _ h => h) (Or.inl ⟨by rfl, fun w' _ => ?ya31⟩) HH.out ?_
            case ya31 => (go_simp; try with_reducible rfl)
            try simp only [List.getElem_toArray, List.getElem_cons_succ, List.getElem_cons_zero, Act.put, List.setIfInBounds_toArray, List.set_cons_zero, List.set_cons_succ]
            refine wpAnyH_take (i := 32) (v := ?va32) rfl (by kernel_rfl) (by kernel_rfl) (by kernel_rfl) (fun _ _ _ h => h) (Or.inl ⟨by rfl, fun w' _ => ?ya32⟩) HH.out ?_
            case ya32 => (go_simp; try with_reducible rfl)
            try simp only [List.getElem_toArray, List.getElem_cons_succ, List.getElem_cons_zero, Act.put, List.setIfInBounds_toArray, List.set_cons_zero, List.set_cons_succ]
            refine wpAnyH_take (i := 33) (v := ?va33) rfl (by kernel_rfl) (by kernel_rfl) (by kernel_rfl) (fun _ _ _ h => h) (Or.inl ⟨by rfl, fun w' _ => ?ya33⟩) HH.out ?_
            case ya33 => (go_simp; try with_reducible rfl)
            try simp only [List.getElem_toArray, List.getElem_cons_succ, List.getElem_cons_zero, Act.put, List.setIfInBounds_toArray, List.set_cons_zero, List.set_cons_succ]
            refine wpAnyH_take (i := 34) (v := ?va34) rfl (by kernel_rfl) (by kernel_rfl) (by kernel_rfl) (fun _ _ _ h => h) (Or.inl ⟨by rfl, fun w' _ => ?ya34⟩) HH.out ?_
            case ya34 => (go_simp; try with_reducible rfl)
            try simp only [List.getElem_toArray, List.getElem_cons_succ, List.getElem_cons_zero, Act.put, List.setIfInBounds_toArray, List.set_cons_zero, List.set_cons_succ]
            refine wpAnyH_take (i := 35) (v := ?va35) rfl (by kernel_rfl) (by kernel_rfl) (by kernel_rfl) (fun _ _ _ h => h) (Or.inl ⟨by rfl, fun w' _ => ?ya35⟩) HH.out ?_
            case ya35 => (go_simp; try with_reducible rfl)
            try simp only [List.getElem_toArray, List.getElem_cons_succ, List.getElem_cons_zero, Act.put, List.setIfInBounds_toArray, List.set_cons_zero, List.set_cons_succ]
            refine wpAnyH_take (i := 36) (v := ?va36) rfl (by kernel_rfl) (by kernel_rfl) (by kernel_rfl) (fun _ _ _ h => h) (Or.inl ⟨by rfl, fun w' _ => ?ya36⟩) HH.out ?_
            case ya36 => (go_simp; try with_reducible rfl)
            try simp only [List.getElem_toArray, List.getElem_cons_succ, List.getElem_cons_zero, Act.put, List.setIfInBounds_toArray, List.set_cons_zero, List.set_cons_succ]
            refine wpAnyH_take (i := 37) (v := ?va37) rfl (by kernel_rfl) (by kernel_rfl) (by kernel_rfl) (fun _ _ _ h => h) (Or.inl ⟨by rfl, fun w' _ => ?ya37⟩) HH.out ?_
            case ya37 => (go_simp; try with_reducible rfl)
            try simp only [List.getElem_toArray, List.getElem_cons_succ, List.getElem_cons_zero, Act.put, List.setIfInBounds_toArray, List.set_cons_zero, List.set_cons_succ]
            refine wpAnyH_take (i := 38) (v := ?va38) rfl (by kernel_rfl) (by kernel_rfl) (by kernel_rfl) (fun _ _ _ h => h) (Or.inl ⟨by rfl, fun w' _ => ?ya38⟩) HH.out ?_
            case ya38 => (go_simp; try with_reducible rfl)
            try simp only [List.getElem_toArray, List.getElem_cons_succ, List.getElem_cons_zero, Act.put, List.setIfInBounds_toArray, List.set_cons_zero, List.set_cons_succ]
            refine wpAnyH_take (i := 39) (v := .slice e.A qa e.c) rfl (by kernel_rfl) (by kernel_rfl) (by kernel_rfl) (fun _ _ _ h => h) (Or.inl ⟨by rfl, fun w' hw' => ?ya39⟩) HH.out ?_
            case ya39 => (have hc := (fun w' hw' => (HCA.out w' (HB.out.trans (hw'.mono HB.out.size))).1) w' hw'; go_simp; try with_reducible rfl)
            try simp only [List.getElem_toArray, List.getElem_cons_succ, List.getElem_cons_zero, Act.put, List.setIfInBounds_toArray, List.set_cons_zero, List.set_cons_succ]
            refine wpAnyH_take (i := 40) (v := ?va40) rfl (by kernel_rfl) (by kernel_rfl) (by kernel_rfl) (fun _ _ _ h => h) (Or.inl ⟨by rfl, fun w' _ => ?ya40⟩) HH.out ?_
            case ya40 => (go_simp; try with_reducible rfl)
            try simp only [List.getElem_toArray, List.getElem_cons_succ, List.getElem_cons_zero, Act.put, List.setIfInBounds_toArray, List.set_cons_zero, List.set_cons_succ]
            refine wpAnyH_take (i := 41) (v := ?va41) rfl (by kernel_rfl) (by kernel_rfl) (by kernel_rfl) (fun _ _ _ h => h) (Or.inl ⟨by rfl, fun w' _ => ?ya41⟩) HH.out ?_
            case ya41 => (go_simp; try with_reducible rfl)
            try simp only [List.getElem_toArray, List.getElem_cons_succ, List.getElem_cons_zero, Act.put, List.setIfInBounds_toArray, List.set_cons_zero, List.set_cons_succ]
            refine wpAnyH_take (i := 42) (v := ?va42) rfl (by kernel_rfl) (by kernel_rfl) (by kernel_rfl) (fun _ _ _ h => h) (Or.inl ⟨by rfl, fun w' _ => ?ya42⟩) HH.out ?_
            case ya42 => (go_simp; try with_reducible rfl)
            try simp only [List.getElem_toArray, List.getElem_cons_succ, List.getElem_cons_zero, Act.put, List.setIfInBounds_toArray, List.set_cons_zero, List.set_cons_succ]
            refine wpAnyH_take (i := 43) (v := ?va43) rfl (by kernel_rfl) (by kernel_rfl) (by kernel_rfl) (fun _ _ _ h => h) (Or.inl ⟨by rfl, fun w' _ => ?ya43⟩) HH.out ?_
            case ya43 => (go_simp; try with_reducible rfl)
            try simp only [List.getElem_toArray, List.getElem_cons_succ, List.getElem_cons_zero, Act.put, List.setIfInBounds_toArray, List.set_cons_zero, List.set_cons_succ]
            try simp only [List.getElem_toArray, List.getElem_cons_succ, List.getElem_cons_zero, Act.put, List.setIfInBounds_toArray, List.set_cons_zero, List.set_cons_succ]
            refine wpAnyH_take (i := 44) (v := .slice f.A qa f.c) rfl (by kernel_rfl) (by kernel_rfl) (by kernel_rfl) (fun _ _ _ h => h) (Or.inl ⟨by rfl, fun w' hw' => ?ya44⟩) HH.out ?_
            case ya44 => (have hc := (fun w' hw' => (HCB.out w' (HB.out.trans (hw'.mono HB.out.size))).1) w' hw'; go_simp; try with_reducible rfl)
            try simp only [List.getElem_toArray, List.getElem_cons_succ, List.getElem_cons_zero, Act.put, List.setIfInBounds_toArray, List.set_cons_zero, List.set_cons_succ]
            refine wpAnyH_take (i := 45) (v := ?va45) rfl (by kernel_rfl) (by kernel_rfl) (by kernel_rfl) (fun _ _ _ h => h) (Or.inl ⟨by rfl, fun w' _ => ?ya45⟩) HH.out ?_
            case ya45 => (go_simp; try with_reducible rfl)
            try simp only [List.getElem_toArray, List.getElem_cons_succ, List.getElem_cons_zero, Act.put, List.setIfInBounds_toArray, List.set_cons_zero, List.set_cons_succ]
            refine wpAnyH_take (i := 46) (v := ?va46) rfl (by kernel_rfl) (by kernel_rfl) (by kernel_rfl) (fun _ _ _ h => h) (Or.inl ⟨by rfl, fun w' _ => ?ya46⟩) HH.out ?_
            case ya46 => (go_simp; try with_reducible rfl)
            try simp only [List.getElem_toArray, List.getElem_cons_succ, List.getElem_cons_zero, Act.put, List.setIfInBounds_toArray, List.set_cons_zero, List.set_cons_succ]
            refine wpAnyH_take (i := 47) (v := ?va47) rfl (by kernel_rfl) (by kernel_rfl) (by kernel_rfl) (fun _ _ _ h => h) (Or.inl ⟨by rfl, fun w' _ => ?ya47⟩) HH.out ?_
            case ya47 => (go_simp; try with_reducible rfl)
            refine wpAnyH_take (i := 48) (v := ?va48) rfl (by kernel_rfl) (by kernel_rfl) (by kernel_rfl) (fun _ _ _ h => h) (Or.inl ⟨by rfl, fun w' _ => ?ya48⟩) HH.out ?_
            case ya48 => (go_simp; try with_reducible rfl)
            try simp only [List.getElem_toArray, List.getElem_cons_succ, List.getElem_cons_zero, Act.put, List.setIfInBounds_toArray, List.set_cons_zero, List.set_cons_succ]
            refine wpAnyH_done (by kernel_rfl) ?_ _
            have F9 := Lib.hid (HB.out.trans (HH.out.mono HB.out.size))
            go_wp2_with fail
            go_roundw
            case rel => exact ⟨j + 1, by have := HLT.out; omega, by go_num, F9.out⟩
            case measure => (have := HLT.out; simp [intOf]; try omega)
          · have b1 : decide ((j : Int) < (n5 : Int)) = false := decide_eq_false (by omega)
            have b1n : decide (j < n5) = false := decide_eq_false hl5
            clear hl5 hn5
            go_upto_region 18 with fail
            refine wp_region_held_drew (S := (fun w' => Below wr.heap.size wr w')) (by kernel_rfl) (Below.refl wr.heap.size wr).drew (fun hh => ?_)
            have HH := Lib.hid hh
            clear hh
            refine wpAnyH_take (i := 0) (v := ?vb0) rfl (by kernel_rfl) (by kernel_rfl) (by kernel_rfl) (fun _ _ _ h => h) (Or.inl ⟨by rfl, fun w' _ => ?yb0⟩) HH.out ?_
            case yb0 => (go_simp; try with_reducible rfl)
            refine wpAnyH_take (i := 1) (v := ?vb1) rfl (by kernel_rfl) (by kernel_rfl) (by kernel_rfl) (fun _ _ _ h => h) (Or.inl ⟨by rfl, fun w' _ => ?yb1⟩) HH.out ?_
            case yb1 => (go_simp; try with_reducible rfl)
            try simp only [List.getElem_toArray, List.getElem_cons_succ, List.getElem_cons_zero, Act.put, List.setIfInBounds_toArray, List.set_cons_zero, List.set_cons_succ]
            refine wpAnyH_take (i := 2) (v := ?vb2) rfl (by kernel_rfl) (by kernel_rfl) (by kernel_rfl) (fun _ _ _ h => h) (Or.inl ⟨by rfl, fun w' _ => ?yb2⟩) HH.out ?_
            case yb2 => (go_simp; try with_reducible rfl)
            try simp only [List.getElem_toArray, List.getElem_cons_succ, List.getElem_cons_zero, Act.put, List.setIfInBounds_toArray, List.set_cons_zero, List.set_cons_succ]
            refine wpAnyH_take (i := 3) (v := .slice e.A qa e.c) rfl (by kernel_rfl) (by kernel_rfl) (by kernel_rfl) (fun _ _ _ h => h) (Or.inl ⟨by rfl, fun w' hw' => ?yb3⟩) HH.out ?_
            case yb3 => (have hc := (fun w' hw' => (HCA.out w' (HB.out.trans (hw'.mono HB.out.size))).1) w' hw'; go_simp; try with_reducible rfl)
            refine wpAnyH_take (i := 4) (v := ?vb4) rfl (by kernel_rfl) (by kernel_rfl) (by kernel_rfl) (fun _ _ _ h => h) (Or.inl ⟨by rfl, fun w' _ => ?yb4⟩) HH.out ?_
            case yb4 => (go_simp; try with_reducible rfl)
            try simp only [List.getElem_toArray, List.getElem_cons_succ, List.getElem_cons_zero, Act.put, List.setIfInBounds_toArray, List.set_cons_zero, List.set_cons_succ]
            refine wpAnyH_take (i := 5) (v := ?vb5) rfl (by kernel_rfl) (by kernel_rfl) (by kernel_rfl) (fun _ _ _ h => h) (Or.inl ⟨by rfl, fun w' _ => ?yb5⟩) HH.out ?_
            case yb5 => (go_simp; try with_reducible rfl)
            refine wpAnyH_take (i := 6) (v := ?vb6) rfl (by kernel_rfl) (by kernel_rfl) (by kernel_rfl) (fun _ _ _ h => h) (Or.inl ⟨by rfl, fun w' _ => ?yb6⟩) HH.out ?_
            case yb6 => (go_simp; try with_reducible rfl)
            refine wpAnyH_take (i := 7) (v := ?vb7) rfl (by kernel_rfl) (by kernel_rfl) (by kernel_rfl) (fun _ _ _ h => h) (Or.inl ⟨by rfl, fun w' _ => ?yb7⟩) HH.out ?_
            case yb7 => (go_simp; try with_reducible rfl)
            try simp only [List.getElem_toArray, List.getElem_cons_succ, List.getElem_cons_zero, Act.put, List.setIfInBounds_toArray, List.set_cons_zero, List.set_cons_succ]
            try simp only [List.getElem_toArray, List.getElem_cons_succ, List.getElem_cons_zero, Act.put, List.setIfInBounds_toArray, List.set_cons_zero, List.set_cons_succ]
            refine wpAnyH_take (i := 8) (v := .slice f.A qb f.c) rfl (by kernel_rfl) (by kernel_rfl) (by kernel_rfl) (fun _ _ _ h => h) (Or.inl ⟨by rfl, fun w' hw' => ?yb8⟩) HH.out ?_
            case yb8 => (have hc := (fun w' hw' => (HCB.out w' (HB.out.trans (hw'.mono HB.out.size))).1) w' hw'; go_simp; try with_reducible rfl)
            refine wpAnyH_take (i := 9) (v := ?vb9) rfl (by kernel_rfl) (by kernel_rfl) (by kernel_rfl) (fun _ _ _ h => h) (Or.inl ⟨by rfl, fun w' _ => ?yb9⟩) HH.out ?_
            case yb9 => (go_simp; try with_reducible rfl)
            refine wpAnyH_take (i := 10) (v := ?vb10) rfl (by kernel_rfl) (by kernel_rfl) (by kernel_rfl) (fun _ _ _ h => h) (Or.inl ⟨by rfl, fun w' _ => ?yb10⟩) HH.out ?_
            case yb10 => (go_simp; try with_reducible rfl)
            try simp only [List.getElem_toArray, List.getElem_cons_succ, List.getElem_cons_zero, Act.put, List.setIfInBounds_toArray, List.set_cons_zero, List.set_cons_succ]
            refine wpAnyH_take (i := 11) (v := ?vb11) rfl (by kernel_rfl) (by kernel_rfl) (by kernel_rfl) (fun _ _ _ h => h) (Or.inl ⟨by rfl, fun w' _ => ?yb11⟩) HH.out ?_
            case yb11 => (go_simp; try with_reducible rfl)
            try simp only [List.getElem_toArray, List.getElem_cons_succ, List.getElem_cons_zero, Act.put, List.setIfInBounds_toArray, List.set_cons_zero, List.set_cons_succ]
            refine wpAnyH_take (i := 12) (v := ?vb12) rfl (by kernel_rfl) (by kernel_rfl) (by kernel_rfl) (fun _ _ _ h => h) (Or.inl ⟨by rfl, fun w' _ => ?yb12⟩) HH.out ?_
            case yb12 => (go_simp; try with_reducible rfl)
            try simp only [List.getElem_toArray, List.getElem_cons_succ, List.getElem_cons_zero, Act.put, List.setIfInBounds_toArray, List.set_cons_zero, List.set_cons_succ]
            refine wpAnyH_take (i := 13) (v := ?vb13) rfl (by kernel_rfl) (by kernel_rfl) (by kernel_rfl) (fun _ _ _ h => h) (Or.inl ⟨by rfl, fun w' _ => ?yb13⟩) HH.out ?_
            case yb13 => (go_simp; try with_reducible rfl)
            try simp only [List.getElem_toArray, List.getElem_cons_succ, List.getElem_cons_zero, Act.put, List.setIfInBounds_toArray, List.set_cons_zero, List.set_cons_succ]
            refine wpAnyH_take (i := 14) (v := ?vb14) rfl (by kernel_rfl) (by kernel_rfl) (by kernel_rfl) (fun _ _ _ h => h) (Or.inl ⟨by rfl, fun w' _ => ?yb14⟩) HH.out ?_
            case yb14 => (go_simp; try with_reducible rfl)
            try simp only [List.getElem_toArray, List.getElem_cons_succ, List.getElem_cons_zero, Act.put, List.setIfInBounds_toArray, List.set_cons_zero, List.set_cons_succ]
            refine wpAnyH_take (i := 15) (v := .slice e.A qa e.c) rfl (by kernel_rfl) (by kernel_rfl) (by kernel_rfl) (fun _ _ _ h => h) (Or.inl ⟨by rfl, fun w' hw' => ?yb15⟩) HH.out ?_
            case yb15 => (have hc := (fun w' hw' => (HCA.out w' (HB.out.trans (hw'.mono HB.out.size))).1) w' hw'; go_simp; try with_reducible rfl)
            try simp only [List.getElem_toArray, List.getElem_cons_succ, List.getElem_cons_zero, Act.put, List.setIfInBounds_toArray, List.set_cons_zero, List.set_cons_succ]
            refine wpAnyH_take (i := 16) (v := ?vb16) rfl (by kernel_rfl) (by kernel_rfl) (by kernel_rfl) (fun _ _ _ h => h) (Or.inl ⟨by rfl, fun w' _ => ?yb16⟩) HH.out ?_
            case yb16 => (go_simp; try with_reducible rfl)
            try simp only [List.getElem_toArray, List.getElem_cons_succ, List.getElem_cons_zero, Act.put, List.setIfInBounds_toArray, List.set_cons_zero, List.set_cons_succ]
            refine wpAnyH_take (i := 17) (v := ?vb17) rfl (by kernel_rfl) (by kernel_rfl) (by kernel_rfl) (fun _ _ _ h => h) (Or.inl ⟨by rfl, fun w' _ => ?yb17⟩) HH.out ?_
            case yb17 => (go_simp; try with_reducible rfl)
            try simp only [List.getElem_toArray, List.getElem_cons_succ, List.getElem_cons_zero, Act.put, List.setIfInBounds_toArray, List.set_cons_zero, List.set_cons_succ]
            refine wpAnyH_take (i := 18) (v := ?vb18) rfl (by kernel_rfl) (by kernel_rfl) (by kernel_rfl) (fun _ _ _ h => h) (Or.inl ⟨by rfl, fun w' _ => ?yb18⟩) HH.out ?_
            case yb18 => (go_simp; try with_reducible rfl)
            try simp only [List.getElem_toArray, List.getElem_cons_succ, List.getElem_cons_zero, Act.put, List.setIfInBounds_toArray, List.set_cons_zero, List.set_cons_succ]
            refine wpAnyH_take (i := 19) (v := .slice f.A qb f.c) rfl (by kernel_rfl) (by kernel_rfl) (by kernel_rfl) (fun _ _ _ h => h) (Or.inl ⟨by rfl, fun w' hw' => ?yb19⟩) HH.out ?_
            case yb19 => (have hc := (fun w' hw' => (HCB.out w' (HB.out.trans (hw'.mono HB.out.size))).1) w' hw'; go_simp; try with_reducible rfl)
            try simp only [List.getElem_toArray, List.getElem_cons_succ, List.getElem_cons_zero, Act.put, List.setIfInBounds_toArray, List.set_cons_zero, List.set_cons_succ]
            refine wpAnyH_take (i := 20) (v := ?vb20) rfl (by kernel_rfl) (by kernel_rfl) (by kernel_rfl) (fun _ _ _ h => h) (Or.inl ⟨by rfl, fun w' _ => ?yb20⟩) HH.out ?_
            case yb20 => (go_simp; try with_reducible rfl)
            try simp only [List.getElem_toArray, List.getElem_cons_succ, List.getElem_cons_zero, Act.put, List.setIfInBounds_toArray, List.set_cons_zero, List.set_cons_succ]
            refine wpAnyH_take (i := 21) (v := ?vb21) rfl (by kernel_rfl) (by kernel_rfl) (by kernel_rfl) (fun _ _ _ h => h) (Or.inl ⟨by rfl, fun w' _ => ?yb21⟩) HH.out ?_
            case yb21 => (go_simp; try with_reducible rfl)
            try simp only [List.getElem_toArray, List.getElem_cons_succ, List.getElem_cons_zero, Act.put, List.setIfInBounds_toArray, List.set_cons_zero, List.set_cons_succ]
            refine wpAnyH_take (i := 22) (v := ?vb22) rfl (by kernel_rfl) (by kernel_rfl) (by kernel_rfl) (fun _ _ _ h => h) (Or.inl ⟨by rfl, fun w' _ => ?yb22⟩) HH.out ?_
            case yb22 => (go_simp; try with_reducible rfl)
            try simp only [List.getElem_toArray, List.getElem_cons_succ, List.getElem_cons_zero, Act.put, List.setIfInBounds_toArray, List.set_cons_zero, List.set_cons_succ]
            try simp only [List.getElem_toArray, List.getElem_cons_succ, List.getElem_cons_zero, Act.put, List.setIfInBounds_toArray, List.set_cons_zero, List.set_cons_succ]
            refine wpAnyH_take (i := 23) (v := .slice e.A qa e.c) rfl (by kernel_rfl) (by kernel_rfl) (by kernel_rfl) (fun _ _ _ h => h) (Or.inl ⟨by rfl, fun w' hw' => ?yb23⟩) HH.out ?_
            case yb23 => (have hc := (fun w' hw' => (HCA.out w' (HB.out.trans (hw'.mono HB.out.size))).1) w' hw'; go_simp; try with_reducible rfl)
            try simp only [List.getElem_toArray, List.getElem_cons_succ, List.getElem_cons_zero, Act.put, List.setIfInBounds_toArray, List.set_cons_zero, List.set_cons_succ]
            refine wpAnyH_take (i := 24) (v := ?vb24) rfl (by kernel_rfl) (by kernel_rfl) (by kernel_rfl) (fun _ _ _ h => h) (Or.inl ⟨by rfl, fun w' _ => ?yb24⟩) HH.out ?_
            case yb24 => (go_simp; try with_reducible rfl)
            try simp only [List.getElem_toArray, List.getElem_cons_succ, List.getElem_cons_zero, Act.put, List.setIfInBounds_toArray, List.set_cons_zero, List.set_cons_succ]
            refine wpAnyH_take (i := 25) (v := ?vb25) rfl (by kernel_rfl) (by kernel_rfl) (by kernel_rfl) (fun _ _ _ h => h) (Or.inl ⟨by rfl, fun w' _ => ?yb25⟩) HH.out ?_
            case yb25 => (go_simp; try with_reducible rfl)
            try simp only [List.getElem_toArray, List.getElem_cons_succ, List.getElem_cons_zero, Act.put, List.setIfInBounds_toArray, List.set_cons_zero, List.set_cons_succ]
            try simp only [List.getElem_toArray, List.getElem_cons_succ, List.getElem_cons_zero, Act.put, List.setIfInBounds_toArray, List.set_cons_zero, List.set_cons_succ]
            refine wpAnyH_ready (rs := [26]) (by kernel_rfl) (by simp) (AllReadyH.cons rfl (fun K hK => ?_) AllReadyH.nil)
            rw [if_pos (by rfl)]
            go_simp
            refine (HSM.out _ HH.out).mono ?_
            rintro e9 wz ⟨rfl, bwz⟩
            have hb := HH.out.trans (bwz.mono HH.out.size)
            go_simp
            refine hK.out _ _ hb (fun hh => ?_)
            have HH' := Lib.hid hh
            clear hh hK K HH bwz
            have HH := Lib.hid HH'.out
            clear HH'
            try simp only [List.getElem_toArray, List.getElem_cons_succ, List.getElem_cons_zero, Act.put, List.setIfInBounds_toArray, List.set_cons_zero, List.set_cons_succ]
            refine wpAnyH_take (i := 27) (v := ?vb27) rfl (by kernel_rfl) (by kernel_rfl) (by kernel_rfl) (fun _ _ _ h => h) (Or.inl ⟨by rfl, fun w' _ => ?yb27⟩) HH.out ?_
            case yb27 => (go_simp; try with_reducible rfl)
            refine wpAnyH_take (i := 28) (v := ?vb28) rfl (by kernel_rfl) (by kernel_rfl) (by kernel_rfl) (fun _ _ _ h => h) (Or.inl ⟨by rfl, fun w' _ => ?yb28⟩) HH.out ?_
            case yb28 => (go_simp; try with_reducible rfl)
            try simp only [List.getElem_toArray, List.getElem_cons_succ, List.getElem_cons_zero, Act.put, List.setIfInBounds_toArray, List.set_cons_zero, List.set_cons_succ]
            refine wpAnyH_take (i := 29) (v := ?vb29) rfl (by kernel_rfl) (by kernel_rfl) (by kernel_rfl) (fun _ _ _ h => h) (Or.inl ⟨by rfl, fun w' _ => ?yb29⟩) HH.out ?_
            case yb29 => (go_simp; try with_reducible rfl)
            try simp only [List.getElem_toArray, List.getElem_cons_succ, List.getElem_cons_zero, Act.put, List.setIfInBounds_toArray, List.set_cons_zero, List.set_cons_succ]
            refine wpAnyH_take (i := 30) (v := ?vb30) rfl (by kernel_rfl) (by kernel_rfl) (by kernel_rfl) (fun _ _ _ h => h) (Or.inl ⟨by rfl, fun w' _ => ?yb30⟩) HH.out ?_
            case yb30 => (go_simp; try with_reducible rfl)
            try simp only [List.getElem_toArray, List.getElem_cons_succ, List.getElem_cons_zero, Act.put, List.setIfInBounds_toArray, List.set_cons_zero, List.set_cons_succ]
            refine wpAnyH_take (i := 31) (v := ?vb31) rfl (by kernel_rfl) (by kernel_rfl) (by kernel_rfl) (fun _ _ _ h => h) (Or.inl ⟨by rfl, fun w' _ => ?yb31⟩) HH.out ?_
            case yb31 => (go_simp; try with_reducible rfl)
            try simp only [List.getElem_toArray, List.getElem_cons_succ, List.getElem_cons_zero, Act.put, List.setIfInBounds_toArray, List.set_cons_zero, List.set_cons_succ]
            refine wpAnyH_take (i := 32) (v := ?vb32) rfl (by kernel_rfl) (by kernel_rfl) (by kernel_rfl) (fun _ _ _ h => h) (Or.inl ⟨by rfl, fun w' _ => ?yb32⟩) HH.out ?_
            case yb32 => (go_simp; try with_reducible rfl)
            try simp only [List.getElem_toArray, List.getElem_cons_succ, List.getElem_cons_zero, Act.put, List.setIfInBounds_toArray, List.set_cons_zero, List.set_cons_succ]
            refine wpAnyH_take (i := 33) (v := ?vb33) rfl (by kernel_rfl) (by kernel_rfl) (by kernel_rfl) (fun _ _ _ h => h) (Or.inl ⟨by rfl, fun w' _ => ?yb33⟩) HH.out ?_
            case yb33 => (go_simp; try with_reducible rfl)
            try simp only [List.getElem_toArray, List.getElem_cons_succ, List.getElem_cons_zero, Act.put, List.setIfInBounds_toArray, List.set_cons_zero, List.set_cons_succ]
            refine wpAnyH_take (i := 34) (v := ?vb34) rfl (by kernel_rfl) (by kernel_rfl) (by kernel_rfl) (fun _ _ _ h => h) (Or.inl ⟨by rfl, fun w' _ => ?yb34⟩) HH.out ?_
            case yb34 => (go_simp; try with_reducible rfl)
            try simp only [List.getElem_toArray, List.getElem_cons_succ, List.getElem_cons_zero, Act.put, List.setIfInBounds_toArray, List.set_cons_zero, List.set_cons_succ]
            refine wpAnyH_take (i := 35) (v := ?vb35) rfl (by kernel_rfl) (by kernel_rfl) (by kernel_rfl) (fun _ _ _ h => h) (Or.inl ⟨by rfl, fun w' _ => ?yb35⟩) HH.out ?_
            case yb35 => (go_simp; try with_reducible rfl)
            refine wpAnyH_take (i := 36) (v := undef) rfl (by kernel_rfl) (by kernel_rfl) (by kernel_rfl) (fun _ _ _ h => h) (Or.inr ⟨by rfl, rfl⟩) HH.out ?_
            refine wpAnyH_take (i := 37) (v := undef) rfl (by kernel_rfl) (by kernel_rfl) (by kernel_rfl) (fun _ _ _ h => h) (Or.inr ⟨by rfl, rfl⟩) HH.out ?_
            try simp only [List.getElem_toArray, List.getElem_cons_succ, List.getElem_cons_zero, Act.put, List.setIfInBounds_toArray, List.set_cons_zero, List.set_cons_succ]
            refine wpAnyH_take (i := 38) (v := undef) rfl (by kernel_rfl) (by kernel_rfl) (by kernel_rfl) (fun _ _ _ h => h) (Or.inr ⟨by rfl, rfl⟩) HH.out ?_
            refine wpAnyH_take (i := 39) (v := undef) rfl (by kernel_rfl) (by kernel_rfl) (by kernel_rfl) (fun _ _ _ h => h) (Or.inr ⟨by rfl, rfl⟩) HH.out ?_
            refine wpAnyH_take (i := 40) (v := undef) rfl (by kernel_rfl) (by kernel_rfl) (by kernel_rfl) (fun _ _ _ h => h) (Or.inr ⟨by rfl, rfl⟩) HH.out ?_
            try simp only [List.getElem_toArray, List.getElem_cons_succ, List.getElem_cons_zero, Act.put, List.setIfInBounds_toArray, List.set_cons_zero, List.set_cons_succ]
            refine wpAnyH_take (i := 41) (v := undef) rfl (by kernel_rfl) (by kernel_rfl) (by kernel_rfl) (fun _ _ _ h => h) (Or.inr ⟨by rfl, rfl⟩) HH.out ?_
            refine wpAnyH_take (i := 42) (v := undef) rfl (by kernel_rfl) (by kernel_rfl) (by kernel_rfl) (fun _ _ _ h => h) (Or.inr ⟨by rfl, rfl⟩) HH.out ?_
            refine wpAnyH_take (i := 43) (v := undef) rfl (by kernel_rfl) (by kernel_rfl) (by kernel_rfl) (fun _ _ _ h => h) (Or.inr ⟨by rfl, rfl⟩) HH.out ?_
            try simp only [List.getElem_toArray, List.getElem_cons_succ, List.getElem_cons_zero, Act.put, List.setIfInBounds_toArray, List.set_cons_zero, List.set_cons_succ]
            refine wpAnyH_take (i := 44) (v := undef) rfl (by kernel_rfl) (by kernel_rfl) (by kernel_rfl) (fun _ _ _ h => h) (Or.inr ⟨by rfl, rfl⟩) HH.out ?_
            refine wpAnyH_take (i := 45) (v := undef) rfl (by kernel_rfl) (by kernel_rfl) (by kernel_rfl) (fun _ _ _ h => h) (Or.inr ⟨by rfl, rfl⟩) HH.out ?_
            refine wpAnyH_take (i := 46) (v := undef) rfl (by kernel_rfl) (by kernel_rfl) (by kernel_rfl) (fun _ _ _ h => h) (Or.inr ⟨by rfl, rfl⟩) HH.out ?_
            try simp only [List.getElem_toArray, List.getElem_cons_succ, List.getElem_cons_zero, Act.put, List.setIfInBounds_toArray, List.set_cons_zero, List.set_cons_succ]
            refine wpAnyH_take (i := 47) (v := ?vb47) rfl (by kernel_rfl) (by kernel_rfl) (by kernel_rfl) (fun _ _ _ h => h) (Or.inl ⟨by rfl, fun w' _ => ?yb47⟩) HH.out ?_
            case yb47 => (go_simp; try with_reducible rfl)
            refine wpAnyH_take (i := 48) (v := ?vb48) rfl (by kernel_rfl) (by kernel_rfl) (by kernel_rfl) (fun _ _ _ h => h) (Or.inl ⟨by rfl, fun w' _ => ?yb48⟩) HH.out ?_
            case yb48 => (go_simp; try with_reducible rfl)
            try simp only [List.getElem_toArray, List.getElem_cons_succ, List.getElem_cons_zero, Act.put, List.setIfInBounds_toArray, List.set_cons_zero, List.set_cons_succ]
            refine wpAnyH_done (by kernel_rfl) ?_ _
            have F9 := Lib.hid (HB.out.trans (HH.out.mono HB.out.size))
            go_wp2_with fail
            go_roundw
            case rel => exact ⟨j + 1, by have := HLT.out; omega, by go_num, F9.out⟩
            case measure => (have := HLT.out; simp [intOf]; try omega)
        · have B9 := Lib.hid (B6.out.trans (hbw.mono B6.out.size))
          have F9 := Lib.hid hbw
          obtain ⟨wv, hwv⟩ : ∃ v, v = wr := ⟨_, rfl⟩
          subst hwv
          clear hbw
          have n3j : ¬ (j : Int) < (n3 : Int) := by omega
          go_wp2_with fail
          go_loopw [14] (fun i wr => ∃ m : Nat, m ≤ k ∧ i = .int .i64 m ∧ Below w6.heap.size w6 wr) (fun i _ => k - (intOf i).toNat)
          case atStart => exact ⟨0, Nat.zero_le _, rfl, F9.out⟩
          case round =>
            obtain ⟨m, hm, rfl, hbw⟩ := hrel
            by_cases hlk : m < k
            · have hin := in_take encCl (ys l) k
              rw [← ys_take] at hin
              obtain ⟨ga, ha, hac⟩ := Pk.ints_at (own_below O6.out hbw) (by rw [in_length, ys_length, HLK.out])
              obtain ⟨gb, hb, hbc⟩ := Pk.ints_at (own_below O4.out hbw) (by rw [in_length, ys_length, HL.out])
              have ha := ha (by omega)
              have hb := hb (by have := HKN.out; omega)
              subst ha
              subst hb
              have cam := hac m hlk
              have cbm := hbc m (by have := HKN.out; omega)
              obtain ⟨v, hv⟩ : ∃ v : Nat, v = (inB encCl (ys l))[m]'(by rw [in_length, ys_length, HL.out]; have := HKN.out; omega) := ⟨_, rfl⟩
              have hv2 : (inB encCl (ys (l.take k)))[m]'(by rw [in_length, ys_length, HLK.out]; exact hlk) = v := by
                rw [hv]
                have h1 : (inB encCl (ys (l.take k)))[m]? = ((inB encCl (ys l)).take k)[m]? := by rw [hin]
                rw [List.getElem?_take, if_pos hlk, List.getElem?_eq_getElem (by rw [in_length, ys_length, HLK.out]; exact hlk), List.getElem?_eq_getElem (by rw [in_length, ys_length, HL.out]; have := HKN.out; omega)] at h1
                injection h1
              rw [hv2] at cam
              rw [← hv] at cbm
              have HB := Lib.hid hbw
              have HLM := Lib.hid hlk
              have z0 : (0 : Int) ≤ (m : Int) := by omega
              have z1 : (m : Int) < (k : Int) := by omega
              have z2 : (m : Int) < (N : Int) := by have := HKN.out; omega
              have z3 : (N : Int) ≤ 12 := by have := HNB.out; omega
              have e2 : ((v : Int) != (v : Int)) = false := by simp
              clear hac hbc hv hv2 hbw hin hlk
              go_wp2_with fail
              go_quiet (fail)
              go_wp2_with fail
              go_roundw
              case rel => exact ⟨m + 1, by have := HLM.out; omega, by go_num, below_drewN' HB.out _⟩
              case measure => (have := HLM.out; simp [intOf]; try omega)
            · have mk : ¬ (m : Int) < (k : Int) := by omega
              have B10 := Lib.hid (B6.out.trans (hbw.mono B6.out.size))
              clear hbw
              go_wp2_with fail
              go_ret
              exact ⟨rfl, B10.out⟩
theorem packParts_own : ownKnob Try.prog.godebug = none := by kernel_rfl
theorem packParts_laid : laidOutB Try.prog = true := by kernel_rfl

set_option maxRecDepth 100000 in
theorem packParts_lifted (os : Os) (started : os.Started) (H : Type) (enc : TypeId × Value → H) :
    ReturnsInHanded {} Try.checked os 7 .any (Rows.packPartsSpec.pre6 enc Try.prog Try.f7 Rows.packPartsRow.domain false) (Rows.packPartsSpec.post enc Try.prog Try.f7 false true false false) := by
  refine returnsInHanded_of_change (C := Try.checked) packParts_own started (by kernel_rfl) Try.func7
    (ChangeSpec.witness6 (enc := enc) (C := Try.checked) false ⟨#[], #[.slice none 0 0, .int .u8 0], []⟩ 8 (by kernel_rfl) (by kernel_rfl) (by kernel_rfl) (by kernel_rfl)) ?_
  intro W base args ds gs before hval0 hW _ _
  have hval : ∀ (j : Nat) t v, Try.f7.params[j]? = some t → args[j]? = some v → Value.okWide Try.prog W .any base t v := hval0
  have hW' := hW
  obtain ⟨p, q, hA0, hV, rfl, hfz, hnd⟩ := hW
  have hA : DataW.TrodAll enc Try.prog W 0 (fun _ => true) true Try.f7.params.toList args.toList ds p := hA0
  rw [Try.params7] at hA hval
  obtain ⟨v0, vs0, d0, ds0, p0, q0, hargs, rfl, rfl, h0, r0⟩ := trodAll_cons hA
  obtain ⟨v1, vs1, d1, ds1, p1, q1, rfl, rfl, rfl, h1, r1⟩ := trodAll_cons r0
  obtain ⟨rfl, rfl, rfl⟩ := trodAll_nil r1
  obtain rfl : args = #[v0, v1] := by cases args; simp_all
  obtain ⟨rfl, rfl⟩ := trodVars_none hV
  obtain ⟨a0, n0, c0, rfl⟩ := okWide_slice Try.underlying22 (hval 0 22 v0 rfl rfl)
  have lt0 : ∀ x ∈ p0, x.block < W.heap.size := by obtain ⟨m, hm⟩ := h0; exact DataW.trod_lt m _ _ _ hm
  obtain ⟨l0, hl0, hc0, hm0, hr0⟩ := Ce.open_cells h0
  obtain ⟨a1, rfl, rfl, rfl, w1⟩ := open_int Try.underlying5 (hval 1 5 v1 rfl rfl) h1
  have b1 := bounds_u8 w1
  clear hA0 hval0
  refine (packParts_any W a0 n0 c0 l0 hl0 hc0 hm0 hr0 a1 b1).mono fun e W' ⟨he, bel⟩ => ?_
  subst he
  exact ⟨_, rfl, _, _, _, [], _, [], hW', trodAll_mk1 (shut_bool Try.underlying4 _), (trodAll_cons_mk (Below.trod packParts_laid (by kernel_rfl) (of_decide_eq_true (by kernel_rfl)) h0 bel lt0) (trodAll_cons_mk (shut_int Try.underlying5 w1) trodAll_mk0)), rfl, bel.frame _, fun h => by cases h⟩

theorem packParts_holds : Rows.PackPartsSaid :=
  OpenClaim.holds_of_wide 7 Try.f7 rfl rfl rfl rfl rfl rfl rfl ⟨rfl, rfl, rfl, rfl, rfl⟩ rfl rfl rfl rfl rfl (by kernel_rfl) Try.func7 (by kernel_rfl)
    (of_decide_eq_true (by kernel_rfl)) (by unfold Func.isWrapper; rw [if_neg (of_decide_eq_false (by kernel_rfl))]; exact ⟨rfl, rfl⟩)
    (fun os started H enc _ => packParts_lifted os started H enc)

#print axioms packParts_holds

end Go.Proofs.Ythdmdlnndbjcoaa
