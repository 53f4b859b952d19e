/-
  LogGoesOn holds: of any two bytes and any two rows of bodies the law returns true.
-/
import Derived.Test.YthadomboiockhaaLa6
import Derived.Deep.RegionHeld
import Derived.Deep.Cut
import Derived.Test.YthadomboiockhaaRows
import Derived.ProofKit
import Derived.OpenShut
import Derived.ShutString
import Derived.ChangeOld
namespace Go.Proofs.Ythadomboiockhaa
open Go.RowKit Kd Mi Sx Lo Go.ChangeShapes Go.WideShapes Go.ChangeAt
attribute [local go_sem ↓] Go.wp_at_zero Go.wp_at_succ
set_option maxRecDepth 100000 in
set_option maxHeartbeats 25600000 in
theorem logGoesOn_any (w : World) (x : Int) (hx : 0 ≤ x ∧ x ≤ 255) (y : Int) (hy : 0 ≤ y ∧ y ≤ 255) (A1 : Option Addr) (n1 c1 : Nat) (l1 : List (List UInt8)) (hl1 : l1.length = n1) (_ : n1 ≤ c1) (_ : c1 ≤ maxLen) (hr1 : RdB w.heap.size w A1 l1)
    (A2 : Option Addr) (n2 c2 : Nat) (l2 : List (List UInt8)) (hl2 : l2.length = n2) (_ : n2 ≤ c2) (_ : c2 ≤ maxLen) (hr2 : RdB w.heap.size w A2 l2) : Calls Try.prog 6 #[.int .u8 x, .int .u8 y, .slice A1 n1 c1, .slice A2 n2 c2] w (RetB (.bool true) w) := by
  have hm1 : 0 ≤ x.tmod 4 ∧ x.tmod 4 < 4 := by rw [Int.tmod_eq_emod_of_nonneg hx.1]; omega
  have hm2 : 0 ≤ y.tmod 4 ∧ y.tmod 4 < 4 := by rw [Int.tmod_eq_emod_of_nonneg hy.1]; omega
  obtain ⟨a, ha⟩ : ∃ a : Nat, (a : Int) = 3 + x.tmod 4 := ⟨(3 + x.tmod 4).toNat, by omega⟩
  obtain ⟨b, hb⟩ : ∃ b : Nat, (b : Int) = 1 + y.tmod 4 := ⟨(1 + y.tmod 4).toNat, by omega⟩
  have HAB := Lib.hid (show a ≤ 6 ∧ b ≤ 4 ∧ 3 ≤ a ∧ 1 ≤ b ∧ a * b ≤ 24 by
    have : a * b ≤ 6 * 4 := Nat.mul_le_mul (by omega) (by omega)
    omega)
  have HOK := Lib.hid (show Sg.okS (a : Int) (b : Int) by unfold Sg.okS; omega)
  have HMD := Lib.hid (fun W => made_any x y hx hy a b ha hb W)
  have HL1 := Lib.hid hl1
  have HL2 := Lib.hid hl2
  have HR1 := Lib.hid hr1
  have HR2 := Lib.hid hr2
  clear hm1 hm2 ha hb hx hy hl1 hl2 hr1 hr2
  go_enter Try.func6, Try.ntmps6
  go_wp2_with fail
  refine (Lo.awake_any _).mono ?_
  rintro e w1 ⟨rfl, bw⟩
  have B1 := Lib.hid bw
  clear bw
  by_cases hbig : 12 < n1
  · have n0 : (12 : Int) < (n1 : Int) := by omega
    go_wp2_with fail
    go_ret
    exact ⟨rfl, B1.out⟩
  have n0 : ¬ (12 : Int) < (n1 : Int) := by omega
  by_cases hbig' : 12 < n2
  · have n3 : (12 : Int) < (n2 : Int) := by omega
    go_wp2_with fail
    go_ret
    exact ⟨rfl, B1.out⟩
  have n3 : ¬ (12 : Int) < (n2 : Int) := by omega
  have HNB := Lib.hid (show n1 ≤ 12 ∧ n2 ≤ 12 by omega)
  clear hbig hbig'
  go_wp2_with fail
  refine (HMD.out _).mono ?_
  rintro e w2 ⟨p, g1, g2, bx, g, q, s2, F2, rfl, h⟩
  have H2 := Lib.hid (made_lga (by have := HAB.out; omega) HOK.out h)
  clear h HMD n0 n3
  obtain ⟨RC, hRC⟩ : ∃ RC, RC = rigC p g1 g2 g q a b := ⟨_, rfl⟩
  have HRC := Lib.hid hRC
  clear hRC
  unfold rigC
  go_wp2_with fail
  rw [show (#[Value.pointer (some ⟨p, 0, none⟩), Value.pointer (some ⟨g1, 0, none⟩), Value.pointer (some ⟨g2, 0, none⟩), Value.pointer (some ⟨g, 0, none⟩), Value.pointer (some ⟨q, 0, none⟩), Value.int .i64 (a : Int), Value.int .i64 (b : Int)] : Array Value) = RC from HRC.out.symm]
  obtain ⟨LC, hLC⟩ : ∃ LC, LC = #[Value.slice A1 n1 c1, Value.slice A2 n2 c2] := ⟨_, rfl⟩
  have HLC := Lib.hid hLC
  obtain ⟨bR, hbR⟩ : ∃ v, v = w2.heap.size := ⟨_, rfl⟩
  obtain ⟨bL, hbL⟩ : ∃ v, v = w2.heap.size + 1 := ⟨_, rfl⟩
  obtain ⟨w3, hw3⟩ : ∃ v, v = (w2.alloc (.cells RC 73)).alloc (.cells LC 99) := ⟨_, rfl⟩
  have bw : Below w2.heap.size w2 w3 := by rw [hw3]; exact ((Below.refl _ _).alloc (Nat.le_refl _) _).alloc (by simp) _
  have hlt := (LogL _ _ _ _ _).lt H2.out.lg.live.at_
  have hs2 := H2.out.lg.live.bel.size
  have H3 := Lib.hid (H2.out.below bw)
  have R3 := Lib.hid (show Bz w1 w3 F2 bR RC 73 from ⟨by rw [hw3, hbR]; exact heap_alloc2_old _ _ _, by rw [hbR]; exact hs2, fun hf => by have := hlt bR hf; omega⟩)
  have L3 := Lib.hid (show Bz w1 w3 F2 bL LC 99 from ⟨by rw [hw3, hbL]; exact heap_alloc2_new _ _ _, by rw [hbL]; omega, fun hf => by have := hlt bL hf; omega⟩)
  rw [← hLC, ← hw3, ← hbL, ← hbR]
  clear bw hw3 hbR hbL H2 hLC hlt hs2
  have HRC5 := Lib.hid (show RC[5]? = some (Value.int .i64 (a : Int)) ∧ RC[6]? = some (Value.int .i64 (b : Int)) ∧ RC[1]? = some (Value.pointer (some ⟨g1, 0, none⟩)) ∧ RC[2]? = some (Value.pointer (some ⟨g2, 0, none⟩)) by rw [HRC.out]; exact ⟨rfl, rfl, rfl, rfl⟩)
  have HB1 := Lib.hid (show ∀ w', Below w1.heap.size w1 w' → Below w.heap.size w w' from fun w' h => B1.out.trans (h.mono B1.out.size))
  have HPT := Lib.hid (show ∀ i, i < 2 → ∃ A N c l, LC[i]? = some (.slice A N c) ∧ l.length = N ∧ N ≤ 12 ∧ RdB w.heap.size w A l from fun i hi => by
    rw [HLC.out]
    rcases (show i = 0 ∨ i = 1 by omega) with rfl | rfl
    · exact ⟨A1, n1, c1, l1, rfl, HL1.out, HNB.out.1, HR1.out⟩
    · exact ⟨A2, n2, c2, l2, rfl, HL2.out, HNB.out.2, HR2.out⟩)
  go_loopw [11, 12, 50] (fun ao lo io wr => ∃ (i : Nat) (Ao : Option Addr) (no co : Nat) (all : List (List UInt8)) (g q bx : Nat) (s : Mr (Mu.one p g1 g2)) (F : Nat → Prop) (L : List (List UInt8)), i ≤ 2 ∧ io = .int .i64 i ∧ ao = .slice Ao no co ∧ lo = .pointer (some ⟨q, 0, none⟩) ∧ LgA p g1 g2 bx g q w1 wr s F b a L all 0 ∧ Bz w1 wr F bR RC 73 ∧ Bz w1 wr F bL LC 99 ∧ Orow w w1 wr Ao no co all ∧ (∀ j, (Value.slice Ao no co).ownBlock = some j → ¬F j)) (fun _ _ i _ => 2 - (intOf i).toNat)
  case atStart => exact ⟨0, none, 0, 0, [], g, q, bx, s2, F2, _, by omega, rfl, rfl, rfl, H3.out, R3.out, L3.out, Orow.nil w w1 w3, fun j hj => by cases hj⟩
  case round =>
    clear H3 R3 L3
    obtain ⟨i, Ao, no, co, all, g, q, bx, s, F, L, hi, rfl, rfl, rfl, hh, hr, hl, ho, hf⟩ := hrel
    have H := Lib.hid hh
    have R := Lib.hid hr
    have X := Lib.hid hl
    have O := Lib.hid ho
    have NF := Lib.hid hf
    clear hh hr hl ho hf
    obtain ⟨wo, hwo⟩ : ∃ v, v = wr := ⟨_, rfl⟩
    subst hwo
    by_cases hlt : i < 2
    · obtain ⟨A, N, c, l, hc0, hlN, hN, hrd⟩ := HPT.out i hlt
      have h0 : (i : Int) < 2 := by omega
      have h1 : (0 : Int) ≤ (i : Int) := by omega
      have cL : wo.cell? ⟨bL, i, none⟩ = some (.slice A N c) := (X.out.1.cell i).trans hc0
      have HN := Lib.hid (And.intro hlN hN)
      have HRD := Lib.hid hrd
      have HI := Lib.hid hlt
      clear hc0 hlN hN hrd hlt hi
      go_wp2_with fail
      go_loopw [11, 56] (fun ao io wr => ∃ (j : Nat) (Ao : Option Addr) (no co : Nat) (all : List (List UInt8)) (s : Mr (Mu.one p g1 g2)) (F : Nat → Prop) (L : List (List UInt8)), j ≤ N ∧ io = .int .i64 j ∧ ao = .slice Ao no co ∧ LgA p g1 g2 bx g q w1 wr s F b a L all (2 * j) ∧ Bz w1 wr F bR RC 73 ∧ Bz w1 wr F bL LC 99 ∧ Orow w w1 wr Ao no co all ∧ (∀ j, (Value.slice Ao no co).ownBlock = some j → ¬F j)) (fun _ i _ => N - (intOf i).toNat)
      case atStart => exact ⟨0, Ao, no, co, all, s, F, L, Nat.zero_le _, rfl, rfl, H.out, R.out, X.out, O.out, NF.out⟩
      case round =>
        clear H R X O NF cL h0 h1
        obtain ⟨j, Ao, no, co, all, s, F, L, hj, rfl, rfl, hh, hr, hl, ho, hf⟩ := hrel
        have H := Lib.hid hh
        have R := Lib.hid hr
        have X := Lib.hid hl
        have O := Lib.hid ho
        have NF := Lib.hid hf
        clear hh hr hl ho hf
        have HB := Lib.hid (HB1.out wr H.out.lg.live.bel)
        by_cases hlt : j < N
        · have j0 : (j : Int) < (N : Int) := by omega
          have j1 : (0 : Int) ≤ (j : Int) := by omega
          have wj : IntKind.i64.wrap ((j : Int) + 1) = ((j + 1 : Nat) : Int) := by have := HN.out.2; rw [IntWalk.i64_in _ (by omega)]; omega
          have wj2 : wrap64 ((j : Int) + 1) = ((j + 1 : Nat) : Int) := by have := HN.out.2; unfold wrap64; omega
          obtain ⟨ad, B, d, hA, hab, hcb, hbd, hdm, hrb⟩ := RdB.at_ HRD.out (k := j) (by rw [HN.out.1]; exact hlt)
          subst hA
          obtain ⟨t, ht⟩ : ∃ t, t = l[j]'(by rw [HN.out.1]; exact hlt) := ⟨_, rfl⟩
          rw [← ht] at hcb hbd hrb
          have HIS := Lib.hid (show IsB w.heap.size w (.slice B t.length d) t from ⟨B, d, rfl, hbd, hdm, hrb⟩)
          have HRB := Lib.hid (show Rd wr.heap.size wr B (bv t) from (hrb.below HB.out).more HB.out.size)
          have hcb' : wr.cell? (ad.add j) = some (.slice B t.length d) := (HB.out.cell (by rw [add_block]; exact hab)).trans hcb
          have HLT := Lib.hid hlt
          clear ht hcb hbd hdm hrb hab hlt hj
          by_cases hlong : 103 < t.length
          · have hl0 : (103 : Int) < (t.length : Int) := by omega
            go_wp2_with fail
            go_ret
            exact ⟨rfl, HB.out⟩
          · have hl0 : ¬(103 : Int) < (t.length : Int) := by omega
            have HLG := Lib.hid hlong
            clear hlong
            go_wp2_with fail
            clear hl0 hcb'
            by_cases hfull : all.length < a * b
            · refine (lga_append H.out hfull (by have := HN.out.2; have := HLT.out; omega) B t.length d t rfl (by have := HLG.out; omega) HRB.out).mono ?_
              rintro e w5 ⟨rfl, s5, F5, L5, hlg, hmv⟩
              have H5 := Lib.hid hlg
              have R5 := Lib.hid (R.out.step hmv)
              have X5 := Lib.hid (X.out.step hmv)
              have O5 := Lib.hid (O.out.but hmv.but NF.out)
              have NF5 := Lib.hid (show ∀ j, (Value.slice Ao no co).ownBlock = some j → ¬F5 j from fun k hk hf => (hmv.new k hf).elim (NF.out k hk) (fun h => by have := (O.out.lt hk).2; omega))
              clear hlg hmv H R X O NF HRB hfull
              obtain ⟨vs, ho1, ho2, ho3⟩ := O5.out
              have hbw : Below w5.heap.size w5 (w5.alloc (.cells #[.slice B t.length d] 81)) := (Below.refl _ _).alloc (Nat.le_refl _) _
              have FO := Lib.hid (own_below ho1 hbw)
              have FB := Lib.hid hbw
              have FR := Lib.hid (show Rd (w5.alloc (.cells #[.slice B t.length d] 81)).heap.size (w5.alloc (.cells #[.slice B t.length d] 81)) (some ⟨w5.heap.size, 0, none⟩) [.slice B t.length d] from (Rd.lit w5 81 [.slice B t.length d]).more (by simp))
              have HV := Lib.hid (And.intro ho2 ho3)
              have HBW := Lib.hid (show w1.heap.size ≤ w5.heap.size from H5.out.lg.live.bel.size)
              have HNO := Lib.hid (show no = all.length ∧ no ≤ 24 from by have h1 := O5.out.len; have h2 := H5.out.le; have h3 := HAB.out; rw [List.length_append, List.length_singleton] at h2; omega)
              clear ho1 ho2 ho3 hbw
              go_wp2_with
                (at_builtin
                 refine wpList_app _ rfl (.tmp 71) (.tmp 73) 99 rfl bytesElt (base := w1.heap.size) (v := .slice Ao no co) rfl FO.out (m := 1) rfl FR.out rfl (by intro v hv; rw [List.mem_singleton] at hv; subst hv; rfl) (by have := HNO.out; omega) (by simp; have := HBW.out; omega) ?_
                 intro A3 c3 w6 ho3 hg3 hb3
                 have HG := Lib.hid (show But (fun k => (Value.slice Ao no co).ownBlock = some k) w5 w6 from But.grown (but_below FB.out) hg3 (fun k hk => .inl hk))
                 have O6 := Lib.hid (Orow.push (A' := A3) (c' := c3) ⟨vs, ho3, HV.out⟩ HIS.out)
                 have HB3 := Lib.hid hb3
                 clear ho3 hg3 hb3 FO FR)
              have H6 := Lib.hid (H5.out.but HG.out (fun k hf hk => NF5.out k hk hf) (fun k hk => (O5.out.lt hk).1))
              have R6 := Lib.hid (R5.out.but HG.out (O5.out.ne R5.out.1 (by decide)))
              have X6 := Lib.hid (X5.out.but HG.out (O5.out.ne X5.out.1 (by decide)))
              have NF6 := Lib.hid (show ∀ j, (Value.slice A3 (no + 1) c3).ownBlock = some j → ¬F5 j from fun k hk hf => by
                rcases HB3.out with h | h
                · exact NF5.out k (h ▸ hk) hf
                · rw [hk] at h
                  injection h with h
                  have := (LogL _ _ _ _ _).lt H5.out.lg.live.at_ k hf
                  simp at h
                  omega)
              go_roundw
              case rel => exact ⟨j + 1, A3, no + 1, c3, all ++ [t], s5, F5, L5, by have := HLT.out; omega, rfl, rfl, H6.out, R6.out, X6.out, O6.out, NF6.out⟩
              case measure => (have := HLT.out; simp only [intOf, Int.toNat_natCast]; omega)
            · have hfl : all.length = a * b := by have := H.out.le; omega
              refine (lga_full H.out hfl (by have := HN.out.2; have := HLT.out; omega) B t.length d t rfl (by have := HLG.out; omega) HRB.out).mono ?_
              rintro e w5 ⟨rfl, s5, F5, L5, hlg, hmv⟩
              have H5 := Lib.hid (hlg.more (show 2 * j ≤ 2 * (j + 1) by omega))
              have R5 := Lib.hid (R.out.step hmv)
              have X5 := Lib.hid (X.out.step hmv)
              have O5 := Lib.hid (O.out.but hmv.but NF.out)
              have NF5 := Lib.hid (show ∀ j, (Value.slice Ao no co).ownBlock = some j → ¬F5 j from fun k hk hf => (hmv.new k hf).elim (NF.out k hk) (fun h => by have := (O.out.lt hk).2; omega))
              have hno : ((no : Nat) : Int) = (a : Int) * (b : Int) := by rw [O5.out.len, hfl]; push_cast; rfl
              have wm : IntKind.i64.wrap ((a : Int) * (b : Int)) = (no : Int) := by
                have := HAB.out.2.2.2.2
                have h2 : no ≤ 24 := by rw [O5.out.len, hfl]; exact this
                rw [← hno, IntWalk.i64_in _ (by omega)]
              have c5 := (R5.out.1.cell 5).trans HRC5.out.1
              have c6 := (R5.out.1.cell 6).trans HRC5.out.2.1
              clear hlg hmv H R X O NF HRB hfull hfl hno
              go_wp2_with fail
              go_roundw
              case rel => exact ⟨j + 1, Ao, no, co, all, s5, F5, L5, by have := HLT.out; omega, rfl, rfl, H5.out, R5.out, X5.out, O5.out, NF5.out⟩
              case measure => (have := HLT.out; simp only [intOf, Int.toNat_natCast]; omega)
        · obtain rfl : N = j := by omega
          have h0 : (i : Int) < 2 := by have := HI.out; omega
          clear hlt hj HB
          obtain ⟨wi, hwi⟩ : ∃ v, v = wr := ⟨_, rfl⟩
          subst hwi
          go_wp2_with fail
          refine (lga_flush H.out).mono ?_
          rintro e w5 ⟨rfl, s5, F5, L5, hlg, hmv⟩
          have H5 := Lib.hid hlg
          have R5 := Lib.hid (R.out.step hmv)
          have X5 := Lib.hid (X.out.step hmv)
          have O5 := Lib.hid (O.out.but hmv.but NF.out)
          have NF5 := Lib.hid (show ∀ j, (Value.slice Ao no co).ownBlock = some j → ¬F5 j from fun k hk hf => (hmv.new k hf).elim (NF.out k hk) (fun h => by have := (O.out.lt hk).2; omega))
          clear hlg hmv H R X O NF
          have hzl : ∀ W, (zeroValue 111).run Try.prog W = .ok (.agg zeroLit) W := fun _ => by kernel_rfl
          go_wp2_with fail
          obtain ⟨FD, FO, hld, how, hdo, hdf, hof⟩ := lga_split H5.out
          obtain ⟨w6, hw6⟩ : ∃ W, W = w5.drew := ⟨_, rfl⟩
          have bd : Below w5.heap.size w5 w6 := by rw [hw6]; exact (Below.refl _ _).drew
          have D6 := Lib.hid (Mu.LD.below hld bd)
          have Y6 := Lib.hid (show Blk w6 bR RC 73 from R5.out.1.below bd)
          have HFD := Lib.hid (show ¬FD bR ∧ w1.heap.size ≤ bR from ⟨fun h => R5.out.2.2 (hdf bR h), R5.out.2.1⟩)
          have T6 := Lib.hid (show But FD w6 w6 from But.refl _)
          refine wp_region_held_drew (S := (fun w' => w'.cell? ⟨bR, 1, none⟩ = some (.pointer (some ⟨g1, 0, none⟩)) ∧ w'.cell? ⟨bR, 2, none⟩ = some (.pointer (some ⟨g2, 0, none⟩)) ∧ w'.cell? ⟨bR, 5, none⟩ = some (.int .i64 (a : Int)) ∧ w'.cell? ⟨bR, 6, none⟩ = some (.int .i64 (b : Int)))) (by kernel_rfl) (by rw [← hw6]; exact ⟨(Y6.out.cell 1).trans HRC5.out.2.2.1, (Y6.out.cell 2).trans HRC5.out.2.2.2, (Y6.out.cell 5).trans HRC5.out.1, (Y6.out.cell 6).trans HRC5.out.2.1⟩) (fun hh => ?_)
          rw [← hw6] at hh ⊢
          have HH := Lib.hid hh
          clear hh hw6
          try simp only [List.getElem_toArray, List.getElem_cons_succ, List.getElem_cons_zero, Act.put, List.setIfInBounds_toArray, List.set_cons_zero, List.set_cons_succ]
          refine wpAnyH_take (i := 0) (v := ?vE0) rfl (by kernel_rfl) (by kernel_rfl) (by kernel_rfl) (fun _ _ _ h => h) (Or.inl ⟨by rfl, fun w' _ => ?yE0⟩) HH.out ?_
          case yE0 => (go_simp; try with_reducible rfl)
          try simp only [List.getElem_toArray, List.getElem_cons_zero, Act.put, List.setIfInBounds_toArray, List.set_cons_zero, List.set_cons_succ]
          refine wpAnyH_take (i := 2) (v := ?vE2) rfl (by kernel_rfl) (by kernel_rfl) (by kernel_rfl) (fun _ _ _ h => h) (Or.inl ⟨by rfl, fun w' _ => ?yE2⟩) HH.out ?_
          case yE2 => (go_simp; try with_reducible rfl)
          try simp only [List.getElem_toArray, List.getElem_cons_succ, List.getElem_cons_zero, Act.put, List.setIfInBounds_toArray, List.set_cons_zero, List.set_cons_succ]
          refine wpAnyH_take (i := 10) (v := ?vE10) rfl (by kernel_rfl) (by kernel_rfl) (by kernel_rfl) (fun _ _ _ h => h) (Or.inl ⟨by rfl, fun w' _ => ?yE10⟩) HH.out ?_
          case yE10 => (go_simp; try with_reducible rfl)
          try simp only [List.getElem_toArray, List.getElem_cons_succ, List.getElem_cons_zero, Act.put, List.setIfInBounds_toArray, List.set_cons_zero, List.set_cons_succ]
          refine wpAnyH_take (i := 1) (v := .pointer (some ⟨g1, 0, none⟩)) rfl (by kernel_rfl) (by kernel_rfl) (by kernel_rfl) (fun _ _ _ h => h) (Or.inl ⟨by rfl, fun w' hw' => ?yE1⟩) HH.out ?_
          case yE1 => ((have hc := hw'.1); go_simp; try with_reducible rfl)
          try simp only [List.getElem_toArray, List.getElem_cons_succ, List.getElem_cons_zero, Act.put, List.setIfInBounds_toArray, List.set_cons_zero, List.set_cons_succ]
          refine wpAnyH_take (i := 3) (v := .pointer (some ⟨g2, 0, none⟩)) rfl (by kernel_rfl) (by kernel_rfl) (by kernel_rfl) (fun _ _ _ h => h) (Or.inl ⟨by rfl, fun w' hw' => ?yE3⟩) HH.out ?_
          case yE3 => ((have hc := hw'.2.1); go_simp; try with_reducible rfl)
          try simp only [List.getElem_toArray, List.getElem_cons_succ, List.getElem_cons_zero, Act.put, List.setIfInBounds_toArray, List.set_cons_zero, List.set_cons_succ]
          refine wpAnyH_take (i := 11) (v := .agg #[.int .i64 (a : Int), .int .i64 (b : Int)]) rfl (by kernel_rfl) (by kernel_rfl) (by kernel_rfl) (fun _ _ _ h => h) (Or.inl ⟨by rfl, fun w' hw' => ?yE11⟩) HH.out ?_
          case yE11 => ((have hc := hw'.2.2.1; have hc2 := hw'.2.2.2); go_simp; try with_reducible rfl)
          try simp only [List.getElem_toArray, List.getElem_cons_succ, List.getElem_cons_zero, Act.put, List.setIfInBounds_toArray, List.set_cons_zero, List.set_cons_succ]
          refine wpAnyH_take (i := 4) (v := .agg zeroLit) rfl (by kernel_rfl) (by kernel_rfl) (by kernel_rfl) (fun _ _ _ h => h) (Or.inl ⟨by rfl, fun w' hw' => ?yE4⟩) HH.out ?_
          case yE4 => (go_simp; try with_reducible rfl)
          try simp only [List.getElem_toArray, List.getElem_cons_succ, List.getElem_cons_zero, Act.put, List.setIfInBounds_toArray, List.set_cons_zero, List.set_cons_succ]
          refine wpAnyH_take (i := 8) (v := .agg zeroLit) rfl (by kernel_rfl) (by kernel_rfl) (by kernel_rfl) (fun _ _ _ h => h) (Or.inl ⟨by rfl, fun w' hw' => ?yE8⟩) HH.out ?_
          case yE8 => (go_simp; try with_reducible rfl)
          try simp only [List.getElem_toArray, List.getElem_cons_succ, List.getElem_cons_zero, Act.put, List.setIfInBounds_toArray, List.set_cons_zero, List.set_cons_succ]
          refine wpAnyH_take (i := 5) (v := ?vE5) rfl (by kernel_rfl) (by kernel_rfl) (by kernel_rfl) (fun _ _ _ h => h) (Or.inl ⟨by rfl, fun w' _ => ?yE5⟩) HH.out ?_
          case yE5 => (go_simp; try with_reducible rfl)
          try simp only [List.getElem_toArray, List.getElem_cons_succ, List.getElem_cons_zero, Act.put, List.setIfInBounds_toArray, List.set_cons_zero, List.set_cons_succ]
          refine wpAnyH_take (i := 9) (v := ?vE9) rfl (by kernel_rfl) (by kernel_rfl) (by kernel_rfl) (fun _ _ _ h => h) (Or.inl ⟨by rfl, fun w' _ => ?yE9⟩) HH.out ?_
          case yE9 => (go_simp; try with_reducible rfl)
          try simp only [List.getElem_toArray, List.getElem_cons_succ, List.getElem_cons_zero, Act.put, List.setIfInBounds_toArray, List.set_cons_zero, List.set_cons_succ]
          refine wpAnyH_ready (rs := [6]) (by kernel_rfl) (by simp) (AllReadyH.cons rfl (fun K hK => ?_) AllReadyH.nil)
          go_simp
          refine (good_iface 111 (.agg zeroLit) _).mono ?_
          rintro e w7 ⟨rfl, hw7⟩
          obtain ⟨bG, hbG⟩ : ∃ v, v = w6.heap.size := ⟨_, rfl⟩
          rw [← hbG]
          have bw : Below w6.heap.size w6 w7 := by rw [hw7]; exact (Below.refl _ _).alloc (Nat.le_refl _) _
          have HBG := Lib.hid (show Blk w7 bG #[litS.v] 152 by rw [hw7, hbG]; exact heap_alloc_new _ _)
          have NG := Lib.hid (show ¬FD bG ∧ w1.heap.size ≤ bG ∧ w6.heap.size ≤ bG from ⟨fun hf => by have := (Mu.one p g1 g2).L.lt D6.out.live.at_ bG hf; omega, by rw [hbG]; exact D6.out.live.bel.size, by rw [hbG]; exact Nat.le_refl _⟩)
          have D7 := Lib.hid (Mu.LD.below D6.out bw)
          have Y7 := Lib.hid (Y6.out.below bw)
          have T7 := Lib.hid (Mi.but_step T6.out (but_below (T := fun _ => False) bw) (fun _ h => h.elim))
          clear bw hw7 hbG
          go_simp
          refine hK.out _ _ ⟨(Y7.out.cell 1).trans HRC5.out.2.2.1, (Y7.out.cell 2).trans HRC5.out.2.2.2, (Y7.out.cell 5).trans HRC5.out.1, (Y7.out.cell 6).trans HRC5.out.2.1⟩ (fun hh => ?_)
          have HH' := Lib.hid hh
          clear hh hK K HH D6 Y6 T6
          have HH := Lib.hid HH'.out
          clear HH'
          try simp only [List.getElem_toArray, List.getElem_cons_succ, List.getElem_cons_zero, Act.put, List.setIfInBounds_toArray, List.set_cons_zero, List.set_cons_succ]
          refine wpAnyH_ready (rs := [7]) (by kernel_rfl) (by simp) (AllReadyH.cons rfl (fun K hK => ?_) AllReadyH.nil)
          go_simp
          refine (lm_newB (G := gdS litS bG) (fun _ _ _ _ _ _ => trivial) D7.out (fun y hy => by rw [show (gdS litS bG).l = [(bG, #[litS.v], 152)] from rfl, List.mem_singleton] at hy; subst hy; exact ⟨HBG.out, NG.out.1, NG.out.2.1⟩) (n := 2 + a * b) H5.out.len H5.out.len).mono ?_
          rintro e w8 ⟨gm, s8, F8, rfl, h, hf, hb⟩
          have D8 := Lib.hid (show Mu.LM p g1 g2 (gdS litS bG) gm w1 w8 s8 F8 (Sc.startM L5 L5 (2 + a * b)) 0 from h)
          have hmem : ∀ k, (∃ y ∈ (gdS litS bG).l, k = y.1) → k = bG := fun k hk => by obtain ⟨y, hy, e⟩ := hk; rw [show (gdS litS bG).l = [(bG, #[litS.v], 152)] from rfl, List.mem_singleton] at hy; rw [e, hy]
          have T8 := Lib.hid (Mi.but_step T7.out hb (fun k hk => hk.imp id (fun h => by rw [hmem k h]; exact NG.out.2.2)))
          have Y8 := Lib.hid (Y7.out.but hb (fun hx => hx.elim HFD.out.1 (fun h => by have h1 := hmem _ h; have h2 := HBG.out; rw [← h1] at h2; have h3 : w7.heap[bR]? = some (.cells RC 73 (0, 0)) := Y7.out; have h4 : w7.heap[bR]? = some (.cells #[litS.v] 152 (0, 0)) := h2; rw [h3] at h4; injection h4 with h4; injection h4 with _ h4; exact absurd h4 (by decide))))
          have K8 := Lib.hid (show ∀ j, j < w6.heap.size → ¬FD j → ¬F8 j from fun j hj hn hx => (hf j hx).elim (fun hx => hx.elim hn (fun h => by have := hmem _ h; have := NG.out.2.2; omega)) (fun h => by have := T7.out.size; omega))
          clear h hf hb hmem
          go_simp
          refine hK.out _ _ ⟨(Y8.out.cell 1).trans HRC5.out.2.2.1, (Y8.out.cell 2).trans HRC5.out.2.2.2, (Y8.out.cell 5).trans HRC5.out.1, (Y8.out.cell 6).trans HRC5.out.2.1⟩ (fun hh => ?_)
          have HH' := Lib.hid hh
          clear hh hK K HH D7 Y7 T7 HBG NG
          have HH := Lib.hid HH'.out
          clear HH'
          try simp only [List.getElem_toArray, List.getElem_cons_succ, List.getElem_cons_zero, Act.put, List.setIfInBounds_toArray, List.set_cons_zero, List.set_cons_succ]
          refine wpAnyH_ready (rs := [12]) (by kernel_rfl) (by simp) (AllReadyH.cons rfl (fun K hK => ?_) AllReadyH.nil)
          go_simp
          refine (open_lga D8.out (by omega) H5.out.len H5.out.has H5.out.ok H5.out.le H5.out.small).mono ?_
          rintro e w9 ⟨qn, Af, kf, cf, fd, s9, F9, FF, rfl, hlg, hfd, hit, h1, h2, h3, h4⟩
          have H9 := Lib.hid hlg
          have FD9 := Lib.hid hfd
          have IT := Lib.hid hit
          have DJ := Lib.hid h3
          have T9 := Lib.hid (Mi.but_step T8.out h4 (fun k hk => (Classical.em (k < w6.heap.size)).elim (fun hk6 => .inl (Classical.byContradiction fun hn => K8.out k hk6 hn hk)) (fun hk6 => .inr (by omega))))
          have K9 := Lib.hid (show ∀ j, j < w6.heap.size → ¬FD j → ¬F9 j from fun j hj hn hx => (h1 j hx).elim (K8.out j hj hn) (fun h => by have := T8.out.size; omega))
          have Y9 := Lib.hid (Y8.out.but h4 (K8.out bR (by have := (show Blk w6 bR RC 73 from R5.out.1.below bd).lt; omega) HFD.out.1))
          clear hlg hfd hit h1 h2 h3 h4
          go_simp
          refine hK.out _ _ ⟨(Y9.out.cell 1).trans HRC5.out.2.2.1, (Y9.out.cell 2).trans HRC5.out.2.2.2, (Y9.out.cell 5).trans HRC5.out.1, (Y9.out.cell 6).trans HRC5.out.2.1⟩ (fun hh => ?_)
          have HH' := Lib.hid hh
          clear hh hK K HH D8 Y8 T8 K8
          have HH := Lib.hid HH'.out
          clear HH'
          try simp only [List.getElem_toArray, List.getElem_cons_succ, List.getElem_cons_zero, Act.put, List.setIfInBounds_toArray, List.set_cons_zero, List.set_cons_succ]
          refine wpAnyH_take (i := 13) (v := ?vG13) rfl (by kernel_rfl) (by kernel_rfl) (by kernel_rfl) (fun _ _ _ h => h) (Or.inl ⟨by rfl, fun w' _ => ?yG13⟩) HH.out ?_
          case yG13 => (go_simp; try with_reducible rfl)
          try simp only [List.getElem_toArray, List.getElem_cons_succ, List.getElem_cons_zero, Act.put, List.setIfInBounds_toArray, List.set_cons_zero, List.set_cons_succ]
          refine wpAnyH_take (i := 14) (v := ?vG14) rfl (by kernel_rfl) (by kernel_rfl) (by kernel_rfl) (fun _ _ _ h => h) (Or.inl ⟨by rfl, fun w' _ => ?yG14⟩) HH.out ?_
          case yG14 => (go_simp; try with_reducible rfl)
          try simp only [List.getElem_toArray, List.getElem_cons_succ, List.getElem_cons_zero, Act.put, List.setIfInBounds_toArray, List.set_cons_zero, List.set_cons_succ]
          refine wpAnyH_take (i := 15) (v := ?vG15) rfl (by kernel_rfl) (by kernel_rfl) (by kernel_rfl) (fun _ _ _ h => h) (Or.inl ⟨by rfl, fun w' _ => ?yG15⟩) HH.out ?_
          case yG15 => (go_simp; try with_reducible rfl)
          try simp only [List.getElem_toArray, List.getElem_cons_succ, List.getElem_cons_zero, Act.put, List.setIfInBounds_toArray, List.set_cons_zero, List.set_cons_succ]
          refine wpAnyH_take (i := 16) (v := ?vG16) rfl (by kernel_rfl) (by kernel_rfl) (by kernel_rfl) (fun _ _ _ h => h) (Or.inl ⟨by rfl, fun w' _ => ?yG16⟩) HH.out ?_
          case yG16 => (go_simp; try with_reducible rfl)
          try simp only [List.getElem_toArray, List.getElem_cons_succ, List.getElem_cons_zero, Act.put, List.setIfInBounds_toArray, List.set_cons_zero, List.set_cons_succ]
          refine wpAnyH_take (i := 17) (v := ?vG17) rfl (by kernel_rfl) (by kernel_rfl) (by kernel_rfl) (fun _ _ _ h => h) (Or.inl ⟨by rfl, fun w' _ => ?yG17⟩) HH.out ?_
          case yG17 => (go_simp; try with_reducible rfl)
          try simp only [List.getElem_toArray, List.getElem_cons_succ, List.getElem_cons_zero, Act.put, List.setIfInBounds_toArray, List.set_cons_zero, List.set_cons_succ]
          refine wpAnyH_take (i := 18) (v := ?vG18) rfl (by kernel_rfl) (by kernel_rfl) (by kernel_rfl) (fun _ _ _ h => h) (Or.inl ⟨by rfl, fun w' _ => ?yG18⟩) HH.out ?_
          case yG18 => (go_simp; try with_reducible rfl)
          try simp only [List.getElem_toArray, List.getElem_cons_succ, List.getElem_cons_zero, Act.put, List.setIfInBounds_toArray, List.set_cons_zero, List.set_cons_succ]
          refine wpAnyH_take (i := 19) (v := ?vG19) rfl (by kernel_rfl) (by kernel_rfl) (by kernel_rfl) (fun _ _ _ h => h) (Or.inl ⟨by rfl, fun w' _ => ?yG19⟩) HH.out ?_
          case yG19 => (go_simp; try with_reducible rfl)
          try simp only [List.getElem_toArray, List.getElem_cons_succ, List.getElem_cons_zero, Act.put, List.setIfInBounds_toArray, List.set_cons_zero, List.set_cons_succ]
          refine wpAnyH_done (by kernel_rfl) ?_ _
          clear HH
          have hb9 : But FD w5 w9 := Mi.but_step (but_below (T := FD) bd) T9.out (fun k hk => .inl hk)
          have hsz : w5.heap.size ≤ w6.heap.size := bd.size
          have R9 := Lib.hid (show Bz w1 w9 F9 bR RC 73 from ⟨Y9.out, R5.out.2.1, K9.out bR (by have := R5.out.1.lt; omega) HFD.out.1⟩)
          have X9 := Lib.hid (show Bz w1 w9 F9 bL LC 99 from ⟨X5.out.1.but hb9 (fun h => X5.out.2.2 (hdf bL h)), X5.out.2.1, K9.out bL (by have := X5.out.1.lt; omega) (fun h => X5.out.2.2 (hdf bL h))⟩)
          have O9 := Lib.hid (O5.out.but hb9 (fun j hj h => NF5.out j hj (hdf j h)))
          have NF9 := Lib.hid (show ∀ j, (Value.slice Ao no co).ownBlock = some j → ¬F9 j from fun j hj => K9.out j (by have := (O5.out.lt hj).2; omega) (fun h => NF5.out j hj (hdf j h)))
          have W9 := Lib.hid ((OwnL g q litS).but how hb9 (fun k hk hk2 => hdo k hk2 hk))
          clear hb9 hsz bd T9 K9 Y9 HFD hld how hdo hdf hof R5 X5 O5 NF5
          obtain rfl : no = kf := by
            have h1 := fd_len FD9.out
            have h2 := fd_items_len IT.out
            have h3 := O9.out.len
            omega
          have WD9 := Lib.hid H9.out.lg.fine
          go_wp2_with fail
          refine (lgm_room H9.out.lg).mono ?_
          rintro e w10 ⟨rfl, bw⟩
          have H10 := Lib.hid (H9.out.below bw)
          have R10 := Lib.hid (R9.out.below bw)
          have X10 := Lib.hid (X9.out.below bw)
          have O10 := Lib.hid (O9.out.below bw)
          have FD10 := Lib.hid ((FdL Af no cf).below FD9.out bw)
          have W10 := Lib.hid ((OwnL g q litS).below W9.out bw)
          clear H9 R9 X9 O9 FD9 W9
          clear bw
          go_wp2_with fail
          refine (oroom_any W10.out WD9.out).mono ?_
          rintro e w11 ⟨rfl, bw⟩
          have H11 := Lib.hid (H10.out.below bw)
          have R11 := Lib.hid (R10.out.below bw)
          have X11 := Lib.hid (X10.out.below bw)
          have O11 := Lib.hid (O10.out.below bw)
          have FD11 := Lib.hid ((FdL Af no cf).below FD10.out bw)
          have W11 := Lib.hid ((OwnL g q litS).below W10.out bw)
          clear H10 R10 X10 O10 FD10 W10
          clear bw W11 WD9
          obtain ⟨rm, hrm⟩ : ∃ v, v = (lgT b a all.length).room := ⟨_, rfl⟩
          rw [← hrm]
          clear hrm
          go_wp2_with fail
          go_loopw [132] (fun io wr => ∃ (t : Nat) (s : Mr (Mu.one p g1 g2)) (F : Nat → Prop), t ≤ no ∧ io = .int .i64 t ∧ LgA p g1 g2 bG gm qn w1 wr s F b a L5 all 0 ∧ Bz w1 wr F bR RC 73 ∧ Bz w1 wr F bL LC 99 ∧ Orow w w1 wr Ao no co all ∧ (∀ j, (Value.slice Ao no co).ownBlock = some j → ¬F j) ∧ (FdL Af no cf).At wr fd FF ∧ (∀ j, F j → FF j → False)) (fun io _ => no - (intOf io).toNat)
          case atStart => exact ⟨0, s9, F9, Nat.zero_le _, rfl, H11.out, R11.out, X11.out, O11.out, NF9.out, FD11.out, DJ.out⟩
          case round =>
            clear H11 R11 X11 O11 NF9 FD11 DJ
            obtain ⟨t, s, F, ht, rfl, hh, hr, hl, ho, hf, hfd, hdj⟩ := hrel
            have H := Lib.hid hh
            have R := Lib.hid hr
            have X := Lib.hid hl
            have O := Lib.hid ho
            have NF := Lib.hid hf
            have FDx := Lib.hid hfd
            have DJ := Lib.hid hdj
            clear hh hr hl ho hf hfd hdj
            by_cases hlt : t < no
            · have t0 : (t : Int) < (no : Int) := by omega
              have t1 : (0 : Int) ≤ (t : Int) := by omega
              have hno := O.out.len
              have wt : IntKind.i64.wrap ((t : Int) + 1) = ((t + 1 : Nat) : Int) := by have h1 := H.out.le; have h2 := HAB.out.2.2.2.2; rw [IntWalk.i64_in _ (by omega)]; omega
              have wt2 : wrap64 ((t : Int) + 1) = ((t + 1 : Nat) : Int) := by have h1 := H.out.le; have h2 := HAB.out.2.2.2.2; unfold wrap64; omega
              obtain ⟨gA, x0, hA, hx0, hc0, hc1, hc2, hrd⟩ := fd_at FDx.out hlt
              subst hA
              obtain ⟨hat, hbd, htl⟩ := fd_item IT.out hx0
              obtain ⟨gO, B, d, hAo, hcO, hrB⟩ := O.out.at_ hlt
              subst hAo
              obtain ⟨tb, htb⟩ : ∃ tb, tb = all.getD t [] := ⟨_, rfl⟩
              obtain ⟨kk, hkk⟩ : ∃ kk, kk = 2 + t := ⟨_, rfl⟩
              rw [hat, ← hkk] at hc0
              rw [hbd, ← htb] at hc2 hrd
              rw [← htb] at hcO hrB
              have HKK := Lib.hid hkk
              have HTB := Lib.hid htb
              have HTL := Lib.hid htl
              have HLT := Lib.hid hlt
              have HCO := Lib.hid hcO
              have HRB := Lib.hid (show ∀ w', Below w1.heap.size w1 w' → Rd w.heap.size w' B (bv tb) from fun w' h => hrB.below (HB1.out w' h))
              have HRX := Lib.hid hrd
              obtain ⟨xA, hxA⟩ : ∃ v, v = x0.A := ⟨_, rfl⟩
              obtain ⟨xc, hxc⟩ : ∃ v, v = x0.c := ⟨_, rfl⟩
              obtain ⟨xg, hxg⟩ : ∃ v, v = x0.gen := ⟨_, rfl⟩
              rw [← hxA, ← hxc] at hc2
              rw [← hxA] at HRX
              rw [← hxg] at hc1
              have HX0 := Lib.hid hx0
              have HXA := Lib.hid (show xA = x0.A ∧ x0.b = tb from ⟨hxA, hbd.trans htb.symm⟩)
              clear hx0 hrd hat hbd htl hcO hrB htb hkk hlt hno hxA hxc hxg ht HRX
              go_wp2_with fail
              obtain ⟨bF, hbF⟩ : ∃ v, v = wr.heap.size := ⟨_, rfl⟩
              obtain ⟨w12, hw12⟩ : ∃ v, v = wr.alloc (.cells #[.int .i64 (kk : Int), .int .u64 (xg : Int), .slice xA tb.length xc] 113) := ⟨_, rfl⟩
              rw [← hw12, ← hbF]
              have bw : Below wr.heap.size wr w12 := by rw [hw12]; exact (Below.refl _ _).alloc (Nat.le_refl _) _
              have XF := Lib.hid (show Bz w1 w12 F bF #[.int .i64 (kk : Int), .int .u64 (xg : Int), .slice xA tb.length xc] 113 from ⟨by rw [hw12, hbF]; exact heap_alloc_new _ _, by rw [hbF]; exact H.out.lg.live.bel.size, fun hf => by have := (LogL _ _ _ _ _).lt H.out.lg.live.at_ bF hf; omega⟩)
              have H12 := Lib.hid (H.out.below bw)
              have hc := lga_read H12.out (t := t) HTL.out
              rw [← HKK.out, ← HTB.out] at hc
              refine hc.mono ?_
              clear hc
              rintro e w13 ⟨Ab, nb, cb, F13, rfl, hob, hlg, hmv, hdb⟩
              have H13 := Lib.hid hlg
              have R13 := Lib.hid ((R.out.below bw).step hmv)
              have X13 := Lib.hid ((X.out.below bw).step hmv)
              have XF13 := Lib.hid (XF.out.step hmv)
              have NFS := Lib.hid (show ∀ k, k < wr.heap.size → ¬F k → ¬F13 k from fun k hk hn hf => (hmv.new k hf).elim hn (fun h => by have := bw.size; omega))
              have O13 := Lib.hid ((O.out.below bw).but hmv.but NF.out)
              have NF13 := Lib.hid (show ∀ j, (Value.slice (some ⟨gO, 0, none⟩) no co).ownBlock = some j → ¬F13 j from fun k hk => NFS.out k (O.out.lt hk).2 (NF.out k hk))
              have FD13 := Lib.hid ((FdL _ no cf).but ((FdL _ no cf).below FDx.out bw) hmv.but (fun k hk hf => DJ.out k hf hk))
              have DJ13 := Lib.hid (show ∀ j, F13 j → FF j → False from fun k hf hk => NFS.out k ((FdL _ no cf).lt FDx.out k hk) (fun h => DJ.out k h hk) hf)
              have HC13 := Lib.hid (cell_but ((bw.cell (show (⟨gO, t, none⟩ : Addr).block < wr.heap.size from World.block_lt_of_cell? wr _ HCO.out)).trans HCO.out) hmv.but (NF.out gO rfl))
              have HRX := Lib.hid (show Rd w13.heap.size w13 xA (bv tb) from by
                obtain ⟨g', x1, _, hx1, _, _, _, hrd1⟩ := fd_at FD13.out HLT.out
                have e1 : x1 = x0 := Option.some.inj (hx1.symm.trans HX0.out)
                rw [e1, ← HXA.out.1, HXA.out.2] at hrd1
                exact hrd1)
              have HRA := Lib.hid (Rd.own (n := nb) (c := cb) hob)
              have HNB2 := Lib.hid (own_blen hob)
              have HRB13 := Lib.hid (HRB.out w13 H13.out.lg.live.bel)
              clear hob hlg hmv hdb bw hw12 hbF H R X O NF FDx DJ NFS XF H12 HCO hc0 hc1 hc2 HX0 HXA
              obtain ⟨Z, hZ⟩ : ∃ Z : ByteArray, Z = ⟨tb.toArray⟩ := ⟨_, rfl⟩
              have HZ := Lib.hid hZ
              clear hZ
              go_wp2_with fail
              refine wp_region_held_drew (S := (fun w' => w'.cell? ⟨bF, 2, none⟩ = some (.slice xA tb.length xc) ∧ w'.cell? ⟨gO, t, none⟩ = some (.slice B tb.length d) ∧ Rd w13.heap.size w' xA (bv tb) ∧ Rd w.heap.size w' B (bv tb) ∧ Rd w13.heap.size w' Ab (bv tb))) (by kernel_rfl) ⟨(show (World.drew _).cell? _ = _ from XF13.out.1.cell 2), (show (World.drew _).cell? _ = _ from HC13.out), HRX.out.drewN 1, HRB13.out.drewN 1, HRA.out.drewN 1⟩ (fun hh => ?_)
              have HH := Lib.hid hh
              clear hh
              try simp only [List.getElem_toArray, List.getElem_cons_succ, List.getElem_cons_zero, Act.put, List.setIfInBounds_toArray, List.set_cons_zero, List.set_cons_succ]
              refine wpAnyH_take (i := 0) (v := ?vQ0) rfl (by kernel_rfl) (by kernel_rfl) (by kernel_rfl) (fun _ _ _ h => h) (Or.inl ⟨by rfl, fun w' _ => ?yQ0⟩) HH.out ?_
              case yQ0 => (go_simp; try with_reducible rfl)
              try simp only [List.getElem_toArray, List.getElem_cons_zero, Act.put, List.setIfInBounds_toArray, List.set_cons_zero, List.set_cons_succ]
              refine wpAnyH_take (i := 1) (v := .slice xA tb.length xc) rfl (by kernel_rfl) (by kernel_rfl) (by kernel_rfl) (fun _ _ _ h => h) (Or.inl ⟨by rfl, fun w' hw' => ?yQ1⟩) HH.out ?_
              case yQ1 => ((have hc := hw'.1); go_simp; try with_reducible rfl)
              try simp only [List.getElem_toArray, List.getElem_cons_succ, List.getElem_cons_zero, Act.put, List.setIfInBounds_toArray, List.set_cons_zero, List.set_cons_succ]
              refine wpAnyH_take (i := 2) (v := .string Z) rfl (by kernel_rfl) (by kernel_rfl) (by kernel_rfl) (fun _ _ _ h => h) (Or.inl ⟨by rfl, fun w' hw' => ?yQ2⟩) HH.out ?_
              case yQ2 => (have kc := conv_rd (c := xc) Try.underlying81 Try.underlying5 Try.underlying9 (hw'.2.2.1) (rfl); rw [← HZ.out] at kc; go_simp; try with_reducible rfl)
              try simp only [List.getElem_toArray, List.getElem_cons_succ, List.getElem_cons_zero, Act.put, List.setIfInBounds_toArray, List.set_cons_zero, List.set_cons_succ]
              refine wpAnyH_take (i := 3) (v := ?vQ3) rfl (by kernel_rfl) (by kernel_rfl) (by kernel_rfl) (fun _ _ _ h => h) (Or.inl ⟨by rfl, fun w' _ => ?yQ3⟩) HH.out ?_
              case yQ3 => (go_simp; try with_reducible rfl)
              try simp only [List.getElem_toArray, List.getElem_cons_succ, List.getElem_cons_zero, Act.put, List.setIfInBounds_toArray, List.set_cons_zero, List.set_cons_succ]
              refine wpAnyH_take (i := 4) (v := ?vQ4) rfl (by kernel_rfl) (by kernel_rfl) (by kernel_rfl) (fun _ _ _ h => h) (Or.inl ⟨by rfl, fun w' _ => ?yQ4⟩) HH.out ?_
              case yQ4 => (go_simp; try with_reducible rfl)
              try simp only [List.getElem_toArray, List.getElem_cons_succ, List.getElem_cons_zero, Act.put, List.setIfInBounds_toArray, List.set_cons_zero, List.set_cons_succ]
              refine wpAnyH_take (i := 5) (v := ?vQ5) rfl (by kernel_rfl) (by kernel_rfl) (by kernel_rfl) (fun _ _ _ h => h) (Or.inl ⟨by rfl, fun w' _ => ?yQ5⟩) HH.out ?_
              case yQ5 => (go_simp; try with_reducible rfl)
              try simp only [List.getElem_toArray, List.getElem_cons_succ, List.getElem_cons_zero, Act.put, List.setIfInBounds_toArray, List.set_cons_zero, List.set_cons_succ]
              refine wpAnyH_take (i := 6) (v := .slice B tb.length d) rfl (by kernel_rfl) (by kernel_rfl) (by kernel_rfl) (fun _ _ _ h => h) (Or.inl ⟨by rfl, fun w' hw' => ?yQ6⟩) HH.out ?_
              case yQ6 => ((have hc := hw'.2.1); go_simp; try with_reducible rfl)
              try simp only [List.getElem_toArray, List.getElem_cons_succ, List.getElem_cons_zero, Act.put, List.setIfInBounds_toArray, List.set_cons_zero, List.set_cons_succ]
              refine wpAnyH_take (i := 7) (v := .string Z) rfl (by kernel_rfl) (by kernel_rfl) (by kernel_rfl) (fun _ _ _ h => h) (Or.inl ⟨by rfl, fun w' hw' => ?yQ7⟩) HH.out ?_
              case yQ7 => (have kc := conv_rd (c := d) Try.underlying81 Try.underlying5 Try.underlying9 (hw'.2.2.2.1) (rfl); rw [← HZ.out] at kc; go_simp; try with_reducible rfl)
              try simp only [List.getElem_toArray, List.getElem_cons_succ, List.getElem_cons_zero, Act.put, List.setIfInBounds_toArray, List.set_cons_zero, List.set_cons_succ]
              refine wpAnyH_take (i := 8) (v := ?vQ8) rfl (by kernel_rfl) (by kernel_rfl) (by kernel_rfl) (fun _ _ _ h => h) (Or.inl ⟨by rfl, fun w' _ => ?yQ8⟩) HH.out ?_
              case yQ8 => (go_simp; try with_reducible rfl)
              try simp only [List.getElem_toArray, List.getElem_cons_succ, List.getElem_cons_zero, Act.put, List.setIfInBounds_toArray, List.set_cons_zero, List.set_cons_succ]
              refine wpAnyH_take (i := 9) (v := ?vQ9) rfl (by kernel_rfl) (by kernel_rfl) (by kernel_rfl) (fun _ _ _ h => h) (Or.inl ⟨by rfl, fun w' _ => ?yQ9⟩) HH.out ?_
              case yQ9 => (go_simp; try with_reducible rfl)
              try simp only [List.getElem_toArray, List.getElem_cons_succ, List.getElem_cons_zero, Act.put, List.setIfInBounds_toArray, List.set_cons_zero, List.set_cons_succ]
              refine wpAnyH_take (i := 10) (v := ?vQ10) rfl (by kernel_rfl) (by kernel_rfl) (by kernel_rfl) (fun _ _ _ h => h) (Or.inl ⟨by rfl, fun w' _ => ?yQ10⟩) HH.out ?_
              case yQ10 => (go_simp; try with_reducible rfl)
              try simp only [List.getElem_toArray, List.getElem_cons_succ, List.getElem_cons_zero, Act.put, List.setIfInBounds_toArray, List.set_cons_zero, List.set_cons_succ]
              refine wpAnyH_take (i := 11) (v := ?vQ11) rfl (by kernel_rfl) (by kernel_rfl) (by kernel_rfl) (fun _ _ _ h => h) (Or.inl ⟨by rfl, fun w' _ => ?yQ11⟩) HH.out ?_
              case yQ11 => (go_simp; try with_reducible rfl)
              try simp only [List.getElem_toArray, List.getElem_cons_succ, List.getElem_cons_zero, Act.put, List.setIfInBounds_toArray, List.set_cons_zero, List.set_cons_succ]
              refine wpAnyH_take (i := 12) (v := ?vQ12) rfl (by kernel_rfl) (by kernel_rfl) (by kernel_rfl) (fun _ _ _ h => h) (Or.inl ⟨by rfl, fun w' _ => ?yQ12⟩) HH.out ?_
              case yQ12 => (go_simp; try with_reducible rfl)
              try simp only [List.getElem_toArray, List.getElem_cons_succ, List.getElem_cons_zero, Act.put, List.setIfInBounds_toArray, List.set_cons_zero, List.set_cons_succ]
              refine wpAnyH_take (i := 13) (v := ?vQ13) rfl (by kernel_rfl) (by kernel_rfl) (by kernel_rfl) (fun _ _ _ h => h) (Or.inl ⟨by rfl, fun w' _ => ?yQ13⟩) HH.out ?_
              case yQ13 => (go_simp; try with_reducible rfl)
              try simp only [List.getElem_toArray, List.getElem_cons_succ, List.getElem_cons_zero, Act.put, List.setIfInBounds_toArray, List.set_cons_zero, List.set_cons_succ]
              refine wpAnyH_take (i := 14) (v := ?vQ14) rfl (by kernel_rfl) (by kernel_rfl) (by kernel_rfl) (fun _ _ _ h => h) (Or.inl ⟨by rfl, fun w' _ => ?yQ14⟩) HH.out ?_
              case yQ14 => (go_simp; try with_reducible rfl)
              try simp only [List.getElem_toArray, List.getElem_cons_succ, List.getElem_cons_zero, Act.put, List.setIfInBounds_toArray, List.set_cons_zero, List.set_cons_succ]
              refine wpAnyH_take (i := 15) (v := .string Z) rfl (by kernel_rfl) (by kernel_rfl) (by kernel_rfl) (fun _ _ _ h => h) (Or.inl ⟨by rfl, fun w' hw' => ?yQ15⟩) HH.out ?_
              case yQ15 => (have kc := conv_rd (c := cb) Try.underlying81 Try.underlying5 Try.underlying9 (hw'.2.2.2.2) (HNB2.out); rw [← HZ.out] at kc; go_simp; try with_reducible rfl)
              try simp only [List.getElem_toArray, List.getElem_cons_succ, List.getElem_cons_zero, Act.put, List.setIfInBounds_toArray, List.set_cons_zero, List.set_cons_succ]
              refine wpAnyH_take (i := 16) (v := ?vQ16) rfl (by kernel_rfl) (by kernel_rfl) (by kernel_rfl) (fun _ _ _ h => h) (Or.inl ⟨by rfl, fun w' _ => ?yQ16⟩) HH.out ?_
              case yQ16 => (go_simp; try with_reducible rfl)
              try simp only [List.getElem_toArray, List.getElem_cons_succ, List.getElem_cons_zero, Act.put, List.setIfInBounds_toArray, List.set_cons_zero, List.set_cons_succ]
              refine wpAnyH_take (i := 17) (v := ?vQ17) rfl (by kernel_rfl) (by kernel_rfl) (by kernel_rfl) (fun _ _ _ h => h) (Or.inl ⟨by rfl, fun w' _ => ?yQ17⟩) HH.out ?_
              case yQ17 => (go_simp; try with_reducible rfl)
              try simp only [List.getElem_toArray, List.getElem_cons_succ, List.getElem_cons_zero, Act.put, List.setIfInBounds_toArray, List.set_cons_zero, List.set_cons_succ]
              refine wpAnyH_take (i := 18) (v := ?vQ18) rfl (by kernel_rfl) (by kernel_rfl) (by kernel_rfl) (fun _ _ _ h => h) (Or.inl ⟨by rfl, fun w' _ => ?yQ18⟩) HH.out ?_
              case yQ18 => (go_simp; try with_reducible rfl)
              try simp only [List.getElem_toArray, List.getElem_cons_succ, List.getElem_cons_zero, Act.put, List.setIfInBounds_toArray, List.set_cons_zero, List.set_cons_succ]
              refine wpAnyH_take (i := 19) (v := .slice B tb.length d) rfl (by kernel_rfl) (by kernel_rfl) (by kernel_rfl) (fun _ _ _ h => h) (Or.inl ⟨by rfl, fun w' hw' => ?yQ19⟩) HH.out ?_
              case yQ19 => ((have hc := hw'.2.1); go_simp; try with_reducible rfl)
              try simp only [List.getElem_toArray, List.getElem_cons_succ, List.getElem_cons_zero, Act.put, List.setIfInBounds_toArray, List.set_cons_zero, List.set_cons_succ]
              refine wpAnyH_take (i := 20) (v := .string Z) rfl (by kernel_rfl) (by kernel_rfl) (by kernel_rfl) (fun _ _ _ h => h) (Or.inl ⟨by rfl, fun w' hw' => ?yQ20⟩) HH.out ?_
              case yQ20 => (have kc := conv_rd (c := d) Try.underlying81 Try.underlying5 Try.underlying9 (hw'.2.2.2.1) (rfl); rw [← HZ.out] at kc; go_simp; try with_reducible rfl)
              try simp only [List.getElem_toArray, List.getElem_cons_succ, List.getElem_cons_zero, Act.put, List.setIfInBounds_toArray, List.set_cons_zero, List.set_cons_succ]
              refine wpAnyH_take (i := 21) (v := ?vQ21) rfl (by kernel_rfl) (by kernel_rfl) (by kernel_rfl) (fun _ _ _ h => h) (Or.inl ⟨by rfl, fun w' _ => ?yQ21⟩) HH.out ?_
              case yQ21 => (go_simp; try with_reducible rfl)
              try simp only [List.getElem_toArray, List.getElem_cons_succ, List.getElem_cons_zero, Act.put, List.setIfInBounds_toArray, List.set_cons_zero, List.set_cons_succ]
              refine wpAnyH_take (i := 22) (v := ?vQ22) rfl (by kernel_rfl) (by kernel_rfl) (by kernel_rfl) (fun _ _ _ h => h) (Or.inl ⟨by rfl, fun w' _ => ?yQ22⟩) HH.out ?_
              case yQ22 => (go_simp; try with_reducible rfl)
              try simp only [List.getElem_toArray, List.getElem_cons_succ, List.getElem_cons_zero, Act.put, List.setIfInBounds_toArray, List.set_cons_zero, List.set_cons_succ]
              refine wpAnyH_done (by kernel_rfl) ?_ _
              have bd : Below w13.heap.size w13 w13.drew := (Below.refl _ _).drew
              obtain ⟨w14, hw14⟩ : ∃ v, v = w13.drew := ⟨_, rfl⟩
              rw [← hw14] at bd ⊢
              clear HH hw14
              have H14 := Lib.hid (H13.out.below bd)
              have R14 := Lib.hid (R13.out.below bd)
              have X14 := Lib.hid (X13.out.below bd)
              have O14 := Lib.hid (O13.out.below bd)
              have FD14 := Lib.hid ((FdL _ no cf).below FD13.out bd)
              clear bd H13 R13 X13 O13 FD13 XF13 HC13 HRX HRB13 HRA HNB2
              go_wp2_with fail
              go_roundw
              case rel => exact ⟨t + 1, _, F13, by have := HLT.out; omega, rfl, H14.out, R14.out, X14.out, O14.out, NF13.out, FD14.out, DJ13.out⟩
              case measure => (have := HLT.out; simp only [intOf, Int.toNat_natCast]; omega)
            · obtain rfl : no = t := by omega
              have wi1 : IntKind.i64.wrap ((i : Int) + 1) = ((i + 1 : Nat) : Int) := by have := HI.out; rw [IntWalk.i64_in _ (by omega)]; omega
              have wi2 : wrap64 ((i : Int) + 1) = ((i + 1 : Nat) : Int) := by have := HI.out; unfold wrap64; omega
              clear ht hlt
              go_wp2_with fail
              go_roundw
              case rel => exact ⟨i + 1, Ao, no, co, all, gm, qn, bG, s, F, L5, by have := HI.out; omega, rfl, rfl, rfl, H.out, R.out, X.out, O.out, NF.out⟩
              case measure => (have := HI.out; simp only [intOf, Int.toNat_natCast]; omega)
    · obtain rfl : i = 2 := by omega
      clear hlt hi
      go_wp2_with fail
      go_ret
      exact ⟨rfl, HB1.out _ H.out.lg.live.bel⟩
theorem logGoesOn_own : ownKnob Try.prog.godebug = none := by kernel_rfl
theorem logGoesOn_laid : laidOutB Try.prog = true := by kernel_rfl

set_option maxRecDepth 100000 in
theorem logGoesOn_lifted (os : Os) (started : os.Started) (H : Type) (enc : TypeId × Value → H) :
    ReturnsInHanded {} Try.checked os 6 .any (Rows.logGoesOnSpec.pre6 enc Try.prog Try.f6 Rows.logGoesOnRow.domain false) (Rows.logGoesOnSpec.post enc Try.prog Try.f6 false true false false) := by
  refine returnsInHanded_of_change (C := Try.checked) logGoesOn_own started (by kernel_rfl) Try.func6
    (ChangeSpec.witness6 (enc := enc) (C := Try.checked) false ⟨#[], #[.int .u8 0, .int .u8 0, .slice none 0 0, .slice none 0 0], []⟩ 8 (by kernel_rfl) (by kernel_rfl) (by kernel_rfl) (by kernel_rfl)) ?_
  intro W base args ds gs before hval0 hW _ _
  have hval : ∀ (j : Nat) t v, Try.f6.params[j]? = some t → args[j]? = some v → Value.okWide Try.prog W .any base t v := hval0
  have hW' := hW
  obtain ⟨p, q, hA0, hV, rfl, hfz, hnd⟩ := hW
  have hA : DataW.TrodAll enc Try.prog W 0 (fun _ => true) true Try.f6.params.toList args.toList ds p := hA0
  rw [Try.params6] at hA hval
  obtain ⟨v0, vs0, d0, ds0, p0, q0, hargs, rfl, rfl, h0, r0⟩ := trodAll_cons hA
  obtain ⟨v1, vs1, d1, ds1, p1, q1, rfl, rfl, rfl, h1, r1⟩ := trodAll_cons r0
  obtain ⟨v2, vs2, d2, ds2, p2, q2, rfl, rfl, rfl, h2, r2⟩ := trodAll_cons r1
  obtain ⟨v3, vs3, d3, ds3, p3, q3, rfl, rfl, rfl, h3, r3⟩ := trodAll_cons r2
  obtain ⟨rfl, rfl, rfl⟩ := trodAll_nil r3
  obtain rfl : args = #[v0, v1, v2, v3] := by cases args; simp_all
  obtain ⟨rfl, rfl⟩ := trodVars_none hV
  obtain ⟨a0, rfl, rfl, rfl, w0⟩ := open_int Try.underlying5 (hval 0 5 v0 rfl rfl) h0
  have b0 := bounds_u8 w0
  obtain ⟨a1, rfl, rfl, rfl, w1⟩ := open_int Try.underlying5 (hval 1 5 v1 rfl rfl) h1
  have b1 := bounds_u8 w1
  obtain ⟨a2, n2, c2, rfl⟩ := okWide_slice Try.underlying99 (hval 2 99 v2 rfl rfl)
  have lt2 : ∀ x ∈ p2, x.block < W.heap.size := by obtain ⟨m, hm⟩ := h2; exact DataW.trod_lt m _ _ _ hm
  obtain ⟨l2, hl2, hc2, hm2, hr2⟩ := open_rows Try.underlying99 Try.underlying81 Try.underlying5 (by kernel_rfl) (by kernel_rfl) h2
  obtain ⟨a3, n3, c3, rfl⟩ := okWide_slice Try.underlying99 (hval 3 99 v3 rfl rfl)
  have lt3 : ∀ x ∈ p3, x.block < W.heap.size := by obtain ⟨m, hm⟩ := h3; exact DataW.trod_lt m _ _ _ hm
  obtain ⟨l3, hl3, hc3, hm3, hr3⟩ := open_rows Try.underlying99 Try.underlying81 Try.underlying5 (by kernel_rfl) (by kernel_rfl) h3
  clear hA0 hval0
  refine (logGoesOn_any W a0 b0 a1 b1 a2 n2 c2 l2 hl2 hc2 hm2 hr2 a3 n3 c3 l3 hl3 hc3 hm3 hr3).mono fun e W' ⟨he, bel⟩ => ?_
  subst he
  exact ⟨_, rfl, _, _, _, [], _, [], hW', trodAll_mk1 (shut_bool Try.underlying4 _), (trodAll_cons_mk (shut_int Try.underlying5 w0) (trodAll_cons_mk (shut_int Try.underlying5 w1) (trodAll_cons_mk (Below.trod logGoesOn_laid (by kernel_rfl) (of_decide_eq_true (by kernel_rfl)) h2 bel lt2) (trodAll_cons_mk (Below.trod logGoesOn_laid (by kernel_rfl) (of_decide_eq_true (by kernel_rfl)) h3 bel lt3) trodAll_mk0)))), rfl, bel.frame _, fun h => by cases h⟩

theorem logGoesOn_holds : Rows.LogGoesOnSaid :=
  OpenClaim.holds_of_wide 6 Try.f6 rfl rfl rfl rfl rfl rfl rfl ⟨rfl, rfl, rfl, rfl, rfl⟩ rfl rfl rfl rfl rfl (by kernel_rfl) Try.func6 (by kernel_rfl)
    (of_decide_eq_true (by kernel_rfl)) (by unfold Func.isWrapper; rw [if_neg (of_decide_eq_false (by kernel_rfl))]; exact ⟨rfl, rfl⟩)
    (fun os started H enc _ => logGoesOn_lifted os started H enc)

#print axioms logGoesOn_holds

end Go.Proofs.Ythadomboiockhaa
