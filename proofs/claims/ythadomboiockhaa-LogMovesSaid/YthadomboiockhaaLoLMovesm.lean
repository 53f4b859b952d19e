/-
  LogMoves holds: of any byte, any row of bodies and any body more the law returns true.
-/
import Derived.Test.YthadomboiockhaaLc1
import Derived.Deep.RegionHeld
import Derived.Deep.Cut
import Derived.Test.YthadomboiockhaaRows
import Derived.ProofKit
import Derived.OpenShut
import Derived.ShutString
import Derived.ChangeOld
namespace Go.Proofs.Ythadomboiockhaa
open Go.RowKit Kd Mi Sx Lo Go.ChangeShapes Go.WideShapes Go.ChangeAt
attribute [local go_sem ↓] Go.wp_at_zero Go.wp_at_succ
set_option maxRecDepth 100000 in
set_option maxHeartbeats 25600000 in
theorem logMoves_any (w : World) (x : Int) (hx : 0 ≤ x ∧ x ≤ 255) (A1 : Option Addr) (N1 c1 : Nat) (l1 : List (List UInt8)) (hl1 : l1.length = N1) (_ : N1 ≤ c1) (_ : c1 ≤ maxLen) (hr1 : RdB w.heap.size w A1 l1)
    (A2 : Option Addr) (n2 c2 : Nat) (l2 : List UInt8) (hl2 : l2.length = n2) (_ : n2 ≤ c2) (_ : c2 ≤ maxLen) (hr2 : Rd w.heap.size w A2 (bv l2)) : Calls Try.prog 9 #[.int .u8 x, .slice A1 N1 c1, .slice A2 n2 c2] w (RetB (.bool true) w) := by
  have hm2 : 0 ≤ x.tmod 4 ∧ x.tmod 4 < 4 := by rw [Int.tmod_eq_emod_of_nonneg hx.1]; omega
  obtain ⟨n, hn⟩ : ∃ n : Nat, (n : Int) = 1 + x.tmod 4 := ⟨(1 + x.tmod 4).toNat, by omega⟩
  have HAB := Lib.hid (show 1 ≤ n ∧ n ≤ 4 by omega)
  have HOK := Lib.hid (show Sg.okS ((6 : Nat) : Int) (n : Int) by unfold Sg.okS; omega)
  have HMD := Lib.hid (fun W => made_any 3 x (by omega) hx 6 n (by decide) hn W)
  have HL1 := Lib.hid hl1
  have HL2 := Lib.hid hl2
  have HR1 := Lib.hid hr1
  have HR2 := Lib.hid hr2
  clear hm2 hn hx hl1 hl2 hr1 hr2
  go_enter Try.func9, Try.ntmps9
  go_wp2_with fail
  refine (Lo.awake_any _).mono ?_
  rintro e w1 ⟨rfl, bw⟩
  have B1 := Lib.hid bw
  clear bw
  by_cases hz : N1 = 0
  · subst hz
    go_wp2_with fail
    go_ret
    exact ⟨rfl, B1.out⟩
  have z0 : ((N1 : Int) == 0) = false := beq_eq_false_iff_ne.2 (by omega)
  by_cases hbig : 6 < N1
  · have n0 : (6 : Int) < (N1 : Int) := by omega
    go_wp2_with fail
    go_ret
    exact ⟨rfl, B1.out⟩
  have n0 : ¬ (6 : Int) < (N1 : Int) := by omega
  by_cases hbig' : 103 < n2
  · have n3 : (103 : Int) < (n2 : Int) := by omega
    go_wp2_with fail
    go_ret
    exact ⟨rfl, B1.out⟩
  have n3 : ¬ (103 : Int) < (n2 : Int) := by omega
  have HNB := Lib.hid (show 1 ≤ N1 ∧ N1 ≤ 6 ∧ n2 ≤ 103 by omega)
  clear hbig hbig' hz
  go_wp2_with fail
  refine (HMD.out _).mono ?_
  rintro e w2 ⟨p, g1, g2, bx, g, q, s2, F2, rfl, h⟩
  have H2 := Lib.hid (made_lga (a := 6) (b := n) (by have := HAB.out; omega) HOK.out h)
  clear h HMD n0 n3 z0
  obtain ⟨RC, hRC⟩ : ∃ RC, RC = rigC p g1 g2 g q 6 n := ⟨_, rfl⟩
  have HRC := Lib.hid hRC
  clear hRC
  obtain ⟨M3, hM3⟩ : ∃ M3, M3 = 3 * n := ⟨_, rfl⟩
  have w3n : IntKind.i64.wrap (3 * (n : Int)) = (M3 : Int) := by have := HAB.out; rw [IntWalk.i64_in _ (by omega)]; omega
  have HM3 := Lib.hid hM3
  clear hM3
  unfold rigC
  go_wp2_with fail
  rw [show (#[Value.pointer (some ⟨p, 0, none⟩), Value.pointer (some ⟨g1, 0, none⟩), Value.pointer (some ⟨g2, 0, none⟩), Value.pointer (some ⟨g, 0, none⟩), Value.pointer (some ⟨q, 0, none⟩), Value.int .i64 6, Value.int .i64 (n : Int)] : Array Value) = RC from HRC.out.symm]
  obtain ⟨bR, hbR⟩ : ∃ v, v = w2.heap.size := ⟨_, rfl⟩
  obtain ⟨w3, hw3⟩ : ∃ v, v = w2.alloc (.cells RC 73) := ⟨_, rfl⟩
  have bw : Below w2.heap.size w2 w3 := by rw [hw3]; exact (Below.refl _ _).alloc (Nat.le_refl _) _
  have hlt := (LogL _ _ _ _ _).lt H2.out.lg.live.at_
  have hs2 := H2.out.lg.live.bel.size
  have H3 := Lib.hid (H2.out.below bw)
  have R3 := Lib.hid (show Bz w1 w3 F2 bR RC 73 from ⟨by rw [hw3, hbR]; exact heap_alloc_new _ _, by rw [hbR]; exact hs2, fun hf => by have := hlt bR hf; omega⟩)
  rw [← hw3, ← hbR]
  clear bw hw3 hbR H2 hlt hs2
  have HRC5 := Lib.hid (show RC[5]? = some (Value.int .i64 6) ∧ RC[6]? = some (Value.int .i64 (n : Int)) ∧ RC[1]? = some (Value.pointer (some ⟨g1, 0, none⟩)) ∧ RC[2]? = some (Value.pointer (some ⟨g2, 0, none⟩)) ∧ RC[4]? = some (Value.pointer (some ⟨q, 0, none⟩)) by rw [HRC.out]; exact ⟨rfl, rfl, rfl, rfl, rfl⟩)
  have HB1 := Lib.hid (show ∀ w', Below w1.heap.size w1 w' → Below w.heap.size w w' from fun w' h => B1.out.trans (h.mono B1.out.size))
  have H3N := Lib.hid w3n
  clear w3n
  go_loopw [10, 55] (fun ao io wr => ∃ (i : Nat) (Ao : Option Addr) (no co : Nat) (all : List (List UInt8)) (s : Mr (Mu.one p g1 g2)) (F : Nat → Prop) (L : List (List UInt8)), i ≤ M3 ∧ io = .int .i64 i ∧ ao = .slice Ao no co ∧ all.length = i ∧ (∀ t, t < i → all.getD t [] = l1.getD (t % N1) [] ∧ (all.getD t []).length ≤ 103) ∧ LgA p g1 g2 bx g q w1 wr s F n 6 L all (2 * i) ∧ Bz w1 wr F bR RC 73 ∧ Orow w w1 wr Ao no co (all.take n) ∧ (∀ j, (Value.slice Ao no co).ownBlock = some j → ¬F j)) (fun _ i _ => M3 - (intOf i).toNat)
  case atStart => exact ⟨0, none, 0, 0, [], s2, F2, _, Nat.zero_le _, rfl, rfl, rfl, fun t h => by omega, H3.out, R3.out, by rw [List.take_nil]; exact Orow.nil w w1 w3, fun j hj => by cases hj⟩
  case round =>
    clear H3 R3
    obtain ⟨i, Ao, no, co, all, s, F, L, hi, rfl, rfl, hln, hall, hh, hr, ho, hf⟩ := hrel
    have HI := Lib.hid (And.intro hi hln)
    have HALL := Lib.hid hall
    have H := Lib.hid hh
    have R := Lib.hid hr
    have O := Lib.hid ho
    have NF := Lib.hid hf
    clear hh hr ho hf hall hln
    have HB := Lib.hid (HB1.out wr H.out.lg.live.bel)
    have c4 := (R.out.1.cell 4).trans HRC5.out.2.2.2.2
    by_cases hlt : i < M3
    · have HQ := Lib.hid (show i < 6 * n ∧ 2 * i < 900000 by have h1 := HAB.out; have h2 := HM3.out; omega)
      have i0 : (i : Int) < (M3 : Int) := by omega
      have nz : (N1 : Int) ≠ 0 := by have := HNB.out; omega
      have qr : (i : Int).tmod (N1 : Int) = ((i % N1 : Nat) : Int) := by rw [Int.tmod_eq_emod_of_nonneg (by omega)]; exact (Int.natCast_emod i N1).symm
      obtain ⟨r, hr⟩ : ∃ r, r = i % N1 := ⟨_, rfl⟩
      have hrN : r < N1 := by rw [hr]; exact Nat.mod_lt _ (by have := HNB.out; omega)
      rw [← hr] at qr
      have r0 : (0 : Int) ≤ (r : Int) := by omega
      have r1 : (r : Int) < (N1 : Int) := by omega
      have wi : IntKind.i64.wrap ((i : Int) + 1) = ((i + 1 : Nat) : Int) := by have h1 := HAB.out; have h2 := HM3.out; rw [IntWalk.i64_in _ (by omega)]; omega
      have wi2 : wrap64 ((i : Int) + 1) = ((i + 1 : Nat) : Int) := by have h1 := HAB.out; have h2 := HM3.out; unfold wrap64; omega
      obtain ⟨ad, B, d, hA, hab, hcb, hbd, hdm, hrb⟩ := RdB.at_ HR1.out (k := r) (by rw [HL1.out]; exact hrN)
      subst hA
      obtain ⟨t, ht⟩ : ∃ t, t = l1[r]'(by rw [HL1.out]; exact hrN) := ⟨_, rfl⟩
      have ht2 : l1.getD (i % N1) [] = t := by rw [ht, ← hr, List.getD_eq_getElem?_getD, List.getElem?_eq_getElem (by rw [HL1.out]; exact hrN)]; rfl
      rw [← ht] at hcb hbd hrb
      have HT2 := Lib.hid ht2
      have HIS := Lib.hid (show IsB w.heap.size w (.slice B t.length d) t from ⟨B, d, rfl, hbd, hdm, hrb⟩)
      have HRB := Lib.hid (show Rd wr.heap.size wr B (bv t) from (hrb.below HB.out).more HB.out.size)
      have hcb' : wr.cell? (ad.add r) = some (.slice B t.length d) := (HB.out.cell (by rw [add_block]; exact hab)).trans hcb
      have HLT := Lib.hid hlt
      clear ht ht2 hcb hbd hdm hrb hab hlt hrN hr hi
      by_cases hlong : 103 < t.length
      · have hl0 : (103 : Int) < (t.length : Int) := by omega
        go_wp2_with fail
        go_ret
        exact ⟨rfl, HB.out⟩
      · have hl0 : ¬(103 : Int) < (t.length : Int) := by omega
        have HLG := Lib.hid hlong
        clear hlong
        go_wp2_with fail
        clear hl0 hcb' c4 qr nz
        refine (lga_append H.out (by rw [HI.out.2]; exact HQ.out.1) HQ.out.2 B t.length d t rfl (by have := HLG.out; omega) HRB.out).mono ?_
        rintro e w5 ⟨rfl, s5, F5, L5, hlg, hmv⟩
        have H5 := Lib.hid hlg
        have R5 := Lib.hid (R.out.step hmv)
        have O5 := Lib.hid (O.out.but hmv.but NF.out)
        have NF5 := Lib.hid (show ∀ j, (Value.slice Ao no co).ownBlock = some j → ¬F5 j from fun k hk hf => (hmv.new k hf).elim (NF.out k hk) (fun h => by have := (O.out.lt hk).2; omega))
        have HALL5 := Lib.hid (moves_snoc HI.out.2 HALL.out HT2.out HLG.out)
        have HLN5 := Lib.hid (show (all ++ [t]).length = i + 1 by rw [List.length_append, HI.out.2]; rfl)
        clear hlg hmv H R O NF HRB HALL
        by_cases hin : i < n
        · have in0 : (i : Int) < (n : Int) := Int.ofNat_lt.2 hin
          have htk := moves_take (t := t) HI.out.2 hin
          have HTK := Lib.hid htk
          clear htk hin
          obtain ⟨vs, ho1, ho2, ho3⟩ := O5.out
          have hbw : Below w5.heap.size w5 (w5.alloc (.cells #[.slice B t.length d] 81)) := (Below.refl _ _).alloc (Nat.le_refl _) _
          have FO := Lib.hid (own_below ho1 hbw)
          have FB := Lib.hid hbw
          have FR := Lib.hid (show Rd (w5.alloc (.cells #[.slice B t.length d] 81)).heap.size (w5.alloc (.cells #[.slice B t.length d] 81)) (some ⟨w5.heap.size, 0, none⟩) [.slice B t.length d] from (Rd.lit w5 81 [.slice B t.length d]).more (by simp))
          have HV := Lib.hid (And.intro ho2 ho3)
          have HBW := Lib.hid (show w1.heap.size ≤ w5.heap.size from H5.out.lg.live.bel.size)
          have HNO := Lib.hid (orow_small O5.out HAB.out)
          clear ho1 ho2 ho3 hbw
          go_wp2_with
            (at_builtin
             refine wpList_app _ rfl (.tmp 80) (.tmp 82) 99 rfl bytesElt (base := w1.heap.size) (v := .slice Ao no co) rfl FO.out (m := 1) rfl FR.out rfl (by intro v hv; rw [List.mem_singleton] at hv; subst hv; rfl) (by have := HNO.out; omega) (by simp; have := HBW.out; omega) ?_
             intro A3 c3 w6 ho3 hg3 hb3
             have HG := Lib.hid (show But (fun k => (Value.slice Ao no co).ownBlock = some k) w5 w6 from But.grown (but_below FB.out) hg3 (fun k hk => .inl hk))
             have O6 := Lib.hid (Orow.push (A' := A3) (c' := c3) ⟨vs, ho3, HV.out⟩ HIS.out)
             have HB3 := Lib.hid hb3
             clear ho3 hg3 hb3 FO FR)
          have H6 := Lib.hid (H5.out.but HG.out (fun k hf hk => NF5.out k hk hf) (fun k hk => (O5.out.lt hk).1))
          have R6 := Lib.hid (R5.out.but HG.out (O5.out.ne R5.out.1 (by decide)))
          have NF6 := Lib.hid (show ∀ j, (Value.slice A3 (no + 1) c3).ownBlock = some j → ¬F5 j from fun k hk hf => by
            rcases HB3.out with h | h
            · exact NF5.out k (h ▸ hk) hf
            · rw [hk] at h
              injection h with h
              have := (LogL _ _ _ _ _).lt H5.out.lg.live.at_ k hf
              simp at h
              omega)
          go_roundw
          case rel => exact ⟨i + 1, A3, no + 1, c3, all ++ [t], s5, F5, L5, Nat.succ_le_of_lt HLT.out, rfl, rfl, HLN5.out, HALL5.out, H6.out, R6.out, by rw [HTK.out]; exact O6.out, NF6.out⟩
          case measure => (have := HLT.out; simp only [intOf, Int.toNat_natCast]; omega)
        · have in0 : ((i : Int) < (n : Int)) = False := eq_false (fun h => hin (Int.ofNat_lt.1 h))
          have htk := moves_take2 (t := t) HI.out.2 hin
          have HTK := Lib.hid htk
          clear htk hin
          go_wp2_with fail
          go_roundw
          case rel => exact ⟨i + 1, Ao, no, co, all ++ [t], s5, F5, L5, Nat.succ_le_of_lt HLT.out, rfl, rfl, HLN5.out, HALL5.out, H5.out, R5.out, by rw [HTK.out]; exact O5.out, NF5.out⟩
          case measure => (have := HLT.out; simp only [intOf, Int.toNat_natCast]; omega)
    · obtain rfl : M3 = i := by omega
      clear hlt hi
      have HLN := Lib.hid (show no = n ∧ all.length = 3 * n by
        have h1 := O.out.len
        have h2 := HI.out.2
        have h3 := HM3.out
        rw [List.length_take] at h1
        omega)
      have HALLE := Lib.hid (show ∀ t, t < n → ((all.take n).getD t []).length ≤ 103 from fun t ht => by
        rw [List.getD_eq_getElem?_getD, List.getElem?_take_of_lt ht, ← List.getD_eq_getElem?_getD]
        exact (HALL.out t (by have := HM3.out; omega)).2)
      obtain ⟨eld, held⟩ : ∃ eld, eld = all.take n := ⟨_, rfl⟩
      rw [← held] at O HALLE
      have HEL := Lib.hid (show eld = all.take n ∧ eld.length = n from ⟨held, by rw [held, List.length_take]; have := HLN.out; omega⟩)
      clear held c4
      obtain rfl : no = n := HLN.out.1
      obtain ⟨n, hnn⟩ : ∃ n, n = no := ⟨_, rfl⟩
      subst hnn
      go_wp2_with fail
      go_loopw [87] (fun io wr => ∃ (t : Nat) (s : Mr (Mu.one p g1 g2)) (F : Nat → Prop) (L : List (List UInt8)), t ≤ n ∧ io = .int .i64 t ∧ LgA p g1 g2 bx g q w1 wr s F n 6 L (all ++ eld.take t) (2 * (3 * n) + 2 * t) ∧ Bz w1 wr F bR RC 73 ∧ Orow w w1 wr Ao n co eld ∧ (∀ j, (Value.slice Ao n co).ownBlock = some j → ¬F j)) (fun io _ => n - (intOf io).toNat)
      case atStart => exact ⟨0, s, F, L, Nat.zero_le _, rfl, by rw [List.take_zero, List.append_nil]; exact H.out.more (by have := HM3.out; omega), R.out, O.out, NF.out⟩
      case round =>
        clear H R O NF HB
        obtain ⟨t, s, F, L, ht, rfl, hh, hr, ho, hf⟩ := hrel
        have H := Lib.hid hh
        have R := Lib.hid hr
        have O := Lib.hid ho
        have NF := Lib.hid hf
        clear hh hr ho hf
        have HB := Lib.hid (HB1.out wr H.out.lg.live.bel)
        have c4 := (R.out.1.cell 4).trans HRC5.out.2.2.2.2
        by_cases hlt : t < n
        · have t0 : (t : Int) < (n : Int) := by omega
          have t1 : (0 : Int) ≤ (t : Int) := by omega
          have wt : IntKind.i64.wrap ((t : Int) + 1) = ((t + 1 : Nat) : Int) := by have h1 := HAB.out; rw [IntWalk.i64_in _ (by omega)]; omega
          have wt2 : wrap64 ((t : Int) + 1) = ((t + 1 : Nat) : Int) := by have h1 := HAB.out; unfold wrap64; omega
          obtain ⟨gO, B, d, hAo, hcO, hrB⟩ := O.out.at_ hlt
          subst hAo
          have hb3 : (eld.getD t []).length ≤ 103 := HALLE.out t hlt
          obtain ⟨tb, htb⟩ : ∃ tb, tb = eld.getD t [] := ⟨_, rfl⟩
          rw [← htb] at hcO hrB hb3
          have HTB := Lib.hid (And.intro htb hb3)
          have HRB := Lib.hid (show Rd wr.heap.size wr B (bv tb) from (hrB.below HB.out).more HB.out.size)
          have HLT := Lib.hid hlt
          clear htb hb3 hrB hlt ht
          go_wp2_with fail
          refine (lga_append H.out (by rw [List.length_append, List.length_take]; have h1 := HLN.out.2; have h2 := HLT.out; have h3 := HAB.out; omega) (by have h1 := HLT.out; have h4 := HAB.out; omega) B tb.length d tb rfl HTB.out.2 HRB.out).mono ?_
          rintro e w5 ⟨rfl, s5, F5, L5, hlg, hmv⟩
          have hsn : (all ++ eld.take t) ++ [tb] = all ++ eld.take (t + 1) := by
            have h1 := HEL.out.2
            have h2 := HLT.out
            rw [List.append_assoc, List.take_add_one, List.getElem?_eq_getElem (by omega), HTB.out.1, List.getD_eq_getElem?_getD, List.getElem?_eq_getElem (by omega)]; rfl
          rw [hsn] at hlg
          have H5 := Lib.hid (hlg.more (show 2 * (3 * n) + 2 * t + 2 ≤ 2 * (3 * n) + 2 * (t + 1) by omega))
          have R5 := Lib.hid (R.out.step hmv)
          have O5 := Lib.hid (O.out.but hmv.but NF.out)
          have NF5 := Lib.hid (show ∀ j, (Value.slice (some ⟨gO, 0, none⟩) n co).ownBlock = some j → ¬F5 j from fun k hk hf => (hmv.new k hf).elim (NF.out k hk) (fun h => by have := (O.out.lt hk).2; omega))
          clear hlg hmv H R O NF c4 hcO hsn HB
          go_wp2_with fail
          go_roundw
          case rel => exact ⟨t + 1, s5, F5, L5, by have := HLT.out; omega, rfl, H5.out, R5.out, O5.out, NF5.out⟩
          case measure => (have := HLT.out; simp only [intOf, Int.toNat_natCast]; omega)
        · obtain rfl : n = t := by omega
          clear hlt ht O NF
          have hfa : eld.take n = eld := List.take_of_length_le (Nat.le_of_eq HEL.out.2)
          have H' := H.out
          rw [hfa] at H'
          have HX := Lib.hid H'
          clear H H' hfa
          go_wp2_with fail
          refine (lga_flush HX.out).mono ?_
          rintro e w5 ⟨rfl, s5, F5, L5, hlg, hmv⟩
          have H5 := Lib.hid hlg
          have R5 := Lib.hid (R.out.step hmv)
          clear hlg hmv HX R c4 HB
          have c4 := (R5.out.1.cell 4).trans HRC5.out.2.2.2.2
          go_wp2_with fail
          refine (lga_free H5.out HAB.out (by rw [List.length_append]; have h1 := HLN.out.2; have h2 := HEL.out.2; omega)).mono ?_
          rintro e w6 ⟨rfl, s6, F6, L6, hlg, hmv⟩
          have H6 := Lib.hid hlg
          have R6 := Lib.hid (R5.out.step hmv)
          clear hlg hmv H5 R5 c4
          have wn1 : IntKind.i64.wrap ((n : Int) + 1) = ((n + 1 : Nat) : Int) := by have := HAB.out; rw [IntWalk.i64_in _ (by omega)]; omega
          have wn2 : wrap64 ((n : Int) + 1) = ((n + 1 : Nat) : Int) := by have := HAB.out; unfold wrap64; omega
          obtain ⟨N5, hN5⟩ : ∃ N5, N5 = n + 1 := ⟨_, rfl⟩
          rw [← hN5] at wn1 wn2
          have HN5 := Lib.hid hN5
          clear hN5
          go_wp2_with fail
          go_loopw [113] (fun io wr => ∃ (j : Nat) (s : Mr (Mu.one p g1 g2)) (F : Nat → Prop) (L : List (List UInt8)), j ≤ N5 ∧ io = .int .i64 j ∧ LgW p g1 g2 bx g q w1 wr s F n j L (all ++ eld) (2 * j) ∧ Bz w1 wr F bR RC 73) (fun io _ => N5 - (intOf io).toNat)
          case atStart => exact ⟨0, s6, F6, L6, Nat.zero_le _, rfl, H6.out, R6.out⟩
          case round =>
            clear H6 R6 wn1 wn2
            obtain ⟨j, s, F, L, hj, rfl, hh, hr⟩ := hrel
            have H := Lib.hid hh
            have R := Lib.hid hr
            clear hh hr
            have HB := Lib.hid (HB1.out wr H.out.lg.live.bel)
            have c4 := (R.out.1.cell 4).trans HRC5.out.2.2.2.2
            by_cases hlt : j < N5
            · have j0 : (j : Int) < (N5 : Int) := by omega
              have wj : IntKind.i64.wrap ((j : Int) + 1) = ((j + 1 : Nat) : Int) := by have := HAB.out; have := HN5.out; rw [IntWalk.i64_in _ (by omega)]; omega
              have wj2 : wrap64 ((j : Int) + 1) = ((j + 1 : Nat) : Int) := by have := HAB.out; have := HN5.out; unfold wrap64; omega
              have HLT := Lib.hid hlt
              clear hlt hj
              go_wp2_with fail
              refine (lgw_append H.out (by have := HLT.out; have := HN5.out; omega) (by have := HLT.out; have := HN5.out; have := HAB.out; omega) A2 n2 c2 l2 HL2.out HNB.out.2.2 ((HR2.out.below HB.out).more HB.out.size)).mono ?_
              rintro e w5 ⟨v, rfl, s5, F5, L5, hlg, hmv⟩
              have H5 := Lib.hid hlg
              have R5 := Lib.hid (R.out.step hmv)
              clear hlg hmv H R c4 HB
              go_wp2_with fail
              go_roundw
              case rel => exact ⟨j + 1, s5, F5, L5, by have := HLT.out; omega, rfl, H5.out, R5.out⟩
              case measure => (have := HLT.out; simp only [intOf, Int.toNat_natCast]; omega)
            · obtain rfl : N5 = j := by omega
              clear hlt hj
              go_wp2_with fail
              refine (lgw_flush H.out).mono ?_
              rintro e w5 ⟨rfl, s5, F5, hlg, hmv⟩
              have H5 := Lib.hid hlg
              have R5 := Lib.hid (R.out.step hmv)
              clear hlg hmv H R c4 HB
              have hzl : ∀ W, (zeroValue 111).run Try.prog W = .ok (.agg zeroLit) W := fun _ => by kernel_rfl
              go_wp2_with fail
              obtain ⟨FD, FO, hld, -, -, hdf, -⟩ := lgm_split H5.out.lg
              have hld : Mu.LD p g1 g2 w1 w5 s5.d FD L L false false 0 := hld
              obtain ⟨w6, hw6⟩ : ∃ W, W = w5.drew := ⟨_, rfl⟩
              have bd : Below w5.heap.size w5 w6 := by rw [hw6]; exact (Below.refl _ _).drew
              have D6 := Lib.hid (Mu.LD.below hld bd)
              have Y6 := Lib.hid (show Blk w6 bR RC 73 from R5.out.1.below bd)
              have HFD := Lib.hid (show ¬FD bR ∧ w1.heap.size ≤ bR from ⟨fun h => R5.out.2.2 (hdf bR h), R5.out.2.1⟩)
              have HW := Lib.hid (show L.length = 2 + 6 * n ∧ ∀ t, n ≤ t → t < 4 * n → seenA litSumL L (2 + t) = some (t / n + 1, (all ++ eld).getD t []) from ⟨H5.out.len, H5.out.has⟩)
              clear H5 hld hdf bd
              refine wp_region_held_drew (S := (fun w' => w'.cell? ⟨bR, 1, none⟩ = some (.pointer (some ⟨g1, 0, none⟩)) ∧ w'.cell? ⟨bR, 2, none⟩ = some (.pointer (some ⟨g2, 0, none⟩)) ∧ w'.cell? ⟨bR, 5, none⟩ = some (.int .i64 6) ∧ w'.cell? ⟨bR, 6, none⟩ = some (.int .i64 (n : Int)))) (by kernel_rfl) (by rw [← hw6]; exact ⟨(Y6.out.cell 1).trans HRC5.out.2.2.1, (Y6.out.cell 2).trans HRC5.out.2.2.2.1, (Y6.out.cell 5).trans HRC5.out.1, (Y6.out.cell 6).trans HRC5.out.2.1⟩) (fun hh => ?_)
              rw [← hw6] at hh ⊢
              have HH := Lib.hid hh
              clear hh hw6 R5
              try simp only [List.getElem_toArray, List.getElem_cons_succ, List.getElem_cons_zero, Act.put, List.setIfInBounds_toArray, List.set_cons_zero, List.set_cons_succ]
              refine wpAnyH_take (i := 0) (v := ?vE0) rfl (by kernel_rfl) (by kernel_rfl) (by kernel_rfl) (fun _ _ _ h => h) (Or.inl ⟨by rfl, fun w' _ => ?yE0⟩) HH.out ?_
              case yE0 => (go_simp; try with_reducible rfl)
              try simp only [List.getElem_toArray, List.getElem_cons_zero, Act.put, List.setIfInBounds_toArray, List.set_cons_zero, List.set_cons_succ]
              refine wpAnyH_take (i := 2) (v := ?vE2) rfl (by kernel_rfl) (by kernel_rfl) (by kernel_rfl) (fun _ _ _ h => h) (Or.inl ⟨by rfl, fun w' _ => ?yE2⟩) HH.out ?_
              case yE2 => (go_simp; try with_reducible rfl)
              try simp only [List.getElem_toArray, List.getElem_cons_succ, List.getElem_cons_zero, Act.put, List.setIfInBounds_toArray, List.set_cons_zero, List.set_cons_succ]
              refine wpAnyH_take (i := 10) (v := ?vE10) rfl (by kernel_rfl) (by kernel_rfl) (by kernel_rfl) (fun _ _ _ h => h) (Or.inl ⟨by rfl, fun w' _ => ?yE10⟩) HH.out ?_
              case yE10 => (go_simp; try with_reducible rfl)
              try simp only [List.getElem_toArray, List.getElem_cons_succ, List.getElem_cons_zero, Act.put, List.setIfInBounds_toArray, List.set_cons_zero, List.set_cons_succ]
              refine wpAnyH_take (i := 1) (v := .pointer (some ⟨g1, 0, none⟩)) rfl (by kernel_rfl) (by kernel_rfl) (by kernel_rfl) (fun _ _ _ h => h) (Or.inl ⟨by rfl, fun w' hw' => ?yE1⟩) HH.out ?_
              case yE1 => ((have hc := hw'.1); go_simp; try with_reducible rfl)
              try simp only [List.getElem_toArray, List.getElem_cons_succ, List.getElem_cons_zero, Act.put, List.setIfInBounds_toArray, List.set_cons_zero, List.set_cons_succ]
              refine wpAnyH_take (i := 3) (v := .pointer (some ⟨g2, 0, none⟩)) rfl (by kernel_rfl) (by kernel_rfl) (by kernel_rfl) (fun _ _ _ h => h) (Or.inl ⟨by rfl, fun w' hw' => ?yE3⟩) HH.out ?_
              case yE3 => ((have hc := hw'.2.1); go_simp; try with_reducible rfl)
              try simp only [List.getElem_toArray, List.getElem_cons_succ, List.getElem_cons_zero, Act.put, List.setIfInBounds_toArray, List.set_cons_zero, List.set_cons_succ]
              refine wpAnyH_take (i := 11) (v := .agg #[.int .i64 6, .int .i64 (n : Int)]) rfl (by kernel_rfl) (by kernel_rfl) (by kernel_rfl) (fun _ _ _ h => h) (Or.inl ⟨by rfl, fun w' hw' => ?yE11⟩) HH.out ?_
              case yE11 => ((have hc := hw'.2.2.1; have hc2 := hw'.2.2.2); go_simp; try with_reducible rfl)
              try simp only [List.getElem_toArray, List.getElem_cons_succ, List.getElem_cons_zero, Act.put, List.setIfInBounds_toArray, List.set_cons_zero, List.set_cons_succ]
              refine wpAnyH_take (i := 4) (v := .agg zeroLit) rfl (by kernel_rfl) (by kernel_rfl) (by kernel_rfl) (fun _ _ _ h => h) (Or.inl ⟨by rfl, fun w' hw' => ?yE4⟩) HH.out ?_
              case yE4 => (go_simp; try with_reducible rfl)
              try simp only [List.getElem_toArray, List.getElem_cons_succ, List.getElem_cons_zero, Act.put, List.setIfInBounds_toArray, List.set_cons_zero, List.set_cons_succ]
              refine wpAnyH_take (i := 8) (v := .agg zeroLit) rfl (by kernel_rfl) (by kernel_rfl) (by kernel_rfl) (fun _ _ _ h => h) (Or.inl ⟨by rfl, fun w' hw' => ?yE8⟩) HH.out ?_
              case yE8 => (go_simp; try with_reducible rfl)
              try simp only [List.getElem_toArray, List.getElem_cons_succ, List.getElem_cons_zero, Act.put, List.setIfInBounds_toArray, List.set_cons_zero, List.set_cons_succ]
              refine wpAnyH_take (i := 5) (v := ?vE5) rfl (by kernel_rfl) (by kernel_rfl) (by kernel_rfl) (fun _ _ _ h => h) (Or.inl ⟨by rfl, fun w' _ => ?yE5⟩) HH.out ?_
              case yE5 => (go_simp; try with_reducible rfl)
              try simp only [List.getElem_toArray, List.getElem_cons_succ, List.getElem_cons_zero, Act.put, List.setIfInBounds_toArray, List.set_cons_zero, List.set_cons_succ]
              refine wpAnyH_take (i := 9) (v := ?vE9) rfl (by kernel_rfl) (by kernel_rfl) (by kernel_rfl) (fun _ _ _ h => h) (Or.inl ⟨by rfl, fun w' _ => ?yE9⟩) HH.out ?_
              case yE9 => (go_simp; try with_reducible rfl)
              try simp only [List.getElem_toArray, List.getElem_cons_succ, List.getElem_cons_zero, Act.put, List.setIfInBounds_toArray, List.set_cons_zero, List.set_cons_succ]
              refine wpAnyH_ready (rs := [6]) (by kernel_rfl) (by simp) (AllReadyH.cons rfl (fun K hK => ?_) AllReadyH.nil)
              go_simp
              refine (good_iface 111 (.agg zeroLit) _).mono ?_
              rintro e w7 ⟨rfl, hw7⟩
              obtain ⟨bG, hbG⟩ : ∃ v, v = w6.heap.size := ⟨_, rfl⟩
              rw [← hbG]
              have bw : Below w6.heap.size w6 w7 := by rw [hw7]; exact (Below.refl _ _).alloc (Nat.le_refl _) _
              have HBG := Lib.hid (show Blk w7 bG #[litS.v] 152 by rw [hw7, hbG]; exact heap_alloc_new _ _)
              have NG := Lib.hid (show ¬FD bG ∧ w1.heap.size ≤ bG ∧ w6.heap.size ≤ bG from ⟨fun hf => by have := (Mu.one p g1 g2).L.lt D6.out.live.at_ bG hf; omega, by rw [hbG]; exact D6.out.live.bel.size, by rw [hbG]; exact Nat.le_refl _⟩)
              have D7 := Lib.hid (Mu.LD.below D6.out bw)
              have Y7 := Lib.hid (Y6.out.below bw)
              clear bw hw7 hbG
              go_simp
              refine hK.out _ _ ⟨(Y7.out.cell 1).trans HRC5.out.2.2.1, (Y7.out.cell 2).trans HRC5.out.2.2.2.1, (Y7.out.cell 5).trans HRC5.out.1, (Y7.out.cell 6).trans HRC5.out.2.1⟩ (fun hh => ?_)
              have HH' := Lib.hid hh
              clear hh hK K HH D6 Y6
              have HH := Lib.hid HH'.out
              clear HH'
              try simp only [List.getElem_toArray, List.getElem_cons_succ, List.getElem_cons_zero, Act.put, List.setIfInBounds_toArray, List.set_cons_zero, List.set_cons_succ]
              refine wpAnyH_ready (rs := [7]) (by kernel_rfl) (by simp) (AllReadyH.cons rfl (fun K hK => ?_) AllReadyH.nil)
              go_simp
              refine (lm_newB (G := gdS litS bG) (fun _ _ _ _ _ _ => trivial) D7.out (fun y hy => by rw [show (gdS litS bG).l = [(bG, #[litS.v], 152)] from rfl, List.mem_singleton] at hy; subst hy; exact ⟨HBG.out, NG.out.1, NG.out.2.1⟩) (n := 2 + 6 * n) HW.out.1 HW.out.1).mono ?_
              rintro e w8 ⟨gm, s8, F8, rfl, h, hf, hb⟩
              have D8 := Lib.hid (show Mu.LM p g1 g2 (gdS litS bG) gm w1 w8 s8 F8 (Sc.startM L L (2 + 6 * n)) 0 from h)
              have hmem : ∀ k, (∃ y ∈ (gdS litS bG).l, k = y.1) → k = bG := fun k hk => by obtain ⟨y, hy, e⟩ := hk; rw [show (gdS litS bG).l = [(bG, #[litS.v], 152)] from rfl, List.mem_singleton] at hy; rw [e, hy]
              have Y8 := Lib.hid (Y7.out.but hb (fun hx => hx.elim HFD.out.1 (fun h => by have h1 := hmem _ h; have h2 := HBG.out; rw [← h1] at h2; have h3 : w7.heap[bR]? = some (.cells RC 73 (0, 0)) := Y7.out; have h4 : w7.heap[bR]? = some (.cells #[litS.v] 152 (0, 0)) := h2; rw [h3] at h4; injection h4 with h4; injection h4 with _ h4; exact absurd h4 (by decide))))
              have N8 := Lib.hid (show ¬F8 bR from fun hx => (hf bR hx).elim (fun hx => hx.elim HFD.out.1 (fun h => by have h1 := hmem _ h; have h2 := HBG.out; rw [← h1] at h2; have h3 : w7.heap[bR]? = some (.cells RC 73 (0, 0)) := Y7.out; have h4 : w7.heap[bR]? = some (.cells #[litS.v] 152 (0, 0)) := h2; rw [h3] at h4; injection h4 with h4; injection h4 with _ h4; exact absurd h4 (by decide))) (fun h => by have := Y7.out.lt; omega))
              clear h hf hb hmem
              go_simp
              refine hK.out _ _ ⟨(Y8.out.cell 1).trans HRC5.out.2.2.1, (Y8.out.cell 2).trans HRC5.out.2.2.2.1, (Y8.out.cell 5).trans HRC5.out.1, (Y8.out.cell 6).trans HRC5.out.2.1⟩ (fun hh => ?_)
              have HH' := Lib.hid hh
              clear hh hK K HH D7 Y7 HBG NG
              have HH := Lib.hid HH'.out
              clear HH'
              try simp only [List.getElem_toArray, List.getElem_cons_succ, List.getElem_cons_zero, Act.put, List.setIfInBounds_toArray, List.set_cons_zero, List.set_cons_succ]
              refine wpAnyH_ready (rs := [12]) (by kernel_rfl) (by simp) (AllReadyH.cons rfl (fun K hK => ?_) AllReadyH.nil)
              go_simp
              refine (open_found (a := 6) (sz := n) D8.out HW.out.1 HW.out.1 (by omega) HOK.out (Nat.le_refl _)).mono ?_
              rintro e w9 ⟨qn, Af, kf, cf, fd, FF, rfl, hfd, hp, hkf, hb⟩
              have FD9 := Lib.hid hfd
              have PM := Lib.hid hp
              have KF := Lib.hid hkf
              have Y9 := Lib.hid (Y8.out.but hb N8.out)
              have B9 := Lib.hid (show Below w1.heap.size w1 w9 from D8.out.live.bel.trans (hb.below (fun j hj hF => by have := D8.out.live.new j hF; omega) D8.out.live.bel.size))
              clear hfd hp hkf hb
              go_simp
              refine hK.out _ _ ⟨(Y9.out.cell 1).trans HRC5.out.2.2.1, (Y9.out.cell 2).trans HRC5.out.2.2.2.1, (Y9.out.cell 5).trans HRC5.out.1, (Y9.out.cell 6).trans HRC5.out.2.1⟩ (fun hh => ?_)
              have HH' := Lib.hid hh
              clear hh hK K HH D8 Y8 N8
              have HH := Lib.hid HH'.out
              clear HH'
              try simp only [List.getElem_toArray, List.getElem_cons_succ, List.getElem_cons_zero, Act.put, List.setIfInBounds_toArray, List.set_cons_zero, List.set_cons_succ]
              refine wpAnyH_take (i := 13) (v := ?vG13) rfl (by kernel_rfl) (by kernel_rfl) (by kernel_rfl) (fun _ _ _ h => h) (Or.inl ⟨by rfl, fun w' _ => ?yG13⟩) HH.out ?_
              case yG13 => (go_simp; try with_reducible rfl)
              try simp only [List.getElem_toArray, List.getElem_cons_succ, List.getElem_cons_zero, Act.put, List.setIfInBounds_toArray, List.set_cons_zero, List.set_cons_succ]
              refine wpAnyH_take (i := 14) (v := ?vG14) rfl (by kernel_rfl) (by kernel_rfl) (by kernel_rfl) (fun _ _ _ h => h) (Or.inl ⟨by rfl, fun w' _ => ?yG14⟩) HH.out ?_
              case yG14 => (go_simp; try with_reducible rfl)
              try simp only [List.getElem_toArray, List.getElem_cons_succ, List.getElem_cons_zero, Act.put, List.setIfInBounds_toArray, List.set_cons_zero, List.set_cons_succ]
              refine wpAnyH_take (i := 15) (v := ?vG15) rfl (by kernel_rfl) (by kernel_rfl) (by kernel_rfl) (fun _ _ _ h => h) (Or.inl ⟨by rfl, fun w' _ => ?yG15⟩) HH.out ?_
              case yG15 => (go_simp; try with_reducible rfl)
              try simp only [List.getElem_toArray, List.getElem_cons_succ, List.getElem_cons_zero, Act.put, List.setIfInBounds_toArray, List.set_cons_zero, List.set_cons_succ]
              refine wpAnyH_take (i := 16) (v := ?vG16) rfl (by kernel_rfl) (by kernel_rfl) (by kernel_rfl) (fun _ _ _ h => h) (Or.inl ⟨by rfl, fun w' _ => ?yG16⟩) HH.out ?_
              case yG16 => (go_simp; try with_reducible rfl)
              try simp only [List.getElem_toArray, List.getElem_cons_succ, List.getElem_cons_zero, Act.put, List.setIfInBounds_toArray, List.set_cons_zero, List.set_cons_succ]
              refine wpAnyH_take (i := 17) (v := ?vG17) rfl (by kernel_rfl) (by kernel_rfl) (by kernel_rfl) (fun _ _ _ h => h) (Or.inl ⟨by rfl, fun w' _ => ?yG17⟩) HH.out ?_
              case yG17 => (go_simp; try with_reducible rfl)
              try simp only [List.getElem_toArray, List.getElem_cons_succ, List.getElem_cons_zero, Act.put, List.setIfInBounds_toArray, List.set_cons_zero, List.set_cons_succ]
              refine wpAnyH_take (i := 18) (v := ?vG18) rfl (by kernel_rfl) (by kernel_rfl) (by kernel_rfl) (fun _ _ _ h => h) (Or.inl ⟨by rfl, fun w' _ => ?yG18⟩) HH.out ?_
              case yG18 => (go_simp; try with_reducible rfl)
              try simp only [List.getElem_toArray, List.getElem_cons_succ, List.getElem_cons_zero, Act.put, List.setIfInBounds_toArray, List.set_cons_zero, List.set_cons_succ]
              refine wpAnyH_take (i := 19) (v := ?vG19) rfl (by kernel_rfl) (by kernel_rfl) (by kernel_rfl) (fun _ _ _ h => h) (Or.inl ⟨by rfl, fun w' _ => ?yG19⟩) HH.out ?_
              case yG19 => (go_simp; try with_reducible rfl)
              try simp only [List.getElem_toArray, List.getElem_cons_succ, List.getElem_cons_zero, Act.put, List.setIfInBounds_toArray, List.set_cons_zero, List.set_cons_succ]
              refine wpAnyH_done (by kernel_rfl) ?_ _
              clear HH Y9 HFD
              have HFND := Lib.hid (show ∀ i, i < M3 → ∃ (k : Nat) (x : Lo.Fd), fd[k]? = some x ∧ x.b = l1.getD (i % N1) [] from fun i hi => by
                have h3 := HM3.out
                obtain ⟨t, h1, h2, he⟩ := moves_at HLN.out.2 (i := i) (by omega)
                rw [← HEL.out.1] at he
                obtain ⟨k, x, hk, hx⟩ := found_has PM.out (HW.out.2 t h1 h2) (by omega)
                exact ⟨k, x, hk, by rw [hx]; exact he.trans (HALL.out i hi).1⟩)
              have HFL := Lib.hid (show fd.length = kf from fd_len FD9.out)
              clear HW PM HEL HLN HALL HALLE
              have w3n := H3N.out
              go_wp2_with fail
              clear w3n
              go_loopw [150] (fun io wr => ∃ i : Nat, i ≤ M3 ∧ io = .int .i64 i ∧ Below w1.heap.size w1 wr ∧ (FdL Af kf cf).At wr fd FF) (fun io _ => M3 - (intOf io).toNat)
              case atStart => exact ⟨0, Nat.zero_le _, rfl, B9.out, FD9.out⟩
              case round =>
                clear B9 FD9
                obtain ⟨i, hi, rfl, hb, hfd⟩ := hrel
                have B := Lib.hid hb
                have FDx := Lib.hid hfd
                clear hb hfd
                by_cases hlt : i < M3
                · have i0 : (i : Int) < (M3 : Int) := by omega
                  have HLT := Lib.hid hlt
                  clear hlt hi
                  go_wp2_with fail
                  obtain ⟨tb, htb⟩ : ∃ tb, tb = l1.getD (i % N1) [] := ⟨_, rfl⟩
                  have HTB := Lib.hid htb
                  clear htb
                  obtain ⟨wo, hwo⟩ : ∃ v, v = wr := ⟨_, rfl⟩
                  subst hwo
                  go_loopw [25, 155] (fun v io wr => ∃ t : Nat, t ≤ kf ∧ io = .int .i64 t ∧ v = .bool ((fd.take t).any fun x => decide (x.b = tb)) ∧ Below w1.heap.size w1 wr ∧ (FdL Af kf cf).At wr fd FF) (fun _ io _ => kf - (intOf io).toNat)
                  case atStart => exact ⟨0, Nat.zero_le _, rfl, rfl, B.out, FDx.out⟩
                  case round =>
                    clear B FDx i0
                    obtain ⟨t, ht, rfl, rfl, hb, hfd⟩ := hrel
                    have B := Lib.hid hb
                    have FDx := Lib.hid hfd
                    clear hb hfd
                    by_cases hlt : t < kf
                    · have t0 : (t : Int) < (kf : Int) := by omega
                      have t1 : (0 : Int) ≤ (t : Int) := by omega
                      have wt : IntKind.i64.wrap ((t : Int) + 1) = ((t + 1 : Nat) : Int) := by have := KF.out; rw [IntWalk.i64_in _ (by omega)]; omega
                      have wt2 : wrap64 ((t : Int) + 1) = ((t + 1 : Nat) : Int) := by have := KF.out; unfold wrap64; omega
                      obtain ⟨gA, x0, hA, hx0, hc0, hc1, hc2, hrd⟩ := fd_at FDx.out hlt
                      subst hA
                      have hnx : ((fd.take (t + 1)).any fun x => decide (x.b = tb)) = (((fd.take t).any fun x => decide (x.b = tb)) || decide (x0.b = tb)) := by
                        rw [List.take_add_one, hx0, List.any_append]
                        simp
                      have HNX := Lib.hid hnx
                      obtain ⟨vb, hvb⟩ : ∃ vb, vb = (fd.take t).any fun x => decide (x.b = tb) := ⟨_, rfl⟩
                      rw [← hvb] at HNX ⊢
                      obtain ⟨xb, hxb⟩ : ∃ v, v = x0.b := ⟨_, rfl⟩
                      obtain ⟨xA, hxA⟩ : ∃ v, v = x0.A := ⟨_, rfl⟩
                      obtain ⟨xc, hxc⟩ : ∃ v, v = x0.c := ⟨_, rfl⟩
                      obtain ⟨xg, hxg⟩ : ∃ v, v = x0.gen := ⟨_, rfl⟩
                      obtain ⟨xt, hxt⟩ : ∃ v, v = x0.at_ := ⟨_, rfl⟩
                      rw [← hxb] at HNX
                      rw [← hxt] at hc0
                      rw [← hxg] at hc1
                      rw [← hxA, ← hxb, ← hxc] at hc2
                      rw [← hxA, ← hxb] at hrd
                      have HRX := Lib.hid hrd
                      have HLT2 := Lib.hid hlt
                      clear hx0 hrd hnx hvb hlt ht hxb hxA hxc hxg hxt
                      go_wp2_with fail
                      obtain ⟨bF, hbF⟩ : ∃ v, v = wr.heap.size := ⟨_, rfl⟩
                      obtain ⟨w12, hw12⟩ : ∃ v, v = wr.alloc (.cells #[.int .i64 (xt : Int), .int .u64 (xg : Int), .slice xA xb.length xc] 113) := ⟨_, rfl⟩
                      rw [← hw12, ← hbF]
                      have bw : Below wr.heap.size wr w12 := by rw [hw12]; exact (Below.refl _ _).alloc (Nat.le_refl _) _
                      have XF := Lib.hid (show Blk w12 bF #[.int .i64 (xt : Int), .int .u64 (xg : Int), .slice xA xb.length xc] 113 by rw [hw12, hbF]; exact heap_alloc_new _ _)
                      have FD12 := Lib.hid ((FdL _ kf cf).below FDx.out bw)
                      have B12 := Lib.hid (B.out.trans (bw.mono B.out.size))
                      have HRX12 := Lib.hid ((HRX.out.below bw).more bw.size)
                      clear bw hw12 hbF FDx B hc0 hc1 hc2 HRX
                      cases vb
                      case true =>
                        refine wp_region_held_drew (S := fun _ => True) (by kernel_rfl) trivial (fun hh => ?_)
                        have HH := Lib.hid hh
                        clear hh
                        try simp only [List.getElem_toArray, List.getElem_cons_succ, List.getElem_cons_zero, Act.put, List.setIfInBounds_toArray, List.set_cons_zero, List.set_cons_succ]
                        refine wpAnyH_take (i := 0) (v := ?vU0) rfl (by kernel_rfl) (by kernel_rfl) (by kernel_rfl) (fun _ _ _ h => h) (Or.inl ⟨by rfl, fun w' _ => ?yU0⟩) HH.out ?_
                        case yU0 => (go_simp; try with_reducible rfl)
                        try simp only [List.getElem_toArray, List.getElem_cons_zero, Act.put, List.setIfInBounds_toArray, List.set_cons_zero, List.set_cons_succ]
                        refine wpAnyH_take (i := 1) (v := ?vU1) rfl (by kernel_rfl) (by kernel_rfl) (by kernel_rfl) (fun _ _ _ h => h) (Or.inl ⟨by rfl, fun w' _ => ?yU1⟩) HH.out ?_
                        case yU1 => (go_simp; try with_reducible rfl)
                        try simp only [List.getElem_toArray, List.getElem_cons_succ, List.getElem_cons_zero, Act.put, List.setIfInBounds_toArray, List.set_cons_zero, List.set_cons_succ]
                        refine wpAnyH_take (i := 2) (v := undef) rfl (by kernel_rfl) (by kernel_rfl) (by kernel_rfl) (fun _ _ _ h => h) (Or.inr ⟨by rfl, rfl⟩) HH.out ?_
                        try simp only [List.getElem_toArray, List.getElem_cons_succ, List.getElem_cons_zero, Act.put, List.setIfInBounds_toArray, List.set_cons_zero, List.set_cons_succ]
                        refine wpAnyH_take (i := 3) (v := undef) rfl (by kernel_rfl) (by kernel_rfl) (by kernel_rfl) (fun _ _ _ h => h) (Or.inr ⟨by rfl, rfl⟩) HH.out ?_
                        try simp only [List.getElem_toArray, List.getElem_cons_succ, List.getElem_cons_zero, Act.put, List.setIfInBounds_toArray, List.set_cons_zero, List.set_cons_succ]
                        refine wpAnyH_take (i := 4) (v := undef) rfl (by kernel_rfl) (by kernel_rfl) (by kernel_rfl) (fun _ _ _ h => h) (Or.inr ⟨by rfl, rfl⟩) HH.out ?_
                        try simp only [List.getElem_toArray, List.getElem_cons_succ, List.getElem_cons_zero, Act.put, List.setIfInBounds_toArray, List.set_cons_zero, List.set_cons_succ]
                        refine wpAnyH_take (i := 5) (v := undef) rfl (by kernel_rfl) (by kernel_rfl) (by kernel_rfl) (fun _ _ _ h => h) (Or.inr ⟨by rfl, rfl⟩) HH.out ?_
                        try simp only [List.getElem_toArray, List.getElem_cons_succ, List.getElem_cons_zero, Act.put, List.setIfInBounds_toArray, List.set_cons_zero, List.set_cons_succ]
                        refine wpAnyH_take (i := 6) (v := undef) rfl (by kernel_rfl) (by kernel_rfl) (by kernel_rfl) (fun _ _ _ h => h) (Or.inr ⟨by rfl, rfl⟩) HH.out ?_
                        try simp only [List.getElem_toArray, List.getElem_cons_succ, List.getElem_cons_zero, Act.put, List.setIfInBounds_toArray, List.set_cons_zero, List.set_cons_succ]
                        refine wpAnyH_take (i := 7) (v := undef) rfl (by kernel_rfl) (by kernel_rfl) (by kernel_rfl) (fun _ _ _ h => h) (Or.inr ⟨by rfl, rfl⟩) HH.out ?_
                        try simp only [List.getElem_toArray, List.getElem_cons_succ, List.getElem_cons_zero, Act.put, List.setIfInBounds_toArray, List.set_cons_zero, List.set_cons_succ]
                        refine wpAnyH_take (i := 8) (v := undef) rfl (by kernel_rfl) (by kernel_rfl) (by kernel_rfl) (fun _ _ _ h => h) (Or.inr ⟨by rfl, rfl⟩) HH.out ?_
                        try simp only [List.getElem_toArray, List.getElem_cons_succ, List.getElem_cons_zero, Act.put, List.setIfInBounds_toArray, List.set_cons_zero, List.set_cons_succ]
                        refine wpAnyH_take (i := 9) (v := undef) rfl (by kernel_rfl) (by kernel_rfl) (by kernel_rfl) (fun _ _ _ h => h) (Or.inr ⟨by rfl, rfl⟩) HH.out ?_
                        try simp only [List.getElem_toArray, List.getElem_cons_succ, List.getElem_cons_zero, Act.put, List.setIfInBounds_toArray, List.set_cons_zero, List.set_cons_succ]
                        refine wpAnyH_take (i := 10) (v := undef) rfl (by kernel_rfl) (by kernel_rfl) (by kernel_rfl) (fun _ _ _ h => h) (Or.inr ⟨by rfl, rfl⟩) HH.out ?_
                        try simp only [List.getElem_toArray, List.getElem_cons_succ, List.getElem_cons_zero, Act.put, List.setIfInBounds_toArray, List.set_cons_zero, List.set_cons_succ]
                        refine wpAnyH_take (i := 11) (v := undef) rfl (by kernel_rfl) (by kernel_rfl) (by kernel_rfl) (fun _ _ _ h => h) (Or.inr ⟨by rfl, rfl⟩) HH.out ?_
                        try simp only [List.getElem_toArray, List.getElem_cons_succ, List.getElem_cons_zero, Act.put, List.setIfInBounds_toArray, List.set_cons_zero, List.set_cons_succ]
                        refine wpAnyH_take (i := 12) (v := undef) rfl (by kernel_rfl) (by kernel_rfl) (by kernel_rfl) (fun _ _ _ h => h) (Or.inr ⟨by rfl, rfl⟩) HH.out ?_
                        try simp only [List.getElem_toArray, List.getElem_cons_succ, List.getElem_cons_zero, Act.put, List.setIfInBounds_toArray, List.set_cons_zero, List.set_cons_succ]
                        refine wpAnyH_take (i := 13) (v := undef) rfl (by kernel_rfl) (by kernel_rfl) (by kernel_rfl) (fun _ _ _ h => h) (Or.inr ⟨by rfl, rfl⟩) HH.out ?_
                        try simp only [List.getElem_toArray, List.getElem_cons_succ, List.getElem_cons_zero, Act.put, List.setIfInBounds_toArray, List.set_cons_zero, List.set_cons_succ]
                        refine wpAnyH_take (i := 14) (v := ?vU14) rfl (by kernel_rfl) (by kernel_rfl) (by kernel_rfl) (fun _ _ _ h => h) (Or.inl ⟨by rfl, fun w' _ => ?yU14⟩) HH.out ?_
                        case yU14 => (go_simp; try with_reducible rfl)
                        try simp only [List.getElem_toArray, List.getElem_cons_succ, List.getElem_cons_zero, Act.put, List.setIfInBounds_toArray, List.set_cons_zero, List.set_cons_succ]
                        refine wpAnyH_take (i := 15) (v := ?vU15) rfl (by kernel_rfl) (by kernel_rfl) (by kernel_rfl) (fun _ _ _ h => h) (Or.inl ⟨by rfl, fun w' _ => ?yU15⟩) HH.out ?_
                        case yU15 => (go_simp; try with_reducible rfl)
                        try simp only [List.getElem_toArray, List.getElem_cons_succ, List.getElem_cons_zero, Act.put, List.setIfInBounds_toArray, List.set_cons_zero, List.set_cons_succ]
                        refine wpAnyH_done (by kernel_rfl) ?_ _
                        have bd : Below w12.heap.size w12 w12.drew := (Below.refl _ _).drew
                        obtain ⟨w14, hw14⟩ : ∃ v, v = w12.drew := ⟨_, rfl⟩
                        rw [← hw14] at bd ⊢
                        clear HH hw14
                        have FD14 := Lib.hid ((FdL _ kf cf).below FD12.out bd)
                        have B14 := Lib.hid (B12.out.trans (bd.mono B12.out.size))
                        clear bd FD12 B12 HRX12 XF
                        go_wp2_with fail
                        go_roundw
                        case rel => exact ⟨t + 1, by have := HLT2.out; omega, rfl, by rw [HNX.out]; rfl, B14.out, FD14.out⟩
                        case measure => (have := HLT2.out; simp only [intOf, Int.toNat_natCast]; omega)
                      case false =>
                        obtain ⟨r, hr⟩ : ∃ r, r = i % N1 := ⟨_, rfl⟩
                        have nz : (N1 : Int) ≠ 0 := by have := HNB.out; omega
                        have nz2 : (N1 = 0) = False := eq_false (by have := HNB.out; omega)
                        have qr : (i : Int).tmod (N1 : Int) = (r : Int) := by rw [hr, Int.tmod_eq_emod_of_nonneg (by omega)]; exact (Int.natCast_emod i N1).symm
                        have hrN : r < N1 := by rw [hr]; exact Nat.mod_lt _ (by have := HNB.out; omega)
                        have r0 : (0 : Int) ≤ (r : Int) := by omega
                        have r1 : (r : Int) < (N1 : Int) := by omega
                        obtain ⟨ad, B, d, hA, hab, hcb, hbd, hdm, hrb⟩ := RdB.at_ HR1.out (k := r) (by rw [HL1.out]; exact hrN)
                        subst hA
                        have ht2 : l1[r]'(by rw [HL1.out]; exact hrN) = tb := by rw [HTB.out, ← hr, List.getD_eq_getElem?_getD, List.getElem?_eq_getElem (by rw [HL1.out]; exact hrN)]; rfl
                        rw [ht2] at hcb hbd hrb
                        have HB := Lib.hid (HB1.out w12 B12.out)
                        have HRB := Lib.hid (show Rd w.heap.size w12 B (bv tb) from hrb.below HB.out)
                        have HCB := Lib.hid (show w12.cell? (ad.add r) = some (.slice B tb.length d) from (HB.out.cell (by rw [add_block]; exact hab)).trans hcb)
                        clear hcb hrb hbd hdm hab ht2 hr hrN
                        obtain ⟨Z, hZ⟩ : ∃ Z : ByteArray, Z = ⟨tb.toArray⟩ := ⟨_, rfl⟩
                        have HZ := Lib.hid hZ
                        clear hZ
                        by_cases hxe : xb = tb
                        · have HZx := Lib.hid (show Z = ⟨xb.toArray⟩ by rw [hxe]; exact HZ.out)
                          have HXE := Lib.hid hxe
                          clear hxe
                          refine wp_region_held_drew (S := (fun w' => w'.cell? ⟨bF, 2, none⟩ = some (.slice xA xb.length xc) ∧ w'.cell? (ad.add r) = some (.slice B tb.length d) ∧ Rd w12.heap.size w' xA (bv xb) ∧ Rd w.heap.size w' B (bv tb))) (by kernel_rfl) ⟨(show (World.drew _).cell? _ = _ from XF.out.cell 2), (show (World.drew _).cell? _ = _ from HCB.out), HRX12.out.drewN 1, HRB.out.drewN 1⟩ (fun hh => ?_)
                          have HH := Lib.hid hh
                          clear hh
                          try simp only [List.getElem_toArray, List.getElem_cons_succ, List.getElem_cons_zero, Act.put, List.setIfInBounds_toArray, List.set_cons_zero, List.set_cons_succ]
                          refine wpAnyH_take (i := 0) (v := ?vQ0) rfl (by kernel_rfl) (by kernel_rfl) (by kernel_rfl) (fun _ _ _ h => h) (Or.inl ⟨by rfl, fun w' _ => ?yQ0⟩) HH.out ?_
                          case yQ0 => (go_simp; try with_reducible rfl)
                          try simp only [List.getElem_toArray, List.getElem_cons_zero, Act.put, List.setIfInBounds_toArray, List.set_cons_zero, List.set_cons_succ]
                          refine wpAnyH_take (i := 1) (v := ?vQ1) rfl (by kernel_rfl) (by kernel_rfl) (by kernel_rfl) (fun _ _ _ h => h) (Or.inl ⟨by rfl, fun w' _ => ?yQ1⟩) HH.out ?_
                          case yQ1 => (go_simp; try with_reducible rfl)
                          try simp only [List.getElem_toArray, List.getElem_cons_succ, List.getElem_cons_zero, Act.put, List.setIfInBounds_toArray, List.set_cons_zero, List.set_cons_succ]
                          refine wpAnyH_take (i := 2) (v := ?vQ2) rfl (by kernel_rfl) (by kernel_rfl) (by kernel_rfl) (fun _ _ _ h => h) (Or.inl ⟨by rfl, fun w' _ => ?yQ2⟩) HH.out ?_
                          case yQ2 => (go_simp; try with_reducible rfl)
                          try simp only [List.getElem_toArray, List.getElem_cons_succ, List.getElem_cons_zero, Act.put, List.setIfInBounds_toArray, List.set_cons_zero, List.set_cons_succ]
                          refine wpAnyH_take (i := 3) (v := .slice xA xb.length xc) rfl (by kernel_rfl) (by kernel_rfl) (by kernel_rfl) (fun _ _ _ h => h) (Or.inl ⟨by rfl, fun w' hw' => ?yQ3⟩) HH.out ?_
                          case yQ3 => ((have hc := hw'.1); go_simp; try with_reducible rfl)
                          try simp only [List.getElem_toArray, List.getElem_cons_succ, List.getElem_cons_zero, Act.put, List.setIfInBounds_toArray, List.set_cons_zero, List.set_cons_succ]
                          refine wpAnyH_take (i := 4) (v := .string Z) rfl (by kernel_rfl) (by kernel_rfl) (by kernel_rfl) (fun _ _ _ h => h) (Or.inl ⟨by rfl, fun w' hw' => ?yQ4⟩) HH.out ?_
                          case yQ4 => (have kc := conv_rd (c := xc) Try.underlying81 Try.underlying5 Try.underlying9 (hw'.2.2.1) rfl; rw [← HZx.out] at kc; go_simp; try with_reducible rfl)
                          try simp only [List.getElem_toArray, List.getElem_cons_succ, List.getElem_cons_zero, Act.put, List.setIfInBounds_toArray, List.set_cons_zero, List.set_cons_succ]
                          refine wpAnyH_take (i := 5) (v := ?vQ5) rfl (by kernel_rfl) (by kernel_rfl) (by kernel_rfl) (fun _ _ _ h => h) (Or.inl ⟨by rfl, fun w' _ => ?yQ5⟩) HH.out ?_
                          case yQ5 => (go_simp; try with_reducible rfl)
                          try simp only [List.getElem_toArray, List.getElem_cons_succ, List.getElem_cons_zero, Act.put, List.setIfInBounds_toArray, List.set_cons_zero, List.set_cons_succ]
                          refine wpAnyH_take (i := 6) (v := ?vQ6) rfl (by kernel_rfl) (by kernel_rfl) (by kernel_rfl) (fun _ _ _ h => h) (Or.inl ⟨by rfl, fun w' _ => ?yQ6⟩) HH.out ?_
                          case yQ6 => (go_simp; try with_reducible rfl)
                          try simp only [List.getElem_toArray, List.getElem_cons_succ, List.getElem_cons_zero, Act.put, List.setIfInBounds_toArray, List.set_cons_zero, List.set_cons_succ]
                          refine wpAnyH_take (i := 7) (v := ?vQ7) rfl (by kernel_rfl) (by kernel_rfl) (by kernel_rfl) (fun _ _ _ h => h) (Or.inl ⟨by rfl, fun w' _ => ?yQ7⟩) HH.out ?_
                          case yQ7 => (go_simp; try with_reducible rfl)
                          try simp only [List.getElem_toArray, List.getElem_cons_succ, List.getElem_cons_zero, Act.put, List.setIfInBounds_toArray, List.set_cons_zero, List.set_cons_succ]
                          refine wpAnyH_take (i := 8) (v := ?vQ8) rfl (by kernel_rfl) (by kernel_rfl) (by kernel_rfl) (fun _ _ _ h => h) (Or.inl ⟨by rfl, fun w' _ => ?yQ8⟩) HH.out ?_
                          case yQ8 => (go_simp; try with_reducible rfl)
                          try simp only [List.getElem_toArray, List.getElem_cons_succ, List.getElem_cons_zero, Act.put, List.setIfInBounds_toArray, List.set_cons_zero, List.set_cons_succ]
                          refine wpAnyH_take (i := 9) (v := ?vQ9) rfl (by kernel_rfl) (by kernel_rfl) (by kernel_rfl) (fun _ _ _ h => h) (Or.inl ⟨by rfl, fun w' _ => ?yQ9⟩) HH.out ?_
                          case yQ9 => (go_simp; try with_reducible rfl)
                          try simp only [List.getElem_toArray, List.getElem_cons_succ, List.getElem_cons_zero, Act.put, List.setIfInBounds_toArray, List.set_cons_zero, List.set_cons_succ]
                          refine wpAnyH_take (i := 10) (v := ?vQ10) rfl (by kernel_rfl) (by kernel_rfl) (by kernel_rfl) (fun _ _ _ h => h) (Or.inl ⟨by rfl, fun w' _ => ?yQ10⟩) HH.out ?_
                          case yQ10 => (go_simp; try with_reducible rfl)
                          try simp only [List.getElem_toArray, List.getElem_cons_succ, List.getElem_cons_zero, Act.put, List.setIfInBounds_toArray, List.set_cons_zero, List.set_cons_succ]
                          refine wpAnyH_take (i := 11) (v := .slice B tb.length d) rfl (by kernel_rfl) (by kernel_rfl) (by kernel_rfl) (fun _ _ _ h => h) (Or.inl ⟨by rfl, fun w' hw' => ?yQ11⟩) HH.out ?_
                          case yQ11 => ((have hc := hw'.2.1); go_simp; try with_reducible rfl)
                          try simp only [List.getElem_toArray, List.getElem_cons_succ, List.getElem_cons_zero, Act.put, List.setIfInBounds_toArray, List.set_cons_zero, List.set_cons_succ]
                          refine wpAnyH_take (i := 12) (v := .string Z) rfl (by kernel_rfl) (by kernel_rfl) (by kernel_rfl) (fun _ _ _ h => h) (Or.inl ⟨by rfl, fun w' hw' => ?yQ12⟩) HH.out ?_
                          case yQ12 => (have kc := conv_rd (c := d) Try.underlying81 Try.underlying5 Try.underlying9 (hw'.2.2.2) rfl; rw [← HZ.out] at kc; go_simp; try with_reducible rfl)
                          try simp only [List.getElem_toArray, List.getElem_cons_succ, List.getElem_cons_zero, Act.put, List.setIfInBounds_toArray, List.set_cons_zero, List.set_cons_succ]
                          refine wpAnyH_take (i := 13) (v := ?vQ13) rfl (by kernel_rfl) (by kernel_rfl) (by kernel_rfl) (fun _ _ _ h => h) (Or.inl ⟨by rfl, fun w' _ => ?yQ13⟩) HH.out ?_
                          case yQ13 => (go_simp; try with_reducible rfl)
                          try simp only [List.getElem_toArray, List.getElem_cons_succ, List.getElem_cons_zero, Act.put, List.setIfInBounds_toArray, List.set_cons_zero, List.set_cons_succ]
                          refine wpAnyH_take (i := 14) (v := ?vQ14) rfl (by kernel_rfl) (by kernel_rfl) (by kernel_rfl) (fun _ _ _ h => h) (Or.inl ⟨by rfl, fun w' _ => ?yQ14⟩) HH.out ?_
                          case yQ14 => (go_simp; try with_reducible rfl)
                          try simp only [List.getElem_toArray, List.getElem_cons_succ, List.getElem_cons_zero, Act.put, List.setIfInBounds_toArray, List.set_cons_zero, List.set_cons_succ]
                          refine wpAnyH_take (i := 15) (v := ?vQ15) rfl (by kernel_rfl) (by kernel_rfl) (by kernel_rfl) (fun _ _ _ h => h) (Or.inl ⟨by rfl, fun w' _ => ?yQ15⟩) HH.out ?_
                          case yQ15 => (go_simp; try with_reducible rfl)
                          try simp only [List.getElem_toArray, List.getElem_cons_succ, List.getElem_cons_zero, Act.put, List.setIfInBounds_toArray, List.set_cons_zero, List.set_cons_succ]
                          refine wpAnyH_done (by kernel_rfl) ?_ _
                          have bd : Below w12.heap.size w12 w12.drew := (Below.refl _ _).drew
                          obtain ⟨w14, hw14⟩ : ∃ v, v = w12.drew := ⟨_, rfl⟩
                          rw [← hw14] at bd ⊢
                          clear HH hw14
                          have FD14 := Lib.hid ((FdL _ kf cf).below FD12.out bd)
                          have B14 := Lib.hid (B12.out.trans (bd.mono B12.out.size))
                          clear bd FD12 B12 HRX12 XF
                          go_wp2_with fail
                          go_roundw
                          case rel => exact ⟨t + 1, by have := HLT2.out; omega, rfl, by rw [HNX.out, decide_eq_true HXE.out]; rfl, B14.out, FD14.out⟩
                          case measure => (have := HLT2.out; simp only [intOf, Int.toNat_natCast]; omega)
                        · obtain ⟨Y, hY⟩ : ∃ Y : ByteArray, Y = ⟨xb.toArray⟩ := ⟨_, rfl⟩
                          have HYZ := Lib.hid (show (Y.toList == Z.toList) = false from (str_same hY HZ.out).trans (decide_eq_false hxe))
                          have HXE := Lib.hid hxe
                          have HY := Lib.hid hY
                          clear hY hxe
                          refine wp_region_held_drew (S := (fun w' => w'.cell? ⟨bF, 2, none⟩ = some (.slice xA xb.length xc) ∧ w'.cell? (ad.add r) = some (.slice B tb.length d) ∧ Rd w12.heap.size w' xA (bv xb) ∧ Rd w.heap.size w' B (bv tb))) (by kernel_rfl) ⟨(show (World.drew _).cell? _ = _ from XF.out.cell 2), (show (World.drew _).cell? _ = _ from HCB.out), HRX12.out.drewN 1, HRB.out.drewN 1⟩ (fun hh => ?_)
                          have HH := Lib.hid hh
                          clear hh
                          try simp only [List.getElem_toArray, List.getElem_cons_succ, List.getElem_cons_zero, Act.put, List.setIfInBounds_toArray, List.set_cons_zero, List.set_cons_succ]
                          refine wpAnyH_take (i := 0) (v := ?vN0) rfl (by kernel_rfl) (by kernel_rfl) (by kernel_rfl) (fun _ _ _ h => h) (Or.inl ⟨by rfl, fun w' _ => ?yN0⟩) HH.out ?_
                          case yN0 => (go_simp; try with_reducible rfl)
                          try simp only [List.getElem_toArray, List.getElem_cons_zero, Act.put, List.setIfInBounds_toArray, List.set_cons_zero, List.set_cons_succ]
                          refine wpAnyH_take (i := 1) (v := ?vN1) rfl (by kernel_rfl) (by kernel_rfl) (by kernel_rfl) (fun _ _ _ h => h) (Or.inl ⟨by rfl, fun w' _ => ?yN1⟩) HH.out ?_
                          case yN1 => (go_simp; try with_reducible rfl)
                          try simp only [List.getElem_toArray, List.getElem_cons_succ, List.getElem_cons_zero, Act.put, List.setIfInBounds_toArray, List.set_cons_zero, List.set_cons_succ]
                          refine wpAnyH_take (i := 2) (v := ?vN2) rfl (by kernel_rfl) (by kernel_rfl) (by kernel_rfl) (fun _ _ _ h => h) (Or.inl ⟨by rfl, fun w' _ => ?yN2⟩) HH.out ?_
                          case yN2 => (go_simp; try with_reducible rfl)
                          try simp only [List.getElem_toArray, List.getElem_cons_succ, List.getElem_cons_zero, Act.put, List.setIfInBounds_toArray, List.set_cons_zero, List.set_cons_succ]
                          refine wpAnyH_take (i := 3) (v := .slice xA xb.length xc) rfl (by kernel_rfl) (by kernel_rfl) (by kernel_rfl) (fun _ _ _ h => h) (Or.inl ⟨by rfl, fun w' hw' => ?yN3⟩) HH.out ?_
                          case yN3 => ((have hc := hw'.1); go_simp; try with_reducible rfl)
                          try simp only [List.getElem_toArray, List.getElem_cons_succ, List.getElem_cons_zero, Act.put, List.setIfInBounds_toArray, List.set_cons_zero, List.set_cons_succ]
                          refine wpAnyH_take (i := 4) (v := .string Y) rfl (by kernel_rfl) (by kernel_rfl) (by kernel_rfl) (fun _ _ _ h => h) (Or.inl ⟨by rfl, fun w' hw' => ?yN4⟩) HH.out ?_
                          case yN4 => (have kc := conv_rd (c := xc) Try.underlying81 Try.underlying5 Try.underlying9 (hw'.2.2.1) rfl; rw [← HY.out] at kc; go_simp; try with_reducible rfl)
                          try simp only [List.getElem_toArray, List.getElem_cons_succ, List.getElem_cons_zero, Act.put, List.setIfInBounds_toArray, List.set_cons_zero, List.set_cons_succ]
                          refine wpAnyH_take (i := 5) (v := ?vN5) rfl (by kernel_rfl) (by kernel_rfl) (by kernel_rfl) (fun _ _ _ h => h) (Or.inl ⟨by rfl, fun w' _ => ?yN5⟩) HH.out ?_
                          case yN5 => (go_simp; try with_reducible rfl)
                          try simp only [List.getElem_toArray, List.getElem_cons_succ, List.getElem_cons_zero, Act.put, List.setIfInBounds_toArray, List.set_cons_zero, List.set_cons_succ]
                          refine wpAnyH_take (i := 6) (v := ?vN6) rfl (by kernel_rfl) (by kernel_rfl) (by kernel_rfl) (fun _ _ _ h => h) (Or.inl ⟨by rfl, fun w' _ => ?yN6⟩) HH.out ?_
                          case yN6 => (go_simp; try with_reducible rfl)
                          try simp only [List.getElem_toArray, List.getElem_cons_succ, List.getElem_cons_zero, Act.put, List.setIfInBounds_toArray, List.set_cons_zero, List.set_cons_succ]
                          refine wpAnyH_take (i := 7) (v := ?vN7) rfl (by kernel_rfl) (by kernel_rfl) (by kernel_rfl) (fun _ _ _ h => h) (Or.inl ⟨by rfl, fun w' _ => ?yN7⟩) HH.out ?_
                          case yN7 => (go_simp; try with_reducible rfl)
                          try simp only [List.getElem_toArray, List.getElem_cons_succ, List.getElem_cons_zero, Act.put, List.setIfInBounds_toArray, List.set_cons_zero, List.set_cons_succ]
                          refine wpAnyH_take (i := 8) (v := ?vN8) rfl (by kernel_rfl) (by kernel_rfl) (by kernel_rfl) (fun _ _ _ h => h) (Or.inl ⟨by rfl, fun w' _ => ?yN8⟩) HH.out ?_
                          case yN8 => (go_simp; try with_reducible rfl)
                          try simp only [List.getElem_toArray, List.getElem_cons_succ, List.getElem_cons_zero, Act.put, List.setIfInBounds_toArray, List.set_cons_zero, List.set_cons_succ]
                          refine wpAnyH_take (i := 9) (v := ?vN9) rfl (by kernel_rfl) (by kernel_rfl) (by kernel_rfl) (fun _ _ _ h => h) (Or.inl ⟨by rfl, fun w' _ => ?yN9⟩) HH.out ?_
                          case yN9 => (go_simp; try with_reducible rfl)
                          try simp only [List.getElem_toArray, List.getElem_cons_succ, List.getElem_cons_zero, Act.put, List.setIfInBounds_toArray, List.set_cons_zero, List.set_cons_succ]
                          refine wpAnyH_take (i := 10) (v := ?vN10) rfl (by kernel_rfl) (by kernel_rfl) (by kernel_rfl) (fun _ _ _ h => h) (Or.inl ⟨by rfl, fun w' _ => ?yN10⟩) HH.out ?_
                          case yN10 => (go_simp; try with_reducible rfl)
                          try simp only [List.getElem_toArray, List.getElem_cons_succ, List.getElem_cons_zero, Act.put, List.setIfInBounds_toArray, List.set_cons_zero, List.set_cons_succ]
                          refine wpAnyH_take (i := 11) (v := .slice B tb.length d) rfl (by kernel_rfl) (by kernel_rfl) (by kernel_rfl) (fun _ _ _ h => h) (Or.inl ⟨by rfl, fun w' hw' => ?yN11⟩) HH.out ?_
                          case yN11 => ((have hc := hw'.2.1); go_simp; try with_reducible rfl)
                          try simp only [List.getElem_toArray, List.getElem_cons_succ, List.getElem_cons_zero, Act.put, List.setIfInBounds_toArray, List.set_cons_zero, List.set_cons_succ]
                          refine wpAnyH_take (i := 12) (v := .string Z) rfl (by kernel_rfl) (by kernel_rfl) (by kernel_rfl) (fun _ _ _ h => h) (Or.inl ⟨by rfl, fun w' hw' => ?yN12⟩) HH.out ?_
                          case yN12 => (have kc := conv_rd (c := d) Try.underlying81 Try.underlying5 Try.underlying9 (hw'.2.2.2) rfl; rw [← HZ.out] at kc; go_simp; try with_reducible rfl)
                          try simp only [List.getElem_toArray, List.getElem_cons_succ, List.getElem_cons_zero, Act.put, List.setIfInBounds_toArray, List.set_cons_zero, List.set_cons_succ]
                          refine wpAnyH_take (i := 13) (v := ?vN13) rfl (by kernel_rfl) (by kernel_rfl) (by kernel_rfl) (fun _ _ _ h => h) (Or.inl ⟨by rfl, fun w' _ => ?yN13⟩) HH.out ?_
                          case yN13 => ((have hc := HYZ.out); go_simp; try with_reducible rfl)
                          try simp only [List.getElem_toArray, List.getElem_cons_succ, List.getElem_cons_zero, Act.put, List.setIfInBounds_toArray, List.set_cons_zero, List.set_cons_succ]
                          refine wpAnyH_take (i := 14) (v := ?vN14) rfl (by kernel_rfl) (by kernel_rfl) (by kernel_rfl) (fun _ _ _ h => h) (Or.inl ⟨by rfl, fun w' _ => ?yN14⟩) HH.out ?_
                          case yN14 => (go_simp; try with_reducible rfl)
                          try simp only [List.getElem_toArray, List.getElem_cons_succ, List.getElem_cons_zero, Act.put, List.setIfInBounds_toArray, List.set_cons_zero, List.set_cons_succ]
                          refine wpAnyH_take (i := 15) (v := ?vN15) rfl (by kernel_rfl) (by kernel_rfl) (by kernel_rfl) (fun _ _ _ h => h) (Or.inl ⟨by rfl, fun w' _ => ?yN15⟩) HH.out ?_
                          case yN15 => (go_simp; try with_reducible rfl)
                          try simp only [List.getElem_toArray, List.getElem_cons_succ, List.getElem_cons_zero, Act.put, List.setIfInBounds_toArray, List.set_cons_zero, List.set_cons_succ]
                          refine wpAnyH_done (by kernel_rfl) ?_ _
                          have bd : Below w12.heap.size w12 w12.drew := (Below.refl _ _).drew
                          obtain ⟨w14, hw14⟩ : ∃ v, v = w12.drew := ⟨_, rfl⟩
                          rw [← hw14] at bd ⊢
                          clear HH hw14
                          have FD14 := Lib.hid ((FdL _ kf cf).below FD12.out bd)
                          have B14 := Lib.hid (B12.out.trans (bd.mono B12.out.size))
                          clear bd FD12 B12 HRX12 XF
                          go_wp2_with fail
                          go_roundw
                          case rel => exact ⟨t + 1, by have := HLT2.out; omega, rfl, by rw [HNX.out, decide_eq_false HXE.out]; rfl, B14.out, FD14.out⟩
                          case measure => (have := HLT2.out; simp only [intOf, Int.toNat_natCast]; omega)
                    · obtain rfl : kf = t := by omega
                      have hany : ((fd.take kf).any fun x => decide (x.b = tb)) = true := by
                        rw [List.take_of_length_le (Nat.le_of_eq HFL.out), List.any_eq_true]
                        obtain ⟨k, x, hk, hx⟩ := HFND.out i HLT.out
                        exact ⟨x, List.mem_of_getElem? hk, decide_eq_true (by rw [hx, HTB.out])⟩
                      have wi : IntKind.i64.wrap ((i : Int) + 1) = ((i + 1 : Nat) : Int) := by have h1 := HAB.out; have h2 := HM3.out; have h3 := HLT.out; rw [IntWalk.i64_in _ (by omega)]; omega
                      have wi2 : wrap64 ((i : Int) + 1) = ((i + 1 : Nat) : Int) := by have h1 := HAB.out; have h2 := HM3.out; have h3 := HLT.out; unfold wrap64; omega
                      rw [hany]
                      clear hlt ht hany
                      go_wp2_with fail
                      go_roundw
                      case rel => exact ⟨i + 1, by have := HLT.out; omega, rfl, B.out, FDx.out⟩
                      case measure => (have := HLT.out; simp only [intOf, Int.toNat_natCast]; omega)
                · obtain rfl : M3 = i := by omega
                  clear hlt hi
                  go_wp2_with fail
                  go_ret
                  exact ⟨rfl, HB1.out _ B.out⟩
theorem logMoves_own : ownKnob Try.prog.godebug = none := by kernel_rfl
theorem logMoves_laid : laidOutB Try.prog = true := by kernel_rfl

set_option maxRecDepth 100000 in
theorem logMoves_lifted (os : Os) (started : os.Started) (H : Type) (enc : TypeId × Value → H) :
    ReturnsInHanded {} Try.checked os 9 .any (Rows.logMovesSpec.pre6 enc Try.prog Try.f9 Rows.logMovesRow.domain false) (Rows.logMovesSpec.post enc Try.prog Try.f9 false true false false) := by
  refine returnsInHanded_of_change (C := Try.checked) logMoves_own started (by kernel_rfl) Try.func9
    (ChangeSpec.witness6 (enc := enc) (C := Try.checked) false ⟨#[], #[.int .u8 0, .slice none 0 0, .slice none 0 0], []⟩ 8 (by kernel_rfl) (by kernel_rfl) (by kernel_rfl) (by kernel_rfl)) ?_
  intro W base args ds gs before hval0 hW _ _
  have hval : ∀ (j : Nat) t v, Try.f9.params[j]? = some t → args[j]? = some v → Value.okWide Try.prog W .any base t v := hval0
  have hW' := hW
  obtain ⟨p, q, hA0, hV, rfl, hfz, hnd⟩ := hW
  have hA : DataW.TrodAll enc Try.prog W 0 (fun _ => true) true Try.f9.params.toList args.toList ds p := hA0
  rw [Try.params9] at hA hval
  obtain ⟨v0, vs0, d0, ds0, p0, q0, hargs, rfl, rfl, h0, r0⟩ := trodAll_cons hA
  obtain ⟨v1, vs1, d1, ds1, p1, q1, rfl, rfl, rfl, h1, r1⟩ := trodAll_cons r0
  obtain ⟨v2, vs2, d2, ds2, p2, q2, rfl, rfl, rfl, h2, r2⟩ := trodAll_cons r1
  obtain ⟨rfl, rfl, rfl⟩ := trodAll_nil r2
  obtain rfl : args = #[v0, v1, v2] := by cases args; simp_all
  obtain ⟨rfl, rfl⟩ := trodVars_none hV
  obtain ⟨a0, rfl, rfl, rfl, w0⟩ := open_int Try.underlying5 (hval 0 5 v0 rfl rfl) h0
  have b0 := bounds_u8 w0
  obtain ⟨a1, n1, c1, rfl⟩ := okWide_slice Try.underlying99 (hval 1 99 v1 rfl rfl)
  have lt1 : ∀ x ∈ p1, x.block < W.heap.size := by obtain ⟨m, hm⟩ := h1; exact DataW.trod_lt m _ _ _ hm
  obtain ⟨l1, hl1, hc1, hm1, hr1⟩ := open_rows Try.underlying99 Try.underlying81 Try.underlying5 (by kernel_rfl) (by kernel_rfl) h1
  obtain ⟨a2, n2, c2, rfl⟩ := okWide_slice Try.underlying81 (hval 2 81 v2 rfl rfl)
  have lt2 : ∀ x ∈ p2, x.block < W.heap.size := by obtain ⟨m, hm⟩ := h2; exact DataW.trod_lt m _ _ _ hm
  obtain ⟨l2, hl2, hc2, hm2, hr2⟩ := open_bytes Try.underlying81 Try.underlying5 (by kernel_rfl) h2
  clear hA0 hval0
  refine (logMoves_any W a0 b0 a1 n1 c1 l1 hl1 hc1 hm1 hr1 a2 n2 c2 l2 hl2 hc2 hm2 hr2).mono fun e W' ⟨he, bel⟩ => ?_
  subst he
  exact ⟨_, rfl, _, _, _, [], _, [], hW', trodAll_mk1 (shut_bool Try.underlying4 _), (trodAll_cons_mk (shut_int Try.underlying5 w0) (trodAll_cons_mk (Below.trod logMoves_laid (by kernel_rfl) (of_decide_eq_true (by kernel_rfl)) h1 bel lt1) (trodAll_cons_mk (Below.trod logMoves_laid (by kernel_rfl) (of_decide_eq_true (by kernel_rfl)) h2 bel lt2) trodAll_mk0))), rfl, bel.frame _, fun h => by cases h⟩

theorem logMoves_holds : Rows.LogMovesSaid :=
  OpenClaim.holds_of_wide 9 Try.f9 rfl rfl rfl rfl rfl rfl rfl ⟨rfl, rfl, rfl, rfl, rfl⟩ rfl rfl rfl rfl rfl (by kernel_rfl) Try.func9 (by kernel_rfl)
    (of_decide_eq_true (by kernel_rfl)) (by unfold Func.isWrapper; rw [if_neg (of_decide_eq_false (by kernel_rfl))]; exact ⟨rfl, rfl⟩)
    (fun os started H enc _ => logMoves_lifted os started H enc)

#print axioms logMoves_holds

end Go.Proofs.Ythadomboiockhaa
