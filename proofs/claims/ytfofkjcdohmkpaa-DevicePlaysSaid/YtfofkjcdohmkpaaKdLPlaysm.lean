/-
  The law DevicePlays holds: through any deeds on two devices of one power each answer, what is stable, what waits, and whether power is on, are what the document says. For any deeds and sizes.
-/
import Derived.Test.YtfofkjcdohmkpaaMp3
import Derived.OrdersHeld
import Derived.Deep.RegionHeld
import Derived.Test.YtfofkjcdohmkpaaRows
import Derived.ProofKit
import Derived.OpenShut
import Derived.ShutString
import Derived.ChangeOld
namespace Go.Proofs.Ytfofkjcdohmkpaa
open Go.RowKit Go.Maps Kd Go.ChangeShapes Go.WideShapes Go.ChangeAt
attribute [local go_sem ↓] Go.wp_at_zero Go.wp_at_succ
set_option maxRecDepth 100000 in
set_option maxHeartbeats 25600000 in
theorem devicePlays_any (w : World) (s1 : Int) (_ : -9223372036854775808 ≤ s1 ∧ s1 ≤ 9223372036854775807) (s2 : Int) (_ : -9223372036854775808 ≤ s2 ∧ s2 ≤ 9223372036854775807) (A : Option Addr) (n c : Nat) (l : List Dd) (hl : l.length = n) (hc : n ≤ c) (hm : c ≤ maxLen) (hr : Rd w.heap.size w A (dds l)) (hz : ∀ y ∈ l, y.ok) : Calls Try.prog 3 #[.int .i64 s1, .int .i64 s2, .slice A n c] w (RetB (.bool true) w) := by
  obtain ⟨z, hz0⟩ : ∃ z : List UInt8, z = zeroS := ⟨_, rfl⟩
  have hz' : ∀ W, (zeroValue 38).run Try.prog W = .ok (.agg (bva z)) W := fun _ => by rw [hz0]; kernel_rfl
  have HBP := Lib.hid (show ∀ W, (Instr.build 29 #[(2, .int .i64 (-1))]).run Try.prog W = .ok (.agg #[.slice none 0 0, .bool false, .int .i64 (-1)]) W from fun _ => by kernel_rfl)
  have HZ := Lib.hid hz0
  have HZ3 := Lib.hid (show z.length = 128 by rw [hz0]; exact zeroS_length)
  have HLL := Lib.hid hl
  have HRD := Lib.hid hr
  have HZZ := Lib.hid hz
  have HCC := Lib.hid (show n ≤ c ∧ c ≤ maxLen from ⟨hc, hm⟩)
  clear hz0 hl hr hz hc hm
  go_enter Try.func3, Try.ntmps3
  go_wp2_with fail
  refine (kdAwake_any _).mono ?_
  rintro e w1 ⟨rfl, bw1⟩
  have B1 := Lib.hid bw1
  clear bw1
  by_cases hbig : 60 < n
  · have n1 : (60 : Int) < (n : Int) := by omega
    go_wp2_with fail
    go_ret
    exact ⟨rfl, B1.out⟩
  · have n1 : ¬ (60 : Int) < (n : Int) := by omega
    have HNB := Lib.hid (show n ≤ 60 by omega)
    clear hbig
    by_cases hs : 20 < s1
    · go_wp2_with fail
      go_ret
      exact ⟨rfl, B1.out⟩
    · by_cases hs2 : 20 < s2
      · go_wp2_with fail
        go_ret
        exact ⟨rfl, B1.out⟩
      ·
        go_wp2_with fail
        refine live_power.mono ?_
        rintro e w2 ⟨p, rfl, F2, h⟩
        have H2 := Lib.hid h
        clear h hs hs2 n1
        go_wp2_with (show wpList _ _ _ ({ dst := some 32, op := .build 29 #[(2, .const (.int .i64 (-1)))], type := _, pos := _, after := _, guard := _ } :: _) _ _; apply Classical.byContradiction; intro hneg)
        refine hneg ?_
        clear hneg
        refine wpList_build rfl 29 #[(2, .const (.int .i64 (-1)))] rfl (v := .agg #[.slice none 0 0, .bool false, .int .i64 (-1)]) ?hbld ?_
        case hbld => (simp only [List.map_toArray, List.map_cons, List.map_nil]; exact HBP.out _)
        obtain ⟨w3, hw3⟩ : ∃ w3, w3 = w2.alloc (.cells #[.slice none 0 0, .bool false, .int .i64 (-1)] 29) := ⟨_, rfl⟩
        have HJ := Lib.hid (show Both w1 w3 p [] S0 F2 w2.heap.size [] S0 (fun r => r = w2.heap.size) from ⟨H2.out.below (by rw [hw3]; exact (Below.refl _ _).alloc (Nat.le_refl _) _), rsys_zero (by rw [hw3]; exact heap_alloc_new _ _), fun r hf e => by have := H2.out.lt r hf; omega, fun r e => by rw [e]; exact H2.out.bel.size⟩)
        obtain ⟨q, hq⟩ : ∃ q, q = w2.heap.size := ⟨_, rfl⟩
        go_upto_region 6 with fail
        rw [← hw3, ← hq]
        rw [← hq] at HJ
        clear hw3 hq H2
        go_wp2_with fail
        refine (live_new HJ.out.live (by decide) s1).mono ?_
        rintro e w4 ⟨g1, rfl, F4, h, hs, hb⟩
        have HJ4 := Lib.hid (show Both w1 w4 p [g1] (S0.new s1) F4 q [] S0 _ from HJ.out.code h hs hb)
        clear h hs hb HJ
        go_wp2_with fail
        refine (live_new HJ4.out.live (by show 1 < 1000; omega) s2).mono ?_
        rintro e w5 ⟨g2, rfl, F5, h, hs, hb⟩
        have HJ5 := Lib.hid (show Both w1 w5 p [g1, g2] ((S0.new s1).new s2) F5 q [] S0 _ from HJ4.out.code h hs hb)
        clear h hs hb HJ4
        go_wp2_with fail
        obtain ⟨w6, hw6⟩ : ∃ w6, w6 = w5.alloc (.cells #[.pointer (some ⟨g1, 0, none⟩), .pointer (some ⟨g2, 0, none⟩)] 30) := ⟨_, rfl⟩
        have BA6 := Lib.hid (show Below w5.heap.size w5 w6 from by rw [hw6]; exact (Below.refl _ _).alloc (Nat.le_refl _) _)
        have HJ6 := Lib.hid (HJ5.out.below BA6.out)
        obtain ⟨r9, hr9⟩ : ∃ r9, r9 = w5.heap.size := ⟨_, rfl⟩
        have HR9 := Lib.hid (show BoxB w6 F5 (fun r => r = q) r9 #[.pointer (some ⟨g1, 0, none⟩), .pointer (some ⟨g2, 0, none⟩)] 30 from ⟨by rw [hw6, hr9]; exact heap_alloc_new _ _, fun hf => by have := HJ5.out.live.lt _ hf; omega, fun hf => by have := HJ5.out.rsys.lt r9 hf; omega⟩)
        rw [← hw6, ← hr9]
        clear hw6 hr9 BA6 HJ5
        refine (rnew_sys HJ6.out.rsys (by show 0 < 1000; omega) s1).mono ?_
        rintro e w7 ⟨x1, rfl, G7, h, hs, hb⟩
        have HJ7 := Lib.hid (show Both w1 w7 p [g1, g2] ((S0.new s1).new s2) F5 q [x1] (S0.new s1) G7 from HJ6.out.ref h hs hb)
        have HR7 := Lib.hid (HR9.out.ref hs hb)
        clear h hs hb HJ6 HR9
        go_wp2_with fail
        refine (rnew_sys HJ7.out.rsys (by show 1 < 1000; omega) s2).mono ?_
        rintro e w8 ⟨x2, rfl, G8, h, hs, hb⟩
        have HJ8 := Lib.hid (show Both w1 w8 p [g1, g2] ((S0.new s1).new s2) F5 q [x1, x2] ((S0.new s1).new s2) G8 from HJ7.out.ref h hs hb)
        have HR8 := Lib.hid (HR7.out.ref hs hb)
        clear h hs hb HJ7 HR7
        go_wp2_with fail
        obtain ⟨w9, hw9⟩ : ∃ w9, w9 = w8.alloc (.cells #[.pointer (some ⟨x1, 0, none⟩), .pointer (some ⟨x2, 0, none⟩)] 33) := ⟨_, rfl⟩
        have BA9 := Lib.hid (show Below w8.heap.size w8 w9 from by rw [hw9]; exact (Below.refl _ _).alloc (Nat.le_refl _) _)
        have HJ9 := Lib.hid (HJ8.out.below BA9.out)
        have HRA := Lib.hid (HR8.out.below BA9.out)
        obtain ⟨r10, hr10⟩ : ∃ r10, r10 = w8.heap.size := ⟨_, rfl⟩
        have HRB := Lib.hid (show BoxB w9 F5 G8 r10 #[.pointer (some ⟨x1, 0, none⟩), .pointer (some ⟨x2, 0, none⟩)] 33 from ⟨by rw [hw9, hr10]; exact heap_alloc_new _ _, fun hf => by have := HJ8.out.live.lt _ hf; omega, fun hf => by have := HJ8.out.rsys.lt _ hf; omega⟩)
        rw [← hw9, ← hr10]
        clear hw9 hr10 BA9 HJ8 HR8
        go_loopw [11] (fun i wr => ∃ (k : Nat) (F G : Nat → Prop) (S : Sy), k ≤ n ∧ i = .int .i64 k ∧ Both w1 wr p [g1, g2] S F q [x1, x2] S G ∧ BoxB wr F G r9 #[.pointer (some ⟨g1, 0, none⟩), .pointer (some ⟨g2, 0, none⟩)] 30 ∧ BoxB wr F G r10 #[.pointer (some ⟨x1, 0, none⟩), .pointer (some ⟨x2, 0, none⟩)] 33 ∧ S.ds.length = 2 ∧ ∀ j, (S.at j).wt.length ≤ k) (fun i _ => n - (intOf i).toNat)
        case atStart => exact ⟨0, F5, G8, _, Nat.zero_le _, rfl, HJ9.out, HRA.out, HRB.out, rfl, fun j => by
          rcases j with _ | _ | j
          · exact Nat.le_refl _
          · exact Nat.le_refl _
          · exact Nat.le_refl _⟩
        case round =>
          clear HJ9 HRA HRB
          obtain ⟨k, F, G, S, hk, rfl, hboth, hra, hrb, hlen, hwt⟩ := hrel
          have HJ := Lib.hid hboth
          have RA := Lib.hid hra
          have RB := Lib.hid hrb
          have HK := Lib.hid hk
          have HLN := Lib.hid hlen
          have HWT := Lib.hid hwt
          clear hboth hra hrb hk hlen hwt
          by_cases hlt : k < n
          ·
            have hkl : k < l.length := by rw [HLL.out]; exact hlt
            obtain ⟨x, hxe⟩ : ∃ x, x = l[k] := ⟨_, rfl⟩
            obtain ⟨ad, hA, hq1, hq2⟩ := rd_deed HRD.out hkl
            subst hA
            have hcells : ∀ w', Below w.heap.size w w' → ∀ j v, (ddV x)[j]? = some v → w'.cell? ((ad.add (k * 5)).add j) = some v := fun w' hb' j v hv => by
              obtain ⟨ad', hA', _, hc'⟩ := rd_deed (HRD.out.below hb') hkl
              injection hA' with hA'; subst hA'
              exact hc' j v (by rw [← hxe]; exact hv)
            have HN2 := Lib.hid (show ∀ w', Below w.heap.size w w' → w'.cell? ⟨(ad.add (k * 5)).block, (ad.add (k * 5)).off + 2, none⟩ = some (.int .i64 x.n) from fun w' hb' => hcells w' hb' 2 _ rfl)
            have HN4 := Lib.hid (show ∀ w', Below w.heap.size w w' → w'.cell? ⟨(ad.add (k * 5)).block, (ad.add (k * 5)).off + 4, none⟩ = some (.int .u8 (x.c.toNat : Int)) from fun w' hb' => hcells w' hb' 4 _ rfl)
            have HXO := Lib.hid (HZZ.out x (by rw [hxe]; exact List.getElem_mem hkl))
            have HCL := Lib.hid hcells
            have HXG := Lib.hid (show l[k]? = some x from by rw [hxe]; exact List.getElem?_eq_getElem hkl)
            have HLT := Lib.hid hlt
            have k0 : (0 : Int) ≤ (k : Int) := by omega
            have k1 : (k : Int) < (n : Int) := by omega
            have k2 : (k : Int) < 60 := by have := HNB.out; omega
            clear hq1 hq2 hxe hkl hcells hlt
            obtain ⟨r, hr⟩ : ∃ r, x.on.tmod 2 = r := ⟨_, rfl⟩
            have hco := HCL.out wr (B1.out.trans (HJ.out.live.bel.mono B1.out.size)) 0 _ rfl
            have hc0 : wr.cell? (ad.add (k * 5)) = some (.int .i64 x.on) := by rwa [add_zero] at hco
            clear hco
            have HI2 : Hid (∃ i, i < 2 ∧ (r ≠ 0 ↔ i = 1)) := by
              by_cases h : r = 0
              · exact ⟨0, by omega, by omega⟩
              · exact ⟨1, by omega, by omega⟩
            go_upto_region 11 with fail
            go_upto_if 60 with fail
            obtain ⟨i, hi2, hri⟩ := HI2.out
            have HII := Lib.hid hi2
            go_cut [12] (fun v wx => v = .int .i64 (i : Int) ∧ wx = wr)
            case first =>
              by_cases hr0 : r = 0
              · obtain rfl : i = 0 := by omega
                have hr1 : (r != 0) = false := by simpa using hr0
                go_wp2_with fail
                go_meet
                exact ⟨rfl, rfl⟩
              · obtain rfl : i = 1 := by omega
                have hr1 : (r != 0) = true := by simpa using hr0
                go_wp2_with fail
                go_meet
                exact ⟨rfl, rfl⟩
            case rest =>
              obtain ⟨rfl, rfl⟩ := hcut
              clear hri hi2 hc0 hr HI2

              obtain ⟨S2, hS2⟩ : ∃ S2, S2 = (S.deed i x).2.2 := ⟨_, rfl⟩
              obtain ⟨ev, hev⟩ : ∃ ev, ev = (S.deed i x).1 := ⟨_, rfl⟩
              obtain ⟨y, hy⟩ : ∃ y, y = (S.deed i x).2.1 := ⟨_, rfl⟩
              have HIS := Lib.hid (show i < S.ds.length by rw [HLN.out]; exact HII.out)
              have HY3 := Lib.hid (show y.length = 128 by rw [hy]; exact deed_sec (HJ.out.live.sys.ok HIS.out))
              have HIY : Hid ((Try.prog.info? 38).map (·.size) = some (bva y).size) := by rw [bva_size, HY3.out]; exact info_sec
              have HS2L := Lib.hid (show S2.ds.length = 2 by rw [hS2, deed_len]; exact HLN.out)
              have HS2W := Lib.hid (show ∀ j, (S2.at j).wt.length ≤ k + 1 from fun j => by rw [hS2]; exact deed_wt HIS.out HWT.out j)
              have HDO := Lib.hid (show ∀ w' F', Live w1 w' p [g1, g2] S F' → Calls Try.prog 16 #[.pointer (some ⟨p, 0, none⟩), .pointer (some ⟨[g1, g2].getD i 0, 0, none⟩), .agg (dda x)] w' (RetL (.tuple #[.int .i64 ev, .agg (bva y)]) w1 p [g1, g2] S2 F' w') from fun w' F' h => by
                rw [hev, hy, hS2]; exact do_any h i HIS.out x HXO.out (by have := HWT.out i; have := HK.out; have := HNB.out; omega))
              have HTO := Lib.hid (show ∀ w' G', RSys w' q [x1, x2] S G' → Calls Try.prog 17 #[.pointer (some ⟨q, 0, none⟩), .pointer (some ⟨[x1, x2].getD i 0, 0, none⟩), .agg (dda x)] w' (RetR (.tuple #[.int .i64 ev, .agg (bva y)]) q [x1, x2] S2 G' w') from fun w' G' h => by
                rw [hev, hy, hS2]; exact told_any h i HIS.out x HXO.out (by rw [HLN.out]; omega) (fun k' hk' => by have := HWT.out k'; have := HK.out; have := HNB.out; omega))
              clear hS2 hev hy HWT HXO
              have i0 : (0 : Int) ≤ (i : Int) := by omega
              have i1 : (i : Int) < 2 := by have := HII.out; omega
              go_upto_region 14 with fail
              go_cut [13, 14] (fun va vb wx => ∃ (qb : Nat) (F' : Nat → Prop), va = .int .i64 ev ∧ vb = .pointer (some ⟨qb, 0, none⟩) ∧ Both w1 wx p [g1, g2] S2 F' q [x1, x2] S G ∧ BoxB wx F' G r9 #[.pointer (some ⟨g1, 0, none⟩), .pointer (some ⟨g2, 0, none⟩)] 30 ∧ BoxB wx F' G r10 #[.pointer (some ⟨x1, 0, none⟩), .pointer (some ⟨x2, 0, none⟩)] 33 ∧ BoxB wx F' G qb (bva y) 38)
              case first =>
                go_wp2_with fail
                refine wp_region_held_drew (S := fun w' => w'.cell? ⟨r9, i, none⟩ = some (.pointer (some ⟨[g1, g2].getD i 0, 0, none⟩)) ∧ Below w.heap.size w w') (by kernel_rfl) ⟨ptr_cell (RA.out.below (w' := wc.drew) (Below.refl _ _).drew).1 HII.out, B1.out.trans ((HJ.out.below (w' := wc.drew) (Below.refl _ _).drew).live.bel.mono B1.out.size)⟩ (fun hh => ?_)
                have HH := Lib.hid hh
                clear hh
                refine wpAnyH_take (i := 0) (v := ?vP0) rfl (by kernel_rfl) (by kernel_rfl) (by kernel_rfl) (fun _ _ _ h => h) (Or.inl ⟨by rfl, fun w' _ => ?yP0⟩) HH.out ?_
                case yP0 => (go_simp; try with_reducible rfl)
                refine wpAnyH_take (i := 1) (v := ?vP1) rfl (by kernel_rfl) (by kernel_rfl) (by kernel_rfl) (fun _ _ _ h => h) (Or.inl ⟨by rfl, fun w' _ => ?yP1⟩) HH.out ?_
                case yP1 => (go_simp; try with_reducible rfl)
                try simp only [List.getElem_toArray, List.getElem_cons_succ, List.getElem_cons_zero, Act.put, List.setIfInBounds_toArray, List.set_cons_zero, List.set_cons_succ]
                refine wpAnyH_take (i := 2) (v := ?vP2) rfl (by kernel_rfl) (by kernel_rfl) (by kernel_rfl) (fun _ _ _ h => h) (Or.inl ⟨by rfl, fun w' _ => ?yP2⟩) HH.out ?_
                case yP2 => (go_simp; try with_reducible rfl)
                refine wpAnyH_take (i := 3) (v := ?vP3) rfl (by kernel_rfl) (by kernel_rfl) (by kernel_rfl) (fun _ _ _ h => h) (Or.inl ⟨by rfl, fun w' _ => ?yP3⟩) HH.out ?_
                case yP3 => (go_simp; try with_reducible rfl)
                refine wpAnyH_take (i := 4) (v := .pointer (some ⟨[g1, g2].getD i 0, 0, none⟩)) rfl (by kernel_rfl) (by kernel_rfl) (by kernel_rfl) (fun _ _ _ h => h) (Or.inl ⟨by rfl, fun w' hw' => ?yP4⟩) HH.out ?_
                case yP4 => (have hc := hw'.1; go_simp; try with_reducible rfl)
                try simp only [List.getElem_toArray, List.getElem_cons_succ, List.getElem_cons_zero, Act.put, List.setIfInBounds_toArray, List.set_cons_zero, List.set_cons_succ]
                refine wpAnyH_take (i := 5) (v := ?vP5) rfl (by kernel_rfl) (by kernel_rfl) (by kernel_rfl) (fun _ _ _ h => h) (Or.inl ⟨by rfl, fun w' _ => ?yP5⟩) HH.out ?_
                case yP5 => (go_simp; try with_reducible rfl)
                refine wpAnyH_take (i := 6) (v := ?vP6) rfl (by kernel_rfl) (by kernel_rfl) (by kernel_rfl) (fun _ _ _ h => h) (Or.inl ⟨by rfl, fun w' _ => ?yP6⟩) HH.out ?_
                case yP6 => (go_simp; try with_reducible rfl)
                refine wpAnyH_take (i := 7) (v := ?vP7) rfl (by kernel_rfl) (by kernel_rfl) (by kernel_rfl) (fun _ _ _ h => h) (Or.inl ⟨by rfl, fun w' _ => ?yP7⟩) HH.out ?_
                case yP7 => (go_simp; try with_reducible rfl)
                try simp only [List.getElem_toArray, List.getElem_cons_succ, List.getElem_cons_zero, Act.put, List.setIfInBounds_toArray, List.set_cons_zero, List.set_cons_succ]
                refine wpAnyH_take (i := 8) (v := .agg (dda x)) rfl (by kernel_rfl) (by kernel_rfl) (by kernel_rfl) (fun _ _ _ h => h) (Or.inl ⟨by rfl, fun w' hw' => ?yP8⟩) HH.out ?_
                case yP8 => exact exec_load_at 36 (.tmp 69) rfl (ad.add (k * 5)) rfl (HCL.out w' hw'.2) Try.underlying36 rfl (by kernel_rfl)
                try simp only [List.getElem_toArray, List.getElem_cons_succ, List.getElem_cons_zero, Act.put, List.setIfInBounds_toArray, List.set_cons_zero, List.set_cons_succ]
                refine wpAnyH_ready (rs := [9, 13]) (by kernel_rfl) (by simp) (AllReadyH.cons rfl (fun K hK => ?_) (AllReadyH.cons rfl (fun K hK => ?_) AllReadyH.nil))
                · skip
                  have J0 := Lib.hid (HJ.out.below (w' := wc.drew) (Below.refl _ _).drew)
                  have A0 := Lib.hid (RA.out.below (w' := wc.drew) (Below.refl _ _).drew)
                  have R0 := Lib.hid (RB.out.below (w' := wc.drew) (Below.refl _ _).drew)
                  go_simp
                  refine (HDO.out _ _ J0.out.live).mono ?_
                  rintro e w2 ⟨rfl, F2, h, hs, hb⟩
                  have J2 := Lib.hid (J0.out.code h hs hb)
                  have A2 := Lib.hid (A0.out.code hs hb)
                  have R2 := Lib.hid (R0.out.code hs hb)
                  clear h hs hb J0 A0 R0
                  go_simp
                  refine hK.out _ _ ⟨ptr_cell A2.out.1 HII.out, B1.out.trans (J2.out.live.bel.mono B1.out.size)⟩ (fun hh => ?_)
                  have HH' := Lib.hid hh
                  clear hh hK K HH
                  have HH := Lib.hid HH'.out
                  clear HH'
                  refine wpAnyH_take (i := 10) (v := ?vPA10) rfl (by kernel_rfl) (by kernel_rfl) (by kernel_rfl) (fun _ _ _ h => h) (Or.inl ⟨by rfl, fun w' _ => ?yPA10⟩) HH.out ?_
                  case yPA10 => (go_simp; try with_reducible rfl)
                  refine wpAnyH_take (i := 11) (v := ?vPA11) rfl (by kernel_rfl) (by kernel_rfl) (by kernel_rfl) (fun _ _ _ h => h) (Or.inl ⟨by rfl, fun w' _ => ?yPA11⟩) HH.out ?_
                  case yPA11 => (go_simp; try with_reducible rfl)
                  refine wpAnyH_take (i := 12) (v := ?vPA12) rfl (by kernel_rfl) (by kernel_rfl) (by kernel_rfl) (fun _ _ _ h => h) (Or.inl ⟨by rfl, fun w' _ => ?yPA12⟩) HH.out ?_
                  case yPA12 => (go_simp; try with_reducible rfl)
                  try simp only [List.getElem_toArray, List.getElem_cons_succ, List.getElem_cons_zero, Act.put, List.setIfInBounds_toArray, List.set_cons_zero, List.set_cons_succ]
                  refine wpAnyH_ready (rs := [13]) (by kernel_rfl) (by simp) (AllReadyH.cons rfl (fun K hK => ?_) AllReadyH.nil)
                  have J3 := Lib.hid (J2.out.below (w' := w2.alloc (.cells (bva z) 38)) ((Below.refl _ _).alloc (Nat.le_refl _) _))
                  have X3 := Lib.hid (J2.out.fresh (show Blk (w2.alloc (.cells (bva z) 38)) w2.heap.size (bva z) 38 from heap_alloc_new _ _))
                  have LO := Lib.hid J2.out.live.bel.size
                  have A3 := Lib.hid (A2.out.below (w' := w2.alloc (.cells (bva z) 38)) ((Below.refl _ _).alloc (Nat.le_refl _) _))
                  have R3 := Lib.hid (R2.out.below (w' := w2.alloc (.cells (bva z) 38)) ((Below.refl _ _).alloc (Nat.le_refl _) _))
                  have OLD := Lib.hid (show ∀ b, b < w2.heap.size → b ≠ w2.heap.size from fun b hb => by omega)
                  clear J2 A2 R2
                  go_simp
                  refine hK.out _ _ ⟨ptr_cell A3.out.1 HII.out, B1.out.trans (J3.out.live.bel.mono B1.out.size)⟩ (fun hh => ?_)
                  have HH' := Lib.hid hh
                  clear hh hK K HH
                  have HH := Lib.hid HH'.out
                  clear HH'
                  refine wpAnyH_take (i := 14) (v := ?vPA14) rfl (by kernel_rfl) (by kernel_rfl) (by kernel_rfl) (fun _ _ _ h => h) (Or.inl ⟨by rfl, fun w' _ => ?yPA14⟩) HH.out ?_
                  case yPA14 => (go_simp; try with_reducible rfl)
                  try simp only [List.getElem_toArray, List.getElem_cons_succ, List.getElem_cons_zero, Act.put, List.setIfInBounds_toArray, List.set_cons_zero, List.set_cons_succ]
                  refine wpAnyH_ready (rs := [15]) (by kernel_rfl) (by simp) (AllReadyH.cons rfl (fun K hK => ?_) AllReadyH.nil)
                  rw [if_pos (by rfl)]
                  refine wp_store_row 38 (.tmp 14) (.tmp 73) rfl (w2.heap.size) (bva y) rfl rfl 38 (bva z) X3.out.1 HIY.out (by rw [bva_size, bva_size, HY3.out, HZ3.out]) (bva_one _) ?_
                  have HBT := Lib.hid (show But (fun r => r = w2.heap.size) (w2.alloc (.cells (bva z) 38)) ((w2.alloc (.cells (bva z) 38)).setRow (w2.heap.size) (bva y)) from But.setRow (S := fun r => r = w2.heap.size) (But.refl _) (.inl rfl) _)
                  have J4 := Lib.hid (J3.out.own HBT.out X3.out.2.1 X3.out.2.2 LO.out)
                  have X4 := Lib.hid (show BoxB ((w2.alloc (.cells (bva z) 38)).setRow (w2.heap.size) (bva y)) F2 G (w2.heap.size) (bva y) 38 from ⟨setRow_heap _ _ _ _ _ _ X3.out.1, X3.out.2⟩)
                  have A4 := Lib.hid (A3.out.own HBT.out (A3.out.ne X3.out.1 (by decide)))
                  have R4 := Lib.hid (R3.out.own HBT.out (R3.out.ne X3.out.1 (by decide)))
                  clear J3 X3 HBT LO A3 R3
                  refine hK.out _ _ ⟨ptr_cell A4.out.1 HII.out, B1.out.trans (J4.out.live.bel.mono B1.out.size)⟩ (fun hh => ?_)
                  have HH' := Lib.hid hh
                  clear hh hK K HH
                  have HH := Lib.hid HH'.out
                  clear HH'
                  try simp only [List.getElem_toArray, List.getElem_cons_succ, List.getElem_cons_zero, Act.put]
                  refine wpAnyH_done (by kernel_rfl) ?_ _
                  go_wp2_with fail
                  go_meet
                  exact ⟨w2.heap.size, F2, rfl, rfl, J4.out, A4.out, R4.out, X4.out⟩
                · skip
                  have J0 := Lib.hid (HJ.out.below (w' := (wc.drew.alloc (.cells (bva z) 38))) ((Below.refl _ _).drew.alloc (Nat.le_refl _) _))
                  have X0 := Lib.hid (HJ.out.fresh (show Blk (wc.drew.alloc (.cells (bva z) 38)) wc.heap.size (bva z) 38 from heap_alloc_new _ _))
                  have LO := Lib.hid HJ.out.live.bel.size
                  have A0 := Lib.hid (RA.out.below (w' := (wc.drew.alloc (.cells (bva z) 38))) ((Below.refl _ _).drew.alloc (Nat.le_refl _) _))
                  have R0 := Lib.hid (RB.out.below (w' := (wc.drew.alloc (.cells (bva z) 38))) ((Below.refl _ _).drew.alloc (Nat.le_refl _) _))
                  go_simp
                  refine hK.out _ _ ⟨ptr_cell A0.out.1 HII.out, B1.out.trans (J0.out.live.bel.mono B1.out.size)⟩ (fun hh => ?_)
                  have HH' := Lib.hid hh
                  clear hh hK K HH
                  have HH := Lib.hid HH'.out
                  clear HH'
                  try simp only [List.getElem_toArray, List.getElem_cons_succ, List.getElem_cons_zero, Act.put, List.setIfInBounds_toArray, List.set_cons_zero, List.set_cons_succ]
                  refine wpAnyH_ready (rs := [9]) (by kernel_rfl) (by simp) (AllReadyH.cons rfl (fun K hK => ?_) AllReadyH.nil)
                  go_simp
                  refine (HDO.out _ _ J0.out.live).mono ?_
                  rintro e w2 ⟨rfl, F2, h, hs, hb⟩
                  have J3 := Lib.hid (J0.out.code h hs hb)
                  have X3 := Lib.hid (X0.out.code hs hb)
                  have A3 := Lib.hid (A0.out.code hs hb)
                  have R3 := Lib.hid (R0.out.code hs hb)
                  clear h hs hb J0 X0 A0 R0
                  go_simp
                  refine hK.out _ _ ⟨ptr_cell A3.out.1 HII.out, B1.out.trans (J3.out.live.bel.mono B1.out.size)⟩ (fun hh => ?_)
                  have HH' := Lib.hid hh
                  clear hh hK K HH
                  have HH := Lib.hid HH'.out
                  clear HH'
                  refine wpAnyH_take (i := 10) (v := ?vPB10) rfl (by kernel_rfl) (by kernel_rfl) (by kernel_rfl) (fun _ _ _ h => h) (Or.inl ⟨by rfl, fun w' _ => ?yPB10⟩) HH.out ?_
                  case yPB10 => (go_simp; try with_reducible rfl)
                  refine wpAnyH_take (i := 11) (v := ?vPB11) rfl (by kernel_rfl) (by kernel_rfl) (by kernel_rfl) (fun _ _ _ h => h) (Or.inl ⟨by rfl, fun w' _ => ?yPB11⟩) HH.out ?_
                  case yPB11 => (go_simp; try with_reducible rfl)
                  refine wpAnyH_take (i := 12) (v := ?vPB12) rfl (by kernel_rfl) (by kernel_rfl) (by kernel_rfl) (fun _ _ _ h => h) (Or.inl ⟨by rfl, fun w' _ => ?yPB12⟩) HH.out ?_
                  case yPB12 => (go_simp; try with_reducible rfl)
                  refine wpAnyH_take (i := 14) (v := ?vPB14) rfl (by kernel_rfl) (by kernel_rfl) (by kernel_rfl) (fun _ _ _ h => h) (Or.inl ⟨by rfl, fun w' _ => ?yPB14⟩) HH.out ?_
                  case yPB14 => (go_simp; try with_reducible rfl)
                  try simp only [List.getElem_toArray, List.getElem_cons_succ, List.getElem_cons_zero, Act.put, List.setIfInBounds_toArray, List.set_cons_zero, List.set_cons_succ]
                  refine wpAnyH_ready (rs := [15]) (by kernel_rfl) (by simp) (AllReadyH.cons rfl (fun K hK => ?_) AllReadyH.nil)
                  rw [if_pos (by rfl)]
                  refine wp_store_row 38 (.tmp 14) (.tmp 73) rfl (wc.heap.size) (bva y) rfl rfl 38 (bva z) X3.out.1 HIY.out (by rw [bva_size, bva_size, HY3.out, HZ3.out]) (bva_one _) ?_
                  have HBT := Lib.hid (show But (fun r => r = wc.heap.size) w2 (w2.setRow (wc.heap.size) (bva y)) from But.setRow (S := fun r => r = wc.heap.size) (But.refl _) (.inl rfl) _)
                  have J4 := Lib.hid (J3.out.own HBT.out X3.out.2.1 X3.out.2.2 LO.out)
                  have X4 := Lib.hid (show BoxB (w2.setRow (wc.heap.size) (bva y)) F2 G (wc.heap.size) (bva y) 38 from ⟨setRow_heap _ _ _ _ _ _ X3.out.1, X3.out.2⟩)
                  have A4 := Lib.hid (A3.out.own HBT.out (A3.out.ne X3.out.1 (by decide)))
                  have R4 := Lib.hid (R3.out.own HBT.out (R3.out.ne X3.out.1 (by decide)))
                  clear J3 X3 HBT LO A3 R3
                  refine hK.out _ _ ⟨ptr_cell A4.out.1 HII.out, B1.out.trans (J4.out.live.bel.mono B1.out.size)⟩ (fun hh => ?_)
                  have HH' := Lib.hid hh
                  clear hh hK K HH
                  have HH := Lib.hid HH'.out
                  clear HH'
                  try simp only [List.getElem_toArray, List.getElem_cons_succ, List.getElem_cons_zero, Act.put]
                  refine wpAnyH_done (by kernel_rfl) ?_ _
                  go_wp2_with fail
                  go_meet
                  exact ⟨wc.heap.size, F2, rfl, rfl, J4.out, A4.out, R4.out, X4.out⟩
              case rest =>
                obtain ⟨qb, F3, rfl, rfl, hj, ha, hr, hx⟩ := hcut
                clear HJ RA RB HDO
                have HJ := Lib.hid hj
                have RA := Lib.hid ha
                have RB := Lib.hid hr
                have RC := Lib.hid hx
                clear hj ha hr hx
                go_upto_region 15 with fail
                go_cut [15, 16] (fun va vb wx => ∃ (qc : Nat) (G' : Nat → Prop), va = .int .i64 ev ∧ vb = .pointer (some ⟨qc, 0, none⟩) ∧ Both w1 wx p [g1, g2] S2 F3 q [x1, x2] S2 G' ∧ BoxB wx F3 G' r9 #[.pointer (some ⟨g1, 0, none⟩), .pointer (some ⟨g2, 0, none⟩)] 30 ∧ BoxB wx F3 G' r10 #[.pointer (some ⟨x1, 0, none⟩), .pointer (some ⟨x2, 0, none⟩)] 33 ∧ BoxB wx F3 G' qb (bva y) 38 ∧ BoxB wx F3 G' qc (bva y) 38)
                case first =>
                  go_wp2_with fail
                  refine wp_region_held_drew (S := fun w' => w'.cell? ⟨r10, i, none⟩ = some (.pointer (some ⟨[x1, x2].getD i 0, 0, none⟩)) ∧ Below w.heap.size w w') (by kernel_rfl) ⟨ptr_cell (RB.out.below (w' := wc.drew) (Below.refl _ _).drew).1 HII.out, B1.out.trans ((HJ.out.below (w' := wc.drew) (Below.refl _ _).drew).live.bel.mono B1.out.size)⟩ (fun hh => ?_)
                  have HH := Lib.hid hh
                  clear hh
                  refine wpAnyH_take (i := 0) (v := ?vQ0) rfl (by kernel_rfl) (by kernel_rfl) (by kernel_rfl) (fun _ _ _ h => h) (Or.inl ⟨by rfl, fun w' _ => ?yQ0⟩) HH.out ?_
                  case yQ0 => (go_simp; try with_reducible rfl)
                  refine wpAnyH_take (i := 1) (v := ?vQ1) rfl (by kernel_rfl) (by kernel_rfl) (by kernel_rfl) (fun _ _ _ h => h) (Or.inl ⟨by rfl, fun w' _ => ?yQ1⟩) HH.out ?_
                  case yQ1 => (go_simp; try with_reducible rfl)
                  try simp only [List.getElem_toArray, List.getElem_cons_succ, List.getElem_cons_zero, Act.put, List.setIfInBounds_toArray, List.set_cons_zero, List.set_cons_succ]
                  refine wpAnyH_take (i := 2) (v := ?vQ2) rfl (by kernel_rfl) (by kernel_rfl) (by kernel_rfl) (fun _ _ _ h => h) (Or.inl ⟨by rfl, fun w' _ => ?yQ2⟩) HH.out ?_
                  case yQ2 => (go_simp; try with_reducible rfl)
                  refine wpAnyH_take (i := 3) (v := ?vQ3) rfl (by kernel_rfl) (by kernel_rfl) (by kernel_rfl) (fun _ _ _ h => h) (Or.inl ⟨by rfl, fun w' _ => ?yQ3⟩) HH.out ?_
                  case yQ3 => (go_simp; try with_reducible rfl)
                  refine wpAnyH_take (i := 4) (v := .pointer (some ⟨[x1, x2].getD i 0, 0, none⟩)) rfl (by kernel_rfl) (by kernel_rfl) (by kernel_rfl) (fun _ _ _ h => h) (Or.inl ⟨by rfl, fun w' hw' => ?yQ4⟩) HH.out ?_
                  case yQ4 => (have hc := hw'.1; go_simp; try with_reducible rfl)
                  try simp only [List.getElem_toArray, List.getElem_cons_succ, List.getElem_cons_zero, Act.put, List.setIfInBounds_toArray, List.set_cons_zero, List.set_cons_succ]
                  refine wpAnyH_take (i := 5) (v := ?vQ5) rfl (by kernel_rfl) (by kernel_rfl) (by kernel_rfl) (fun _ _ _ h => h) (Or.inl ⟨by rfl, fun w' _ => ?yQ5⟩) HH.out ?_
                  case yQ5 => (go_simp; try with_reducible rfl)
                  refine wpAnyH_take (i := 6) (v := ?vQ6) rfl (by kernel_rfl) (by kernel_rfl) (by kernel_rfl) (fun _ _ _ h => h) (Or.inl ⟨by rfl, fun w' _ => ?yQ6⟩) HH.out ?_
                  case yQ6 => (go_simp; try with_reducible rfl)
                  refine wpAnyH_take (i := 7) (v := ?vQ7) rfl (by kernel_rfl) (by kernel_rfl) (by kernel_rfl) (fun _ _ _ h => h) (Or.inl ⟨by rfl, fun w' _ => ?yQ7⟩) HH.out ?_
                  case yQ7 => (go_simp; try with_reducible rfl)
                  try simp only [List.getElem_toArray, List.getElem_cons_succ, List.getElem_cons_zero, Act.put, List.setIfInBounds_toArray, List.set_cons_zero, List.set_cons_succ]
                  refine wpAnyH_take (i := 8) (v := .agg (dda x)) rfl (by kernel_rfl) (by kernel_rfl) (by kernel_rfl) (fun _ _ _ h => h) (Or.inl ⟨by rfl, fun w' hw' => ?yQ8⟩) HH.out ?_
                  case yQ8 => exact exec_load_at 36 (.tmp 82) rfl (ad.add (k * 5)) rfl (HCL.out w' hw'.2) Try.underlying36 rfl (by kernel_rfl)
                  try simp only [List.getElem_toArray, List.getElem_cons_succ, List.getElem_cons_zero, Act.put, List.setIfInBounds_toArray, List.set_cons_zero, List.set_cons_succ]
                  refine wpAnyH_ready (rs := [9, 13]) (by kernel_rfl) (by simp) (AllReadyH.cons rfl (fun K hK => ?_) (AllReadyH.cons rfl (fun K hK => ?_) AllReadyH.nil))
                  · skip
                    have J0 := Lib.hid (HJ.out.below (w' := wc.drew) (Below.refl _ _).drew)
                    have A0 := Lib.hid (RA.out.below (w' := wc.drew) (Below.refl _ _).drew)
                    have R0 := Lib.hid (RB.out.below (w' := wc.drew) (Below.refl _ _).drew)
                    have C0 := Lib.hid (RC.out.below (w' := wc.drew) (Below.refl _ _).drew)
                    go_simp
                    refine (HTO.out _ _ J0.out.rsys).mono ?_
                    rintro e w2 ⟨rfl, F2, h, hs, hb⟩
                    have J2 := Lib.hid (J0.out.ref h hs hb)
                    have A2 := Lib.hid (A0.out.ref hs hb)
                    have R2 := Lib.hid (R0.out.ref hs hb)
                    have C2 := Lib.hid (C0.out.ref hs hb)
                    clear h hs hb J0 A0 R0 C0
                    go_simp
                    refine hK.out _ _ ⟨ptr_cell R2.out.1 HII.out, B1.out.trans (J2.out.live.bel.mono B1.out.size)⟩ (fun hh => ?_)
                    have HH' := Lib.hid hh
                    clear hh hK K HH
                    have HH := Lib.hid HH'.out
                    clear HH'
                    refine wpAnyH_take (i := 10) (v := ?vQA10) rfl (by kernel_rfl) (by kernel_rfl) (by kernel_rfl) (fun _ _ _ h => h) (Or.inl ⟨by rfl, fun w' _ => ?yQA10⟩) HH.out ?_
                    case yQA10 => (go_simp; try with_reducible rfl)
                    refine wpAnyH_take (i := 11) (v := ?vQA11) rfl (by kernel_rfl) (by kernel_rfl) (by kernel_rfl) (fun _ _ _ h => h) (Or.inl ⟨by rfl, fun w' _ => ?yQA11⟩) HH.out ?_
                    case yQA11 => (go_simp; try with_reducible rfl)
                    refine wpAnyH_take (i := 12) (v := ?vQA12) rfl (by kernel_rfl) (by kernel_rfl) (by kernel_rfl) (fun _ _ _ h => h) (Or.inl ⟨by rfl, fun w' _ => ?yQA12⟩) HH.out ?_
                    case yQA12 => (go_simp; try with_reducible rfl)
                    try simp only [List.getElem_toArray, List.getElem_cons_succ, List.getElem_cons_zero, Act.put, List.setIfInBounds_toArray, List.set_cons_zero, List.set_cons_succ]
                    refine wpAnyH_ready (rs := [13]) (by kernel_rfl) (by simp) (AllReadyH.cons rfl (fun K hK => ?_) AllReadyH.nil)
                    have J3 := Lib.hid (J2.out.below (w' := w2.alloc (.cells (bva z) 38)) ((Below.refl _ _).alloc (Nat.le_refl _) _))
                    have X3 := Lib.hid (J2.out.fresh (show Blk (w2.alloc (.cells (bva z) 38)) w2.heap.size (bva z) 38 from heap_alloc_new _ _))
                    have LO := Lib.hid J2.out.live.bel.size
                    have A3 := Lib.hid (A2.out.below (w' := w2.alloc (.cells (bva z) 38)) ((Below.refl _ _).alloc (Nat.le_refl _) _))
                    have R3 := Lib.hid (R2.out.below (w' := w2.alloc (.cells (bva z) 38)) ((Below.refl _ _).alloc (Nat.le_refl _) _))
                    have C3 := Lib.hid (C2.out.below (w' := w2.alloc (.cells (bva z) 38)) ((Below.refl _ _).alloc (Nat.le_refl _) _))
                    have OLD := Lib.hid (show ∀ b, b < w2.heap.size → b ≠ w2.heap.size from fun b hb => by omega)
                    have NEC := Lib.hid (show qb ≠ w2.heap.size from by have := C2.out.1.lt; omega)
                    clear J2 A2 R2 C2
                    go_simp
                    refine hK.out _ _ ⟨ptr_cell R3.out.1 HII.out, B1.out.trans (J3.out.live.bel.mono B1.out.size)⟩ (fun hh => ?_)
                    have HH' := Lib.hid hh
                    clear hh hK K HH
                    have HH := Lib.hid HH'.out
                    clear HH'
                    refine wpAnyH_take (i := 14) (v := ?vQA14) rfl (by kernel_rfl) (by kernel_rfl) (by kernel_rfl) (fun _ _ _ h => h) (Or.inl ⟨by rfl, fun w' _ => ?yQA14⟩) HH.out ?_
                    case yQA14 => (go_simp; try with_reducible rfl)
                    try simp only [List.getElem_toArray, List.getElem_cons_succ, List.getElem_cons_zero, Act.put, List.setIfInBounds_toArray, List.set_cons_zero, List.set_cons_succ]
                    refine wpAnyH_ready (rs := [15]) (by kernel_rfl) (by simp) (AllReadyH.cons rfl (fun K hK => ?_) AllReadyH.nil)
                    rw [if_pos (by rfl)]
                    refine wp_store_row 38 (.tmp 16) (.tmp 86) rfl (w2.heap.size) (bva y) rfl rfl 38 (bva z) X3.out.1 HIY.out (by rw [bva_size, bva_size, HY3.out, HZ3.out]) (bva_one _) ?_
                    have HBT := Lib.hid (show But (fun r => r = w2.heap.size) (w2.alloc (.cells (bva z) 38)) ((w2.alloc (.cells (bva z) 38)).setRow (w2.heap.size) (bva y)) from But.setRow (S := fun r => r = w2.heap.size) (But.refl _) (.inl rfl) _)
                    have J4 := Lib.hid (J3.out.own HBT.out X3.out.2.1 X3.out.2.2 LO.out)
                    have X4 := Lib.hid (show BoxB ((w2.alloc (.cells (bva z) 38)).setRow (w2.heap.size) (bva y)) F3 F2 (w2.heap.size) (bva y) 38 from ⟨setRow_heap _ _ _ _ _ _ X3.out.1, X3.out.2⟩)
                    have A4 := Lib.hid (A3.out.own HBT.out (A3.out.ne X3.out.1 (by decide)))
                    have R4 := Lib.hid (R3.out.own HBT.out (R3.out.ne X3.out.1 (by decide)))
                    have C4 := Lib.hid (C3.out.own HBT.out NEC.out)
                    clear J3 X3 HBT LO A3 R3 C3
                    refine hK.out _ _ ⟨ptr_cell R4.out.1 HII.out, B1.out.trans (J4.out.live.bel.mono B1.out.size)⟩ (fun hh => ?_)
                    have HH' := Lib.hid hh
                    clear hh hK K HH
                    have HH := Lib.hid HH'.out
                    clear HH'
                    try simp only [List.getElem_toArray, List.getElem_cons_succ, List.getElem_cons_zero, Act.put]
                    refine wpAnyH_done (by kernel_rfl) ?_ _
                    go_wp2_with fail
                    go_meet
                    exact ⟨w2.heap.size, F2, rfl, rfl, J4.out, A4.out, R4.out, C4.out, X4.out⟩
                  · skip
                    have J0 := Lib.hid (HJ.out.below (w' := (wc.drew.alloc (.cells (bva z) 38))) ((Below.refl _ _).drew.alloc (Nat.le_refl _) _))
                    have X0 := Lib.hid (HJ.out.fresh (show Blk (wc.drew.alloc (.cells (bva z) 38)) wc.heap.size (bva z) 38 from heap_alloc_new _ _))
                    have LO := Lib.hid HJ.out.live.bel.size
                    have A0 := Lib.hid (RA.out.below (w' := (wc.drew.alloc (.cells (bva z) 38))) ((Below.refl _ _).drew.alloc (Nat.le_refl _) _))
                    have R0 := Lib.hid (RB.out.below (w' := (wc.drew.alloc (.cells (bva z) 38))) ((Below.refl _ _).drew.alloc (Nat.le_refl _) _))
                    have C0 := Lib.hid (RC.out.below (w' := (wc.drew.alloc (.cells (bva z) 38))) ((Below.refl _ _).drew.alloc (Nat.le_refl _) _))
                    have NEC := Lib.hid (show qb ≠ wc.heap.size from by have := RC.out.1.lt; omega)
                    go_simp
                    refine hK.out _ _ ⟨ptr_cell R0.out.1 HII.out, B1.out.trans (J0.out.live.bel.mono B1.out.size)⟩ (fun hh => ?_)
                    have HH' := Lib.hid hh
                    clear hh hK K HH
                    have HH := Lib.hid HH'.out
                    clear HH'
                    try simp only [List.getElem_toArray, List.getElem_cons_succ, List.getElem_cons_zero, Act.put, List.setIfInBounds_toArray, List.set_cons_zero, List.set_cons_succ]
                    refine wpAnyH_ready (rs := [9]) (by kernel_rfl) (by simp) (AllReadyH.cons rfl (fun K hK => ?_) AllReadyH.nil)
                    go_simp
                    refine (HTO.out _ _ J0.out.rsys).mono ?_
                    rintro e w2 ⟨rfl, F2, h, hs, hb⟩
                    have J3 := Lib.hid (J0.out.ref h hs hb)
                    have X3 := Lib.hid (X0.out.ref hs hb)
                    have A3 := Lib.hid (A0.out.ref hs hb)
                    have R3 := Lib.hid (R0.out.ref hs hb)
                    have C3 := Lib.hid (C0.out.ref hs hb)
                    clear h hs hb J0 X0 A0 R0 C0
                    go_simp
                    refine hK.out _ _ ⟨ptr_cell R3.out.1 HII.out, B1.out.trans (J3.out.live.bel.mono B1.out.size)⟩ (fun hh => ?_)
                    have HH' := Lib.hid hh
                    clear hh hK K HH
                    have HH := Lib.hid HH'.out
                    clear HH'
                    refine wpAnyH_take (i := 10) (v := ?vQB10) rfl (by kernel_rfl) (by kernel_rfl) (by kernel_rfl) (fun _ _ _ h => h) (Or.inl ⟨by rfl, fun w' _ => ?yQB10⟩) HH.out ?_
                    case yQB10 => (go_simp; try with_reducible rfl)
                    refine wpAnyH_take (i := 11) (v := ?vQB11) rfl (by kernel_rfl) (by kernel_rfl) (by kernel_rfl) (fun _ _ _ h => h) (Or.inl ⟨by rfl, fun w' _ => ?yQB11⟩) HH.out ?_
                    case yQB11 => (go_simp; try with_reducible rfl)
                    refine wpAnyH_take (i := 12) (v := ?vQB12) rfl (by kernel_rfl) (by kernel_rfl) (by kernel_rfl) (fun _ _ _ h => h) (Or.inl ⟨by rfl, fun w' _ => ?yQB12⟩) HH.out ?_
                    case yQB12 => (go_simp; try with_reducible rfl)
                    refine wpAnyH_take (i := 14) (v := ?vQB14) rfl (by kernel_rfl) (by kernel_rfl) (by kernel_rfl) (fun _ _ _ h => h) (Or.inl ⟨by rfl, fun w' _ => ?yQB14⟩) HH.out ?_
                    case yQB14 => (go_simp; try with_reducible rfl)
                    try simp only [List.getElem_toArray, List.getElem_cons_succ, List.getElem_cons_zero, Act.put, List.setIfInBounds_toArray, List.set_cons_zero, List.set_cons_succ]
                    refine wpAnyH_ready (rs := [15]) (by kernel_rfl) (by simp) (AllReadyH.cons rfl (fun K hK => ?_) AllReadyH.nil)
                    rw [if_pos (by rfl)]
                    refine wp_store_row 38 (.tmp 16) (.tmp 86) rfl (wc.heap.size) (bva y) rfl rfl 38 (bva z) X3.out.1 HIY.out (by rw [bva_size, bva_size, HY3.out, HZ3.out]) (bva_one _) ?_
                    have HBT := Lib.hid (show But (fun r => r = wc.heap.size) w2 (w2.setRow (wc.heap.size) (bva y)) from But.setRow (S := fun r => r = wc.heap.size) (But.refl _) (.inl rfl) _)
                    have J4 := Lib.hid (J3.out.own HBT.out X3.out.2.1 X3.out.2.2 LO.out)
                    have X4 := Lib.hid (show BoxB (w2.setRow (wc.heap.size) (bva y)) F3 F2 (wc.heap.size) (bva y) 38 from ⟨setRow_heap _ _ _ _ _ _ X3.out.1, X3.out.2⟩)
                    have A4 := Lib.hid (A3.out.own HBT.out (A3.out.ne X3.out.1 (by decide)))
                    have R4 := Lib.hid (R3.out.own HBT.out (R3.out.ne X3.out.1 (by decide)))
                    have C4 := Lib.hid (C3.out.own HBT.out NEC.out)
                    clear J3 X3 HBT LO A3 R3 C3
                    refine hK.out _ _ ⟨ptr_cell R4.out.1 HII.out, B1.out.trans (J4.out.live.bel.mono B1.out.size)⟩ (fun hh => ?_)
                    have HH' := Lib.hid hh
                    clear hh hK K HH
                    have HH := Lib.hid HH'.out
                    clear HH'
                    try simp only [List.getElem_toArray, List.getElem_cons_succ, List.getElem_cons_zero, Act.put]
                    refine wpAnyH_done (by kernel_rfl) ?_ _
                    go_wp2_with fail
                    go_meet
                    exact ⟨wc.heap.size, F2, rfl, rfl, J4.out, A4.out, R4.out, C4.out, X4.out⟩
                case rest =>
                  obtain ⟨qc, G3, rfl, rfl, hj, ha, hr, hx, hx2⟩ := hcut
                  clear HJ RA RB RC HTO
                  have HJ := Lib.hid hj
                  have RA := Lib.hid ha
                  have RB := Lib.hid hr
                  have RC := Lib.hid hx
                  have RD := Lib.hid hx2
                  clear hj ha hr hx hx2
                  skip
                  obtain ⟨o, ho⟩ : ∃ o, o = S2.p.off := ⟨_, rfl⟩
                  have HON := Lib.hid (show ∀ w', Below wc.heap.size wc w' → Calls Try.prog 18 #[.pointer (some ⟨p, 0, none⟩)] w' (Ret0 (.bool (!o)) w') from fun w' hb => by rw [ho]; exact on_sys (HJ.out.live.below hb).sys)
                  have HQC := Lib.hid (show ∀ w', Below wc.heap.size wc w' → w'.cell? ⟨q, 1, none⟩ = some (.bool o) from fun w' hb => by
                    obtain ⟨Fs, FA, fc, h, _, _⟩ := HJ.out.rsys.below hb
                    rw [ho]; exact h.pow.blk.cell 1)
                  have HEQ := Lib.hid (show ∀ W, (Op.equalIn 10000 38 (.agg (bva y)) (.agg (bva y))).run Try.prog W = .ok true W from fun W => by rw [eq_sec y y HY3.out HY3.out, decide_eq_true rfl])
                  clear ho
                  go_wp2_with fail
                  refine wp_region_held_drew (S := fun w' => Below wc.heap.size wc w') (by kernel_rfl) (Below.refl wc.heap.size wc).drew (fun hh => ?_)
                  have HH := Lib.hid hh
                  clear hh
                  refine wpAnyH_take (i := 0) (v := ?vU0) rfl (by kernel_rfl) (by kernel_rfl) (by kernel_rfl) (fun _ _ _ h => h) (Or.inl ⟨by rfl, fun w' _ => ?yU0⟩) HH.out ?_
                  case yU0 => (go_simp; try with_reducible rfl)
                  refine wpAnyH_take (i := 1) (v := ?vU1) rfl (by kernel_rfl) (by kernel_rfl) (by kernel_rfl) (fun _ _ _ h => h) (Or.inl ⟨by rfl, fun w' _ => ?yU1⟩) HH.out ?_
                  case yU1 => (go_simp; try with_reducible rfl)
                  try simp only [List.getElem_toArray, List.getElem_cons_succ, List.getElem_cons_zero, Act.put, List.setIfInBounds_toArray, List.set_cons_zero, List.set_cons_succ]
                  refine wpAnyH_take (i := 2) (v := .bool false) rfl (by kernel_rfl) (by kernel_rfl) (by kernel_rfl) (fun _ _ _ h => h) (Or.inl ⟨by rfl, fun w' hw' => ?yU2⟩) HH.out ?_
                  case yU2 => (go_simp; try simp)
                  refine wpAnyH_take (i := 3) (v := ?vU3) rfl (by kernel_rfl) (by kernel_rfl) (by kernel_rfl) (fun _ _ _ h => h) (Or.inl ⟨by rfl, fun w' _ => ?yU3⟩) HH.out ?_
                  case yU3 => (go_simp; try with_reducible rfl)
                  refine wpAnyH_take (i := 4) (v := .agg (bva y)) rfl (by kernel_rfl) (by kernel_rfl) (by kernel_rfl) (fun _ _ _ h => h) (Or.inl ⟨by rfl, fun w' hw' => ?yU4⟩) HH.out ?_
                  case yU4 => exact exec_load 38 (.tmp 14) rfl rfl (RC.out.1.below hw') Try.underlying38 rfl HIY.out
                  try simp only [List.getElem_toArray, List.getElem_cons_succ, List.getElem_cons_zero, Act.put, List.setIfInBounds_toArray, List.set_cons_zero, List.set_cons_succ]
                  refine wpAnyH_take (i := 5) (v := .agg (bva y)) rfl (by kernel_rfl) (by kernel_rfl) (by kernel_rfl) (fun _ _ _ h => h) (Or.inl ⟨by rfl, fun w' hw' => ?yU5⟩) HH.out ?_
                  case yU5 => exact exec_load 38 (.tmp 16) rfl rfl (RD.out.1.below hw') Try.underlying38 rfl HIY.out
                  refine wpAnyH_take (i := 6) (v := .bool false) rfl (by kernel_rfl) (by kernel_rfl) (by kernel_rfl) (fun _ _ _ h => h) (Or.inl ⟨by rfl, fun w' hw' => ?yU6⟩) HH.out ?_
                  case yU6 => (go_simp; rw [HEQ.out]; try rfl)
                  refine wpAnyH_take (i := 7) (v := ?vU7) rfl (by kernel_rfl) (by kernel_rfl) (by kernel_rfl) (fun _ _ _ h => h) (Or.inl ⟨by rfl, fun w' _ => ?yU7⟩) HH.out ?_
                  case yU7 => (go_simp; try with_reducible rfl)
                  try simp only [List.getElem_toArray, List.getElem_cons_succ, List.getElem_cons_zero, Act.put, List.setIfInBounds_toArray, List.set_cons_zero, List.set_cons_succ]
                  refine wpAnyH_take (i := 8) (v := ?vU8) rfl (by kernel_rfl) (by kernel_rfl) (by kernel_rfl) (fun _ _ _ h => h) (Or.inl ⟨by rfl, fun w' _ => ?yU8⟩) HH.out ?_
                  case yU8 => (go_simp; try with_reducible rfl)
                  try simp only [List.getElem_toArray, List.getElem_cons_succ, List.getElem_cons_zero, Act.put, List.setIfInBounds_toArray, List.set_cons_zero, List.set_cons_succ]
                  refine wpAnyH_take (i := 9) (v := ?vU9) rfl (by kernel_rfl) (by kernel_rfl) (by kernel_rfl) (fun _ _ _ h => h) (Or.inl ⟨by rfl, fun w' _ => ?yU9⟩) HH.out ?_
                  case yU9 => (go_simp; try with_reducible rfl)
                  try simp only [List.getElem_toArray, List.getElem_cons_succ, List.getElem_cons_zero, Act.put, List.setIfInBounds_toArray, List.set_cons_zero, List.set_cons_succ]
                  refine wpAnyH_take (i := 11) (v := ?vU11) rfl (by kernel_rfl) (by kernel_rfl) (by kernel_rfl) (fun _ _ _ h => h) (Or.inl ⟨by rfl, fun w' _ => ?yU11⟩) HH.out ?_
                  case yU11 => (go_simp; try with_reducible rfl)
                  try simp only [List.getElem_toArray, List.getElem_cons_succ, List.getElem_cons_zero, Act.put, List.setIfInBounds_toArray, List.set_cons_zero, List.set_cons_succ]
                  refine wpAnyH_take (i := 12) (v := ?vU12) rfl (by kernel_rfl) (by kernel_rfl) (by kernel_rfl) (fun _ _ _ h => h) (Or.inl ⟨by rfl, fun w' _ => ?yU12⟩) HH.out ?_
                  case yU12 => (go_simp; try with_reducible rfl)
                  try simp only [List.getElem_toArray, List.getElem_cons_succ, List.getElem_cons_zero, Act.put, List.setIfInBounds_toArray, List.set_cons_zero, List.set_cons_succ]
                  refine wpAnyH_take (i := 13) (v := ?vU13) rfl (by kernel_rfl) (by kernel_rfl) (by kernel_rfl) (fun _ _ _ h => h) (Or.inl ⟨by rfl, fun w' _ => ?yU13⟩) HH.out ?_
                  case yU13 => (go_simp; try with_reducible rfl)
                  refine wpAnyH_take (i := 14) (v := .bool o) rfl (by kernel_rfl) (by kernel_rfl) (by kernel_rfl) (fun _ _ _ h => h) (Or.inl ⟨by rfl, fun w' hw' => ?yU14⟩) HH.out ?_
                  case yU14 => (have hc := HQC.out w' hw'; go_simp; try with_reducible rfl)
                  try simp only [List.getElem_toArray, List.getElem_cons_succ, List.getElem_cons_zero, Act.put, List.setIfInBounds_toArray, List.set_cons_zero, List.set_cons_succ]
                  refine wpAnyH_ready (rs := [10]) (by kernel_rfl) (by simp) (AllReadyH.cons rfl (fun K hK => ?_) AllReadyH.nil)
                  go_simp
                  refine (HON.out _ HH.out).mono ?_
                  rintro e v1 ⟨rfl, rfl⟩
                  go_simp
                  refine hK.out _ _ HH.out (fun hh => ?_)
                  have HH' := Lib.hid hh
                  clear hh hK K HH 
                  have HH := Lib.hid HH'.out
                  clear HH'
                  refine wpAnyH_take (i := 15) (v := .bool false) rfl (by kernel_rfl) (by kernel_rfl) (by kernel_rfl) (fun _ _ _ h => h) (Or.inl ⟨by rfl, fun w' hw' => ?yU15⟩) HH.out ?_
                  case yU15 => (go_simp; try (cases o <;> rfl))
                  refine wpAnyH_take (i := 16) (v := ?vU16) rfl (by kernel_rfl) (by kernel_rfl) (by kernel_rfl) (fun _ _ _ h => h) (Or.inl ⟨by rfl, fun w' _ => ?yU16⟩) HH.out ?_
                  case yU16 => (go_simp; try with_reducible rfl)
                  try simp only [List.getElem_toArray, List.getElem_cons_succ, List.getElem_cons_zero, Act.put, List.setIfInBounds_toArray, List.set_cons_zero, List.set_cons_succ]
                  refine wpAnyH_done (by kernel_rfl) ?_ _
                  clear HON HQC HEQ RC RD
                  go_wp2_with fail
                  go_loopw [17] (fun xx wy => ∃ j : Nat, j ≤ 2 ∧ xx = .int .i64 j ∧ Below wc.heap.size wc wy) (fun xx _ => 2 - (intOf xx).toNat)
                  case atStart => exact ⟨0, by omega, rfl, HH.out⟩
                  case round =>
                    obtain ⟨j, hj, rfl, hb⟩ := hrel
                    clear HH
                    have HJJ := Lib.hid hj
                    have HB := Lib.hid hb
                    clear hj hb
                    by_cases hlt : j < 2
                    · have HLJ := Lib.hid hlt
                      have j0 : (0 : Int) ≤ (j : Int) := by omega
                      have j1 : (j : Int) < 2 := by omega
                      obtain ⟨Fs, FA, fc, hR, _, _⟩ := (HJ.out.below HB.out).rsys
                      obtain ⟨A3, n3, c3, W3, m3, e3, hd3, _⟩ := hR.dev j (by rw [HS2L.out]; exact hlt)
                      have HD3 := Lib.hid hd3
                      obtain ⟨gj, hgj⟩ : ∃ gj, gj = [g1, g2].getD j 0 := ⟨_, rfl⟩
                      obtain ⟨xj, hxj⟩ : ∃ xj, xj = [x1, x2].getD j 0 := ⟨_, rfl⟩
                      rw [← hxj] at HD3
                      have HPA := Lib.hid (show ∀ w', Below wr.heap.size wr w' → w'.cell? ⟨r9, j, none⟩ = some (.pointer (some ⟨gj, 0, none⟩)) from fun w' hb => by rw [hgj]; exact ptr_cell ((RA.out.below HB.out).below hb).1 hlt)
                      have HPB := Lib.hid (show ∀ w', Below wr.heap.size wr w' → w'.cell? ⟨r10, j, none⟩ = some (.pointer (some ⟨xj, 0, none⟩)) from fun w' hb => by rw [hxj]; exact ptr_cell ((RB.out.below HB.out).below hb).1 hlt)
                      have HC0 := Lib.hid (show ∀ w', Below wr.heap.size wr w' → w'.cell? ⟨xj, 0, none⟩ = some (.slice A3 n3 c3) from fun w' hb => (HD3.out.below hb).blk.cell 0)
                      have HC1 := Lib.hid (show ∀ w', Below wr.heap.size wr w' → w'.cell? ⟨xj, 1, none⟩ = some (.slice W3 m3 e3) from fun w' hb => (HD3.out.below hb).blk.cell 1)
                      have HLEN := Lib.hid (show ∀ w', Below wr.heap.size wr w' → Calls Try.prog 19 #[.pointer (some ⟨gj, 0, none⟩)] w' (Ret0 (.int .i64 (n3 : Int)) w') from fun w' hb => by
                        rw [hgj, ← HD3.out.stn]; exact len_sys ((HJ.out.below HB.out).below hb).live.sys j (by rw [HS2L.out]; exact hlt))
                      have HWAI := Lib.hid (show ∀ w', Below wr.heap.size wr w' → Calls Try.prog 20 #[.pointer (some ⟨gj, 0, none⟩)] w' (Ret0 (.int .i64 (m3 : Int)) w') from fun w' hb => by
                        rw [hgj, ← HD3.out.wtn]; exact waiting_sys ((HJ.out.below HB.out).below hb).live.sys j (by rw [HS2L.out]; exact hlt))
                      have HDUM := Lib.hid (show ∀ w', Below wr.heap.size wr w' → Calls Try.prog 22 #[.pointer (some ⟨gj, 0, none⟩)] w' (fun e w'' => ∃ A n c, e = .returned (.slice A n c) ∧ (S2.at j).st.length = n ∧ Rd w''.heap.size w'' A (svs (S2.at j).st) ∧ Below w'.heap.size w' w'') from fun w' hb => by
                        rw [hgj]
                        exact (live_dump ((HJ.out.below HB.out).below hb).live j (by rw [HS2L.out]; exact hlt)).mono fun _ _ ⟨A, n, c, h0, h1, h2, h3⟩ => ⟨A, n, c, h0, h1, h2.rd, h3⟩)
                      have HO3 := Lib.hid (show (∀ s ∈ (S2.at j).st, s.length = 128) ∧ (S2.at j).st.length ≤ 4096 from ⟨HD3.out.ok.st, HD3.out.ok.len⟩)
                      clear hgj hxj hR hd3 hlt
                      go_wp2_with fail
                      refine wp_region_held_drew (S := fun w' => Below wr.heap.size wr w') (by kernel_rfl) (Below.refl wr.heap.size wr).drew (fun hh => ?_)
                      have HH := Lib.hid hh
                      clear hh
                      refine wpAnyH_take (i := 0) (v := ?vV0) rfl (by kernel_rfl) (by kernel_rfl) (by kernel_rfl) (fun _ _ _ h => h) (Or.inl ⟨by rfl, fun w' _ => ?yV0⟩) HH.out ?_
                      case yV0 => (go_simp; try with_reducible rfl)
                      refine wpAnyH_take (i := 1) (v := ?vV1) rfl (by kernel_rfl) (by kernel_rfl) (by kernel_rfl) (fun _ _ _ h => h) (Or.inl ⟨by rfl, fun w' _ => ?yV1⟩) HH.out ?_
                      case yV1 => (go_simp; try with_reducible rfl)
                      try simp only [List.getElem_toArray, List.getElem_cons_succ, List.getElem_cons_zero, Act.put, List.setIfInBounds_toArray, List.set_cons_zero, List.set_cons_succ]
                      refine wpAnyH_take (i := 2) (v := ?vV2) rfl (by kernel_rfl) (by kernel_rfl) (by kernel_rfl) (fun _ _ _ h => h) (Or.inl ⟨by rfl, fun w' _ => ?yV2⟩) HH.out ?_
                      case yV2 => (go_simp; try with_reducible rfl)
                      refine wpAnyH_take (i := 3) (v := .pointer (some ⟨gj, 0, none⟩)) rfl (by kernel_rfl) (by kernel_rfl) (by kernel_rfl) (fun _ _ _ h => h) (Or.inl ⟨by rfl, fun w' hw' => ?yV3⟩) HH.out ?_
                      case yV3 => (have hc := HPA.out w' hw'; go_simp; try with_reducible rfl)
                      refine wpAnyH_take (i := 5) (v := ?vV5) rfl (by kernel_rfl) (by kernel_rfl) (by kernel_rfl) (fun _ _ _ h => h) (Or.inl ⟨by rfl, fun w' _ => ?yV5⟩) HH.out ?_
                      case yV5 => (go_simp; try with_reducible rfl)
                      try simp only [List.getElem_toArray, List.getElem_cons_succ, List.getElem_cons_zero, Act.put, List.setIfInBounds_toArray, List.set_cons_zero, List.set_cons_succ]
                      refine wpAnyH_take (i := 6) (v := ?vV6) rfl (by kernel_rfl) (by kernel_rfl) (by kernel_rfl) (fun _ _ _ h => h) (Or.inl ⟨by rfl, fun w' _ => ?yV6⟩) HH.out ?_
                      case yV6 => (go_simp; try with_reducible rfl)
                      refine wpAnyH_take (i := 7) (v := ?vV7) rfl (by kernel_rfl) (by kernel_rfl) (by kernel_rfl) (fun _ _ _ h => h) (Or.inl ⟨by rfl, fun w' _ => ?yV7⟩) HH.out ?_
                      case yV7 => (go_simp; try with_reducible rfl)
                      refine wpAnyH_take (i := 8) (v := .pointer (some ⟨xj, 0, none⟩)) rfl (by kernel_rfl) (by kernel_rfl) (by kernel_rfl) (fun _ _ _ h => h) (Or.inl ⟨by rfl, fun w' hw' => ?yV8⟩) HH.out ?_
                      case yV8 => (have hc := HPB.out w' hw'; go_simp; try with_reducible rfl)
                      try simp only [List.getElem_toArray, List.getElem_cons_succ, List.getElem_cons_zero, Act.put, List.setIfInBounds_toArray, List.set_cons_zero, List.set_cons_succ]
                      refine wpAnyH_take (i := 9) (v := ?vV9) rfl (by kernel_rfl) (by kernel_rfl) (by kernel_rfl) (fun _ _ _ h => h) (Or.inl ⟨by rfl, fun w' _ => ?yV9⟩) HH.out ?_
                      case yV9 => (go_simp; try with_reducible rfl)
                      refine wpAnyH_take (i := 10) (v := ?vV10) rfl (by kernel_rfl) (by kernel_rfl) (by kernel_rfl) (fun _ _ _ h => h) (Or.inl ⟨by rfl, fun w' _ => ?yV10⟩) HH.out ?_
                      case yV10 => (go_simp; try with_reducible rfl)
                      refine wpAnyH_take (i := 11) (v := .slice A3 n3 c3) rfl (by kernel_rfl) (by kernel_rfl) (by kernel_rfl) (fun _ _ _ h => h) (Or.inl ⟨by rfl, fun w' hw' => ?yV11⟩) HH.out ?_
                      case yV11 => (have hc := HC0.out w' hw'; go_simp; try with_reducible rfl)
                      try simp only [List.getElem_toArray, List.getElem_cons_succ, List.getElem_cons_zero, Act.put, List.setIfInBounds_toArray, List.set_cons_zero, List.set_cons_succ]
                      refine wpAnyH_take (i := 12) (v := .int .i64 (n3 : Int)) rfl (by kernel_rfl) (by kernel_rfl) (by kernel_rfl) (fun _ _ _ h => h) (Or.inl ⟨by rfl, fun w' hw' => ?yV12⟩) HH.out ?_
                      case yV12 => (go_simp; try with_reducible rfl)
                      try simp only [List.getElem_toArray, List.getElem_cons_succ, List.getElem_cons_zero, Act.put, List.setIfInBounds_toArray, List.set_cons_zero, List.set_cons_succ]
                      refine wpAnyH_ready (rs := [4]) (by kernel_rfl) (by simp) (AllReadyH.cons rfl (fun K hK => ?_) AllReadyH.nil)
                      go_simp
                      refine (HLEN.out _ HH.out).mono ?_
                      rintro e v1 ⟨rfl, rfl⟩
                      go_simp
                      refine hK.out _ _ HH.out (fun hh => ?_)
                      have HH' := Lib.hid hh
                      clear hh hK K HH 
                      have HH := Lib.hid HH'.out
                      clear HH'
                      refine wpAnyH_take (i := 13) (v := .bool false) rfl (by kernel_rfl) (by kernel_rfl) (by kernel_rfl) (fun _ _ _ h => h) (Or.inl ⟨by rfl, fun w' hw' => ?yV13⟩) HH.out ?_
                      case yV13 => (go_simp; try simp)
                      try simp only [List.getElem_toArray, List.getElem_cons_succ, List.getElem_cons_zero, Act.put, List.setIfInBounds_toArray, List.set_cons_zero, List.set_cons_succ]
                      refine wpAnyH_take (i := 14) (v := ?vV14) rfl (by kernel_rfl) (by kernel_rfl) (by kernel_rfl) (fun _ _ _ h => h) (Or.inl ⟨by rfl, fun w' _ => ?yV14⟩) HH.out ?_
                      case yV14 => (go_simp; try with_reducible rfl)
                      try simp only [List.getElem_toArray, List.getElem_cons_succ, List.getElem_cons_zero, Act.put, List.setIfInBounds_toArray, List.set_cons_zero, List.set_cons_succ]
                      refine wpAnyH_take (i := 15) (v := ?vV15) rfl (by kernel_rfl) (by kernel_rfl) (by kernel_rfl) (fun _ _ _ h => h) (Or.inl ⟨by rfl, fun w' _ => ?yV15⟩) HH.out ?_
                      case yV15 => (go_simp; try with_reducible rfl)
                      try simp only [List.getElem_toArray, List.getElem_cons_succ, List.getElem_cons_zero, Act.put, List.setIfInBounds_toArray, List.set_cons_zero, List.set_cons_succ]
                      refine wpAnyH_take (i := 16) (v := ?vV16) rfl (by kernel_rfl) (by kernel_rfl) (by kernel_rfl) (fun _ _ _ h => h) (Or.inl ⟨by rfl, fun w' _ => ?yV16⟩) HH.out ?_
                      case yV16 => (go_simp; try with_reducible rfl)
                      try simp only [List.getElem_toArray, List.getElem_cons_succ, List.getElem_cons_zero, Act.put, List.setIfInBounds_toArray, List.set_cons_zero, List.set_cons_succ]
                      refine wpAnyH_take (i := 17) (v := ?vV17) rfl (by kernel_rfl) (by kernel_rfl) (by kernel_rfl) (fun _ _ _ h => h) (Or.inl ⟨by rfl, fun w' _ => ?yV17⟩) HH.out ?_
                      case yV17 => (go_simp; try with_reducible rfl)
                      refine wpAnyH_take (i := 18) (v := .pointer (some ⟨gj, 0, none⟩)) rfl (by kernel_rfl) (by kernel_rfl) (by kernel_rfl) (fun _ _ _ h => h) (Or.inl ⟨by rfl, fun w' hw' => ?yV18⟩) HH.out ?_
                      case yV18 => (have hc := HPA.out w' hw'; go_simp; try with_reducible rfl)
                      try simp only [List.getElem_toArray, List.getElem_cons_succ, List.getElem_cons_zero, Act.put, List.setIfInBounds_toArray, List.set_cons_zero, List.set_cons_succ]
                      refine wpAnyH_take (i := 20) (v := ?vV20) rfl (by kernel_rfl) (by kernel_rfl) (by kernel_rfl) (fun _ _ _ h => h) (Or.inl ⟨by rfl, fun w' _ => ?yV20⟩) HH.out ?_
                      case yV20 => (go_simp; try with_reducible rfl)
                      try simp only [List.getElem_toArray, List.getElem_cons_succ, List.getElem_cons_zero, Act.put, List.setIfInBounds_toArray, List.set_cons_zero, List.set_cons_succ]
                      refine wpAnyH_take (i := 21) (v := ?vV21) rfl (by kernel_rfl) (by kernel_rfl) (by kernel_rfl) (fun _ _ _ h => h) (Or.inl ⟨by rfl, fun w' _ => ?yV21⟩) HH.out ?_
                      case yV21 => (go_simp; try with_reducible rfl)
                      try simp only [List.getElem_toArray, List.getElem_cons_succ, List.getElem_cons_zero, Act.put, List.setIfInBounds_toArray, List.set_cons_zero, List.set_cons_succ]
                      refine wpAnyH_take (i := 22) (v := ?vV22) rfl (by kernel_rfl) (by kernel_rfl) (by kernel_rfl) (fun _ _ _ h => h) (Or.inl ⟨by rfl, fun w' _ => ?yV22⟩) HH.out ?_
                      case yV22 => (go_simp; try with_reducible rfl)
                      refine wpAnyH_take (i := 23) (v := .pointer (some ⟨xj, 0, none⟩)) rfl (by kernel_rfl) (by kernel_rfl) (by kernel_rfl) (fun _ _ _ h => h) (Or.inl ⟨by rfl, fun w' hw' => ?yV23⟩) HH.out ?_
                      case yV23 => (have hc := HPB.out w' hw'; go_simp; try with_reducible rfl)
                      try simp only [List.getElem_toArray, List.getElem_cons_succ, List.getElem_cons_zero, Act.put, List.setIfInBounds_toArray, List.set_cons_zero, List.set_cons_succ]
                      refine wpAnyH_take (i := 24) (v := ?vV24) rfl (by kernel_rfl) (by kernel_rfl) (by kernel_rfl) (fun _ _ _ h => h) (Or.inl ⟨by rfl, fun w' _ => ?yV24⟩) HH.out ?_
                      case yV24 => (go_simp; try with_reducible rfl)
                      try simp only [List.getElem_toArray, List.getElem_cons_succ, List.getElem_cons_zero, Act.put, List.setIfInBounds_toArray, List.set_cons_zero, List.set_cons_succ]
                      refine wpAnyH_take (i := 25) (v := ?vV25) rfl (by kernel_rfl) (by kernel_rfl) (by kernel_rfl) (fun _ _ _ h => h) (Or.inl ⟨by rfl, fun w' _ => ?yV25⟩) HH.out ?_
                      case yV25 => (go_simp; try with_reducible rfl)
                      refine wpAnyH_take (i := 26) (v := .slice W3 m3 e3) rfl (by kernel_rfl) (by kernel_rfl) (by kernel_rfl) (fun _ _ _ h => h) (Or.inl ⟨by rfl, fun w' hw' => ?yV26⟩) HH.out ?_
                      case yV26 => (have hc := HC1.out w' hw'; go_simp; try with_reducible rfl)
                      try simp only [List.getElem_toArray, List.getElem_cons_succ, List.getElem_cons_zero, Act.put, List.setIfInBounds_toArray, List.set_cons_zero, List.set_cons_succ]
                      refine wpAnyH_take (i := 27) (v := .int .i64 (m3 : Int)) rfl (by kernel_rfl) (by kernel_rfl) (by kernel_rfl) (fun _ _ _ h => h) (Or.inl ⟨by rfl, fun w' hw' => ?yV27⟩) HH.out ?_
                      case yV27 => (go_simp; try with_reducible rfl)
                      try simp only [List.getElem_toArray, List.getElem_cons_succ, List.getElem_cons_zero, Act.put, List.setIfInBounds_toArray, List.set_cons_zero, List.set_cons_succ]
                      refine wpAnyH_ready (rs := [19]) (by kernel_rfl) (by simp) (AllReadyH.cons rfl (fun K hK => ?_) AllReadyH.nil)
                      go_simp
                      refine (HWAI.out _ HH.out).mono ?_
                      rintro e v1 ⟨rfl, rfl⟩
                      go_simp
                      refine hK.out _ _ HH.out (fun hh => ?_)
                      have HH' := Lib.hid hh
                      clear hh hK K HH 
                      have HH := Lib.hid HH'.out
                      clear HH'
                      refine wpAnyH_take (i := 28) (v := .bool false) rfl (by kernel_rfl) (by kernel_rfl) (by kernel_rfl) (fun _ _ _ h => h) (Or.inl ⟨by rfl, fun w' hw' => ?yV28⟩) HH.out ?_
                      case yV28 => (go_simp; try simp)
                      try simp only [List.getElem_toArray, List.getElem_cons_succ, List.getElem_cons_zero, Act.put, List.setIfInBounds_toArray, List.set_cons_zero, List.set_cons_succ]
                      refine wpAnyH_take (i := 29) (v := ?vV29) rfl (by kernel_rfl) (by kernel_rfl) (by kernel_rfl) (fun _ _ _ h => h) (Or.inl ⟨by rfl, fun w' _ => ?yV29⟩) HH.out ?_
                      case yV29 => (go_simp; try with_reducible rfl)
                      refine wpAnyH_take (i := 30) (v := ?vV30) rfl (by kernel_rfl) (by kernel_rfl) (by kernel_rfl) (fun _ _ _ h => h) (Or.inl ⟨by rfl, fun w' _ => ?yV30⟩) HH.out ?_
                      case yV30 => (go_simp; try with_reducible rfl)
                      try simp only [List.getElem_toArray, List.getElem_cons_succ, List.getElem_cons_zero, Act.put, List.setIfInBounds_toArray, List.set_cons_zero, List.set_cons_succ]
                      refine wpAnyH_take (i := 31) (v := ?vV31) rfl (by kernel_rfl) (by kernel_rfl) (by kernel_rfl) (fun _ _ _ h => h) (Or.inl ⟨by rfl, fun w' _ => ?yV31⟩) HH.out ?_
                      case yV31 => (go_simp; try with_reducible rfl)
                      try simp only [List.getElem_toArray, List.getElem_cons_succ, List.getElem_cons_zero, Act.put, List.setIfInBounds_toArray, List.set_cons_zero, List.set_cons_succ]
                      refine wpAnyH_take (i := 32) (v := ?vV32) rfl (by kernel_rfl) (by kernel_rfl) (by kernel_rfl) (fun _ _ _ h => h) (Or.inl ⟨by rfl, fun w' _ => ?yV32⟩) HH.out ?_
                      case yV32 => (go_simp; try with_reducible rfl)
                      try simp only [List.getElem_toArray, List.getElem_cons_succ, List.getElem_cons_zero, Act.put, List.setIfInBounds_toArray, List.set_cons_zero, List.set_cons_succ]
                      refine wpAnyH_take (i := 33) (v := ?vV33) rfl (by kernel_rfl) (by kernel_rfl) (by kernel_rfl) (fun _ _ _ h => h) (Or.inl ⟨by rfl, fun w' _ => ?yV33⟩) HH.out ?_
                      case yV33 => (go_simp; try with_reducible rfl)
                      refine wpAnyH_take (i := 34) (v := .pointer (some ⟨gj, 0, none⟩)) rfl (by kernel_rfl) (by kernel_rfl) (by kernel_rfl) (fun _ _ _ h => h) (Or.inl ⟨by rfl, fun w' hw' => ?yV34⟩) HH.out ?_
                      case yV34 => (have hc := HPA.out w' hw'; go_simp; try with_reducible rfl)
                      try simp only [List.getElem_toArray, List.getElem_cons_succ, List.getElem_cons_zero, Act.put, List.setIfInBounds_toArray, List.set_cons_zero, List.set_cons_succ]
                      refine wpAnyH_take (i := 36) (v := ?vV36) rfl (by kernel_rfl) (by kernel_rfl) (by kernel_rfl) (fun _ _ _ h => h) (Or.inl ⟨by rfl, fun w' _ => ?yV36⟩) HH.out ?_
                      case yV36 => (go_simp; try with_reducible rfl)
                      try simp only [List.getElem_toArray, List.getElem_cons_succ, List.getElem_cons_zero, Act.put, List.setIfInBounds_toArray, List.set_cons_zero, List.set_cons_succ]
                      refine wpAnyH_take (i := 37) (v := ?vV37) rfl (by kernel_rfl) (by kernel_rfl) (by kernel_rfl) (fun _ _ _ h => h) (Or.inl ⟨by rfl, fun w' _ => ?yV37⟩) HH.out ?_
                      case yV37 => (go_simp; try with_reducible rfl)
                      try simp only [List.getElem_toArray, List.getElem_cons_succ, List.getElem_cons_zero, Act.put, List.setIfInBounds_toArray, List.set_cons_zero, List.set_cons_succ]
                      refine wpAnyH_take (i := 38) (v := ?vV38) rfl (by kernel_rfl) (by kernel_rfl) (by kernel_rfl) (fun _ _ _ h => h) (Or.inl ⟨by rfl, fun w' _ => ?yV38⟩) HH.out ?_
                      case yV38 => (go_simp; try with_reducible rfl)
                      try simp only [List.getElem_toArray, List.getElem_cons_succ, List.getElem_cons_zero, Act.put, List.setIfInBounds_toArray, List.set_cons_zero, List.set_cons_succ]
                      refine wpAnyH_take (i := 39) (v := .pointer (some ⟨xj, 0, none⟩)) rfl (by kernel_rfl) (by kernel_rfl) (by kernel_rfl) (fun _ _ _ h => h) (Or.inl ⟨by rfl, fun w' hw' => ?yV39⟩) HH.out ?_
                      case yV39 => (have hc := HPB.out w' hw'; go_simp; try with_reducible rfl)
                      try simp only [List.getElem_toArray, List.getElem_cons_succ, List.getElem_cons_zero, Act.put, List.setIfInBounds_toArray, List.set_cons_zero, List.set_cons_succ]
                      refine wpAnyH_take (i := 40) (v := ?vV40) rfl (by kernel_rfl) (by kernel_rfl) (by kernel_rfl) (fun _ _ _ h => h) (Or.inl ⟨by rfl, fun w' _ => ?yV40⟩) HH.out ?_
                      case yV40 => (go_simp; try with_reducible rfl)
                      try simp only [List.getElem_toArray, List.getElem_cons_succ, List.getElem_cons_zero, Act.put, List.setIfInBounds_toArray, List.set_cons_zero, List.set_cons_succ]
                      refine wpAnyH_take (i := 41) (v := ?vV41) rfl (by kernel_rfl) (by kernel_rfl) (by kernel_rfl) (fun _ _ _ h => h) (Or.inl ⟨by rfl, fun w' _ => ?yV41⟩) HH.out ?_
                      case yV41 => (go_simp; try with_reducible rfl)
                      try simp only [List.getElem_toArray, List.getElem_cons_succ, List.getElem_cons_zero, Act.put, List.setIfInBounds_toArray, List.set_cons_zero, List.set_cons_succ]
                      refine wpAnyH_take (i := 42) (v := .slice A3 n3 c3) rfl (by kernel_rfl) (by kernel_rfl) (by kernel_rfl) (fun _ _ _ h => h) (Or.inl ⟨by rfl, fun w' hw' => ?yV42⟩) HH.out ?_
                      case yV42 => (have hc := HC0.out w' hw'; go_simp; try with_reducible rfl)
                      try simp only [List.getElem_toArray, List.getElem_cons_succ, List.getElem_cons_zero, Act.put, List.setIfInBounds_toArray, List.set_cons_zero, List.set_cons_succ]
                      refine wpAnyH_ready (rs := [35]) (by kernel_rfl) (by simp) (AllReadyH.cons rfl (fun K hK => ?_) AllReadyH.nil)
                      go_simp
                      refine (HDUM.out _ HH.out).mono ?_
                      rintro e v3 ⟨A5, n5, c5, rfl, hn5, hr5, bw5⟩
                      have HR5 := Lib.hid hr5
                      have HN5 := Lib.hid hn5
                      go_simp
                      refine hK.out _ _ (HH.out.trans (bw5.mono HH.out.size)) (fun hh => ?_)
                      have HH' := Lib.hid hh
                      clear hh hK K HH hn5 hr5 bw5
                      have HH := Lib.hid HH'.out
                      clear HH'
                      try simp only [List.getElem_toArray, List.getElem_cons_succ, List.getElem_cons_zero, Act.put, List.setIfInBounds_toArray, List.set_cons_zero, List.set_cons_succ]
                      refine wpAnyH_ready (rs := [43]) (by kernel_rfl) (by simp) (AllReadyH.cons rfl (fun K hK => ?_) AllReadyH.nil)
                      go_simp
                      have hd5 := HD3.out.below HH.out
                      refine (rsame_b A5 A3 n5 n3 c5 c3 _ _ _ HN5.out hd5.stn HO3.out.1 HO3.out.1 HR5.out (Rd.ownN hd5.st) (by have := HO3.out.2; have := HN5.out; unfold maxLen; omega) (by have := HO3.out.2; have := HD3.out.stn; unfold maxLen; omega)).mono ?_
                      rintro e v4 ⟨rfl, bw6⟩
                      rw [same_refl]
                      go_simp
                      refine hK.out _ _ (HH.out.trans (bw6.mono HH.out.size)) (fun hh => ?_)
                      have HH' := Lib.hid hh
                      clear hh hK K HH bw6 hd5
                      have HH := Lib.hid HH'.out
                      clear HH'
                      try simp only [List.getElem_toArray, List.getElem_cons_succ, List.getElem_cons_zero, Act.put, List.setIfInBounds_toArray, List.set_cons_zero, List.set_cons_succ]
                      refine wpAnyH_take (i := 44) (v := ?vV44) rfl (by kernel_rfl) (by kernel_rfl) (by kernel_rfl) (fun _ _ _ h => h) (Or.inl ⟨by rfl, fun w' _ => ?yV44⟩) HH.out ?_
                      case yV44 => (go_simp; try with_reducible rfl)
                      refine wpAnyH_take (i := 45) (v := ?vV45) rfl (by kernel_rfl) (by kernel_rfl) (by kernel_rfl) (fun _ _ _ h => h) (Or.inl ⟨by rfl, fun w' _ => ?yV45⟩) HH.out ?_
                      case yV45 => (go_simp; try with_reducible rfl)
                      try simp only [List.getElem_toArray, List.getElem_cons_succ, List.getElem_cons_zero, Act.put, List.setIfInBounds_toArray, List.set_cons_zero, List.set_cons_succ]
                      refine wpAnyH_done (by kernel_rfl) ?_ _
                      go_wp2_with fail
                      go_roundw
                      case rel => exact ⟨j + 1, HLJ.out, by go_num, HB.out.trans (HH.out.mono HB.out.size)⟩
                      case measure => (have := HLJ.out; simp [intOf]; omega)
                    · obtain rfl : j = 2 := by have := HJJ.out; omega
                      clear hlt
                      go_wp2_with fail
                      go_roundw
                      case rel => exact ⟨k + 1, F3, G3, S2, HLT.out, by go_num, HJ.out.below HB.out, RA.out.below HB.out, RB.out.below HB.out, HS2L.out, HS2W.out⟩
                      case measure => (have := HLT.out; simp [intOf]; omega)
          · obtain rfl : k = n := by have := HK.out; omega
            clear hlt
            go_wp2_with fail
            go_ret
            exact ⟨rfl, B1.out.trans (HJ.out.live.bel.mono B1.out.size)⟩
theorem devicePlays_own : ownKnob Try.prog.godebug = none := by kernel_rfl
theorem devicePlays_laid : laidOutB Try.prog = true := by kernel_rfl

set_option maxRecDepth 100000 in
theorem devicePlays_lifted (os : Os) (started : os.Started) (H : Type) (enc : TypeId × Value → H) :
    ReturnsInHanded {} Try.checked os 3 .any (Rows.devicePlaysSpec.pre6 enc Try.prog Try.f3 Rows.devicePlaysRow.domain false) (Rows.devicePlaysSpec.post enc Try.prog Try.f3 false true false false) := by
  refine returnsInHanded_of_change (C := Try.checked) devicePlays_own started (by kernel_rfl) Try.func3
    (ChangeSpec.witness6 (enc := enc) (C := Try.checked) false ⟨#[], #[.int .i64 0, .int .i64 0, .slice none 0 0], []⟩ 8 (by kernel_rfl) (by kernel_rfl) (by kernel_rfl) (by kernel_rfl)) ?_
  intro W base args ds gs before hval0 hW _ _
  have hval : ∀ (j : Nat) t v, Try.f3.params[j]? = some t → args[j]? = some v → Value.okWide Try.prog W .any base t v := hval0
  have hW' := hW
  obtain ⟨p, q, hA0, hV, rfl, hfz, hnd⟩ := hW
  have hA : DataW.TrodAll enc Try.prog W 0 (fun _ => true) true Try.f3.params.toList args.toList ds p := hA0
  rw [Try.params3] at hA hval
  obtain ⟨v0, vs0, d0, ds0, p0, q0, hargs, rfl, rfl, h0, r0⟩ := trodAll_cons hA
  obtain ⟨v1, vs1, d1, ds1, p1, q1, rfl, rfl, rfl, h1, r1⟩ := trodAll_cons r0
  obtain ⟨v2, vs2, d2, ds2, p2, q2, rfl, rfl, rfl, h2, r2⟩ := trodAll_cons r1
  obtain ⟨rfl, rfl, rfl⟩ := trodAll_nil r2
  obtain rfl : args = #[v0, v1, v2] := by cases args; simp_all
  obtain ⟨rfl, rfl⟩ := trodVars_none hV
  obtain ⟨a0, rfl, rfl, rfl, w0⟩ := open_int Try.underlying3 (hval 0 3 v0 rfl rfl) h0
  have b0 := bounds_i64 w0
  obtain ⟨a1, rfl, rfl, rfl, w1⟩ := open_int Try.underlying3 (hval 1 3 v1 rfl rfl) h1
  have b1 := bounds_i64 w1
  obtain ⟨a2, n2, c2, rfl⟩ := okWide_slice Try.underlying22 (hval 2 22 v2 rfl rfl)
  have lt2 : ∀ x ∈ p2, x.block < W.heap.size := by obtain ⟨m, hm⟩ := h2; exact DataW.trod_lt m _ _ _ hm
  obtain ⟨l2, hl2, hc2, hm2, hr2, hz2⟩ := open_deeds h2
  clear hA0 hval0
  refine (devicePlays_any W a0 b0 a1 b1 a2 n2 c2 l2 hl2 hc2 hm2 hr2 hz2).mono fun e W' ⟨he, bel⟩ => ?_
  subst he
  exact ⟨_, rfl, _, _, _, [], _, [], hW', trodAll_mk1 (shut_bool Try.underlying4 _), (trodAll_cons_mk (shut_int Try.underlying3 w0) (trodAll_cons_mk (shut_int Try.underlying3 w1) (trodAll_cons_mk (Below.trod devicePlays_laid (by kernel_rfl) (of_decide_eq_true (by kernel_rfl)) h2 bel lt2) trodAll_mk0))), rfl, bel.frame _, fun h => by cases h⟩

theorem devicePlays_holds : Rows.DevicePlaysSaid :=
  OpenClaim.holds_of_wide 3 Try.f3 rfl rfl rfl rfl rfl rfl rfl ⟨rfl, rfl, rfl, rfl, rfl⟩ rfl rfl rfl rfl rfl (by kernel_rfl) Try.func3 (by kernel_rfl)
    (of_decide_eq_true (by kernel_rfl)) (by unfold Func.isWrapper; rw [if_neg (of_decide_eq_false (by kernel_rfl))]; exact ⟨rfl, rfl⟩)
    (fun os started H enc _ => devicePlays_lifted os started H enc)

#print axioms devicePlays_holds

end Go.Proofs.Ytfofkjcdohmkpaa
