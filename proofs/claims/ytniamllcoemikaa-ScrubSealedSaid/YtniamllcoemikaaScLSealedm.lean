/-
  The law ScrubSealed holds: of sealed sectors one rotten byte a place is healed, and told; nothing is lost. For any bytes, places and mask, whichever device rots.
-/
import Derived.Test.YtniamllcoemikaaMb1
import Derived.Maps.RangeWalk
import Derived.Maps.OwnSet
import Derived.OrdersHeld
import Derived.Deep.RegionHeld
import Derived.Test.YtniamllcoemikaaRows
import Derived.ProofKit
import Derived.OpenShut
import Derived.ShutString
import Derived.ChangeOld
namespace Go.Proofs.Ytniamllcoemikaa
open Go.RowKit Go.Maps Kd Mi Sc Go.ChangeShapes Go.WideShapes Go.ChangeAt
attribute [local go_sem ↓] Go.wp_at_zero Go.wp_at_succ
theorem byte_ofV {a : Int} (h : 0 ≤ a ∧ a ≤ 255) : ∃ x : UInt8, a = (x.toNat : Int) := ⟨UInt8.ofNat a.toNat, by rw [UInt8.toNat_ofNat']; omega⟩
theorem lm_but {pw g1 g2 g : Nat} {G : Gd} {w0 w w' : World} {F T : Nat → Prop} {m : Nat} {s : Mr (Mu.one pw g1 g2)} {x : Md} (h : Mu.LM pw g1 g2 G g w0 w s F x m) (hb : But T w w') (hd : ∀ q, F q → T q → False) (hT : ∀ q, T q → w0.heap.size ≤ q) : Mu.LM pw g1 g2 G g w0 w' s F x m :=
  ⟨⟨(ML (Mu.one pw g1 g2) G g).but h.live.at_ hb hd, h.live.new, h.live.bel.trans (hb.below (fun k hk hq => by have := hT k hq; omega) h.live.bel.size)⟩, h.sees, h.dry⟩
theorem rot_start0 {L L' : List (List UInt8)} {n p a : Nat} {b : UInt8} (hp : p < n) (ha : a < 128) : hasByte (startM L L' n).a.length p a = true ∧ (startM L L' n).rot 0 p a b = startM (rotL L p a b) L' n := by
  have hh : hasByte (startM L L' n).a.length p a = true := by rw [start_len]; exact hasByte_iff.2 ⟨by omega, by omega, by omega, by omega⟩
  refine ⟨hh, ?_⟩
  rw [Md.rot, if_pos hh, if_pos rfl, Int.toNat_natCast, Int.toNat_natCast]; rfl
theorem rot_start1 {L L' : List (List UInt8)} {n p a : Nat} {b : UInt8} (hp : p < n) (ha : a < 128) : hasByte (startM L L' n).a.length p a = true ∧ (startM L L' n).rot 1 p a b = startM L (rotL L' p a b) n := by
  have hh : hasByte (startM L L' n).a.length p a = true := by rw [start_len]; exact hasByte_iff.2 ⟨by omega, by omega, by omega, by omega⟩
  refine ⟨hh, ?_⟩
  rw [Md.rot, if_pos hh, if_neg (by omega), Int.toNat_natCast, Int.toNat_natCast]; rfl
set_option maxRecDepth 100000 in
set_option maxHeartbeats 51200000 in
theorem scrubSealed_any (w : World) (A : Option Addr) (N c : Nat) (l : List UInt8) (hl : l.length = N) (_ : N ≤ c) (_ : c ≤ maxLen) (hr : Rd w.heap.size w A (bv l)) (D : Option Addr) (M d : Nat) (r : List UInt8) (hl' : r.length = M) (_ : M ≤ d) (_ : d ≤ maxLen) (hr' : Rd w.heap.size w D (bv r)) (a0 : Int) (c0 : 0 ≤ a0 ∧ a0 ≤ 255) (first : Bool) : Calls Try.prog 11 #[.slice A N c, .slice D M d, .int .u8 a0, .bool first] w (RetB (.bool true) w) := by
  obtain ⟨mb, rfl⟩ := byte_ofV c0
  clear c0
  obtain ⟨z, hz0⟩ : ∃ z : List UInt8, z = zeroS := ⟨_, rfl⟩
  have hz : ∀ W, (zeroValue 37).run Try.prog W = .ok (.agg (bva z)) W := fun _ => by rw [hz0]; kernel_rfl
  have HZ3 := Lib.hid (show z.length = 128 by rw [hz0]; exact zeroS_length)
  clear hz0
  have hmm := @run_makeMap Try.prog
  have HL := Lib.hid hl
  have HR := Lib.hid hr
  have HL' := Lib.hid hl'
  have HR' := Lib.hid hr'
  obtain ⟨xl, hxl⟩ : ∃ xl : Nat → UInt8, ∀ p, xl p = l.getD p 0 := ⟨fun p => l.getD p 0, fun _ => rfl⟩
  obtain ⟨SL, hSL⟩ : ∃ SL : Nat → List UInt8, ∀ p, SL p = sealN p (xl p) := ⟨fun p => sealN p (xl p), fun _ => rfl⟩
  have HXL := Lib.hid hxl
  have HSL := Lib.hid hSL
  have HS3 := Lib.hid (show ∀ p, (SL p).length = 128 from fun p => by rw [hSL]; exact sealN_length _ _)
  have B0 := Lib.hid (Below.refl w.heap.size w)
  clear hl hr hl' hr' hxl hSL
  go_enter Try.func11, Try.ntmps11
  go_wp2_with fail
  have hc := Sc.awake_any w
  refine hc.mono ?_
  clear hc
  rintro e w1 ⟨rfl, bw⟩
  have B1 := Lib.hid (B0.out.trans (bw.mono B0.out.size))
  clear bw B0
  by_cases hbig : 12 < N
  · have n1 : (12 : Int) < (N : Int) := by omega
    go_wp2_with fail
    refine (Sc.awake_any w1).mono ?_
    rintro e wz ⟨rfl, bz⟩
    go_wp2_with fail
    go_ret
    exact ⟨rfl, B1.out.trans (bz.mono B1.out.size)⟩
  by_cases hbig' : 12 < M
  · have n0 : ¬ (12 : Int) < (N : Int) := by omega
    have n1 : (12 : Int) < (M : Int) := by omega
    go_wp2_with fail
    refine (Sc.awake_any w1).mono ?_
    rintro e wz ⟨rfl, bz⟩
    go_wp2_with fail
    go_ret
    exact ⟨rfl, B1.out.trans (bz.mono B1.out.size)⟩
  have n0 : ¬ (12 : Int) < (N : Int) := by omega
  have n1 : ¬ (12 : Int) < (M : Int) := by omega
  have HNB := Lib.hid (show N ≤ 12 ∧ M ≤ 12 by omega)
  clear hbig hbig'
  go_wp2_with fail
  refine live_power.mono ?_
  rintro e w2 ⟨pw, rfl, F2, h⟩
  have H2 := Lib.hid h
  clear h
  go_wp2_with fail
  refine (live_new H2.out (by decide) (N : Int)).mono ?_
  rintro e w3 ⟨g1, rfl, F3, h, hf, hb⟩
  have H3 := Lib.hid h
  clear h hf hb H2
  go_wp2_with fail
  refine (live_new H3.out (by show 1 < 1000; omega) (N : Int)).mono ?_
  rintro e w4 ⟨g2, rfl, F4, h, hf, hb⟩
  have hsee := Mu.see_new N (by have := HNB.out; omega)
  have H4 := Lib.hid (Mu.ld_new (g1 := g1) (g2 := g2) h hsee.1 hsee.2)
  clear h hf hb H3 hsee
  go_wp2_with fail
  refine (Mu.lm_new (G := gH) (fun _ _ _ _ _ _ => trivial) H4.out (n := N) List.length_replicate List.length_replicate).mono ?_
  rintro e w5 ⟨g, s5, F5, rfl, h, hn, hb⟩
  have H5 := Lib.hid (show Mu.LM pw g1 g2 gH g w1 w5 s5 F5 (startM (LJ SL 0 N) (LJ SL 0 N) N) (2 * 0) by rw [LJ_zero]; exact h)
  clear h hn hb H4
  have HA := Lib.hid (show ∀ w', Below w1.heap.size w1 w' → Rd w.heap.size w' A (bv l) from fun w' hb => HR.out.below (B1.out.trans (hb.mono B1.out.size)))
  have HD := Lib.hid (show ∀ w', Below w1.heap.size w1 w' → Rd w.heap.size w' D (bv r) from fun w' hb => HR'.out.below (B1.out.trans (hb.mono B1.out.size)))
  go_wp2_with fail
  go_loopw [49] (fun i wr => ∃ (j : Nat) (s : Mr (Mu.one pw g1 g2)) (F : Nat → Prop), j ≤ N ∧ i = .int .i64 j ∧ Mu.LM pw g1 g2 gH g w1 wr s F (startM (LJ SL j N) (LJ SL j N) N) (2 * j)) (fun i _ => N - (intOf i).toNat)
  case atStart => exact ⟨0, _, _, Nat.zero_le _, rfl, H5.out⟩
  case round =>
    clear H5
    obtain ⟨j, s, F, hj, rfl, hlm⟩ := hrel
    have H := Lib.hid hlm
    have HJ := Lib.hid hj
    clear hlm hj
    by_cases hlt : j < N
    · have HLT := Lib.hid hlt
      have j0 : (0 : Int) ≤ (j : Int) := by omega
      have j1 : (j : Int) < (N : Int) := by omega
      have wj : IntKind.i64.wrap ((j : Int) + 1) = ((j + 1 : Nat) : Int) := IntWalk.i64_in _ (by have := HNB.out; omega)
      have hlx : (bv l)[j]? = some (.int .u8 ((xl j).toNat : Int)) := by rw [bv, List.getElem?_map, List.getElem?_eq_getElem (by rw [HL.out]; exact hlt), HXL.out, List.getD_eq_getElem?_getD, List.getElem?_eq_getElem (by rw [HL.out]; exact hlt)]; rfl
      obtain ⟨ad, hA, hab, hac⟩ := (HA.out wr H.out.live.bel) j _ hlx
      subst hA
      obtain ⟨x, hx⟩ : ∃ x, x = xl j := ⟨_, rfl⟩
      obtain ⟨y, hy⟩ : ∃ y, y = SL j := ⟨_, rfl⟩
      have HY3 := Lib.hid (show y.length = 128 by rw [hy]; exact HS3.out j)
      have HSE := Lib.hid (show ∀ w, Calls Try.prog 37 #[.int .i64 j, .int .u8 (x.toNat : Int)] w (RetB (.agg (bva y)) w) from fun w => by rw [hy, HSL.out, hx]; exact sealed_any w j (xl j))
      have HW1 := Lib.hid (show (startM (LJ SL j N) (LJ SL j N) N).write j y = (0, startM (LJ SL (j + 1) N) (LJ SL (j + 1) N) N) by rw [start_write hlt, hy, LJ_set hlt])
      rw [← hx] at hac
      clear hlt hlx hx hy hab
      go_wp2_with fail
      refine (HSE.out _).mono ?_
      rintro e wa ⟨rfl, bw⟩
      have HB := Lib.hid (H.out.below bw)
      clear bw H HSE hac
      go_wp2_with fail
      have hc := Mu.lm_write HB.out (j : Int) y HY3.out (by have := HNB.out; have := HLT.out; omega)
      rw [HW1.out] at hc
      refine hc.mono ?_
      clear hc
      rintro e wb ⟨rfl, sb, Fb, h, hm⟩
      have HN := Lib.hid (show Mu.LM pw g1 g2 gH g w1 wb sb Fb (startM (LJ SL (j + 1) N) (LJ SL (j + 1) N) N) (2 * (j + 1)) from h)
      clear h hm HB
      go_wp2_with fail
      go_roundw
      case rel => exact ⟨j + 1, sb, Fb, HLT.out, by go_num, HN.out⟩
      case measure => (have := HLT.out; simp [intOf]; omega)
    · obtain rfl : j = N := by have := HJ.out; omega
      have j1 : ¬ (j : Int) < (j : Int) := by omega
      clear hlt
      go_wp2_with fail
      have hc := Mu.lm_flush H.out
      rw [if_neg (show ¬ ((startM (LJ SL j j) (LJ SL j j) j).o0 && (startM (LJ SL j j) (LJ SL j j) j).o1) = true by show ¬ (false && false) = true; simp)] at hc
      refine hc.mono ?_
      clear hc
      rintro e wf ⟨rfl, sf, Ff, h, hm⟩
      have HF := Lib.hid h
      clear h hm H
      cases first
      case false =>
        go_wp2_with fail
        have hmb : ∀ q, Ff q → q < wf.heap.size := (ML (Mu.one pw g1 g2) gH g).lt HF.out.live.at_
        have HMP := Lib.hid (World.ownsMap_made wf Try.prog 3 (boolP Try.prog))
        have HF0 := Lib.hid (HF.out.below (w' := wf.alloc (.map #[] 0)) ((Below.refl _ _).alloc (Nat.le_refl _) _))
        obtain ⟨b, hb⟩ : ∃ b, b = wf.heap.size := ⟨_, rfl⟩
        have HBF := Lib.hid (show ¬ Ff b ∧ w1.heap.size ≤ b from ⟨fun h => by have := hmb b h; omega, by rw [hb]; exact HF.out.live.bel.size⟩)
        rw [← hb] at HMP
        clear hmb HF
        try rw [← hb]
        obtain ⟨wg, hwg⟩ : ∃ wg, wg = wf.alloc (.map #[] 0) := ⟨_, rfl⟩
        rw [← hwg] at HMP HF0
        try rw [← hwg]
        clear hwg hb
        go_loopw [16] (fun i wr => ∃ (t : Nat) (s : Mr (Mu.one pw g1 g2)) (F : Nat → Prop) (L : List (List UInt8)) (kk : Nat) (Dm : DataW Unit) (ds : List Int), t ≤ M ∧ i = .int .i64 t ∧ Mu.LM pw g1 g2 gH g w1 wr s F (startM (LJ SL j j) L j) 0 ∧ Rotten SL j L ds ∧ kk ≤ t ∧ wr.ownsMap Try.prog 3 (boolP Try.prog) b kk Dm ∧ Hid (CutM Dm ds) ∧ ¬ F b) (fun i _ => M - (intOf i).toNat)
        case atStart => exact ⟨0, _, _, LJ SL j j, 0, .map [], [], Nat.zero_le _, rfl, HF0.out, rotten_start, Nat.le_refl _, HMP.out, cut_empty, HBF.out.1⟩
        case round =>
          clear HF0 HMP
          obtain ⟨t, s, F, L, kk, Dm, ds, ht, rfl, hlm, hro, hkk, hmap, HCU, hnf⟩ := hrel
          have H := Lib.hid hlm
          have HT := Lib.hid ht
          have HRO := Lib.hid hro
          have HKK := Lib.hid hkk
          have HM := Lib.hid hmap
          have HNF := Lib.hid hnf
          clear hlm ht hro hkk hmap hnf
          by_cases hlt : t < M ∧ 0 < j
          · have HLT := Lib.hid hlt
            have t0 : (0 : Int) ≤ (t : Int) := by omega
            have t1 : (t : Int) < (M : Int) := by omega
            have d0 : (0 : Int) < (j : Int) := by omega
            have d1 : ¬ (j : Int) = 0 := by omega
            have wt : IntKind.i64.wrap ((t : Int) + 1) = ((t + 1 : Nat) : Int) := IntWalk.i64_in _ (by have := HNB.out; omega)
            have m128 : ((t : Int)).tmod 128 = (t : Int) := by rw [Int.tmod_eq_emod_of_nonneg (by omega)]; have := HNB.out; omega
            obtain ⟨v, hv⟩ : ∃ v, v = r[t]'(by rw [HL'.out]; exact hlt.1) := ⟨_, rfl⟩
            have hlx : (bv r)[t]? = some (.int .u8 (v.toNat : Int)) := by rw [bv, List.getElem?_map, List.getElem?_eq_getElem (by rw [HL'.out]; exact hlt.1), hv]; rfl
            obtain ⟨ad, hA, hab, hac⟩ := (HD.out wr H.out.live.bel) t _ hlx
            subst hA
            obtain ⟨p, hp⟩ : ∃ p, p = v.toNat % j := ⟨_, rfl⟩
            have HP := Lib.hid (show p < j by rw [hp]; exact Nat.mod_lt _ hlt.2)
            have wv : IntKind.i64.wrap (v.toNat : Int) = (v.toNat : Int) := IntWalk.i64_in _ (by have := UInt8.toNat_lt v; omega)
            have hvp : ((v.toNat : Int)).tmod (j : Int) = (p : Int) := by rw [hp, Int.tmod_eq_emod_of_nonneg (by omega)]; omega
            clear hlt hv hlx hab hp
            by_cases hmz : mb = 0
            · have z0 : ((mb.toNat : Int)) = 0 := by rw [hmz]; rfl
              have Z0 := Lib.hid z0
              clear hmz
              go_wp2_with fail
              go_roundw
              case rel => exact ⟨t + 1, s, F, L, kk, Dm, ds, HLT.out.1, by go_num, H.out, HRO.out, by have := HKK.out; omega, HM.out, HCU, HNF.out⟩
              case measure => (have := HLT.out; simp [intOf]; omega)
            have z0 : ¬ ((mb.toNat : Int)) = 0 := fun e => hmz (UInt8.toNat_inj.1 (by show mb.toNat = 0; omega))
            have HMZ := Lib.hid hmz
            clear hmz
            have hlk0 := cut_look HM.out HCU.out (p : Int) ⟨by omega, by have := HP.out; have := HNB.out; omega⟩
            by_cases hin : (p : Int) ∈ ds
            · have hlk : (Instr.lookup 70 (.map (some b)) (.int .i64 p) false).run Try.prog wr = .ok (.bool true) wr := by rw [hlk0, decide_eq_true hin]
              clear hlk0 hin
              go_wp2_with fail
              go_roundw
              case rel => exact ⟨t + 1, s, F, L, kk, Dm, ds, HLT.out.1, by go_num, H.out, HRO.out, by have := HKK.out; omega, HM.out, HCU, HNF.out⟩
              case measure => (have := HLT.out; simp [intOf]; omega)
            · have hlk : (Instr.lookup 70 (.map (some b)) (.int .i64 p) false).run Try.prog wr = .ok (.bool false) wr := by rw [hlk0, decide_eq_false hin]
              have HIN := Lib.hid hin
              clear hlk0 hin
              go_wp2_with fail
              have hrs := rot_start1 (L := (LJ SL j j)) (L' := L) (n := j) (p := p) (a := t) (b := mb) HP.out (by have := HLT.out; have := HNB.out; omega)
              have hc := Mu.lm_rot1 H.out (p : Int) (t : Int) mb
              rw [hrs.1, hrs.2] at hc
              refine hc.mono ?_
              clear hc hrs
              rintro e wx ⟨rfl, sx, Fx, h, hm⟩
              have HX := Lib.hid h
              have HMX := Lib.hid (map_but HM.out hm.but HNF.out)
              have HNX := Lib.hid (show ¬ Fx b from fun hf => (hm.new b hf).elim HNF.out (fun h2 => by have := HM.out.lt; omega))
              have HRX := Lib.hid (HRO.out.rot xl HSL.out HP.out HIN.out (a := t) (by have := HLT.out; have := HNB.out; omega) HMZ.out)
              clear h hm H HM HNF HRO hlk
              have HKM := Lib.hid (show kk < maxLen by unfold maxLen; have := HKK.out; have := HLT.out; have := HNB.out; omega)
              go_wp2_with (at_mapUpdate; apply Classical.byContradiction; intro hneg)
              refine hneg ?_
              clear hneg
              refine wpList_mapUpdate_own _ rfl _ _ _ 70 rfl 3 4 Sc.lawI Try.underlying70 (boolP Try.prog) b kk Dm rfl HMX.out HKM.out (.int .i64 p) (.bool true) (.int .i64 p) rfl rfl (keyOf_int_mk Try.underlying3 (Sc.wfI ⟨by omega, by have := HP.out; have := HNB.out; omega⟩)) (.lit (.bool true)) [] (boolR_mk true) ?_
              intro w6 hown6 hgrow6
              have hbg := but_of_grown (S := (· = b)) hgrow6 (fun q hq => by injection hq with hq; exact hq.symm)
              have HG := Lib.hid (lm_but HX.out hbg (fun q hf e => HNX.out (e ▸ hf)) (fun q e => by rw [e]; exact HBF.out.2))
              have HMG := Lib.hid hown6
              have HCP := HCU.out.put (p : Int)
              rw [if_neg HIN.out] at HCP
              have HCG := Lib.hid HCP
              clear hown6 hgrow6 hbg HX HMX HCP
              go_wp2_with fail
              go_roundw
              case rel => exact ⟨t + 1, sx, Fx, rotL L p t mb, _, _, (p : Int) :: ds, HLT.out.1, by go_num, HG.out, HRX.out, by have := HKK.out; omega, HMG.out, HCG, HNX.out⟩
              case measure => (have := HLT.out; simp [intOf]; omega)
          · have HEX := Lib.hid hlt
            have FR := Lib.hid (show Fresh (startM (LJ SL j j) L j) j from start_fresh (LJ_length (Nat.le_refl _)) HRO.out.len)
            obtain ⟨h1, h2, h3, h4⟩ := FR.out.run (f := healN) j (Nat.le_refl _)
            obtain ⟨x1, hx1⟩ : ∃ x1, x1 = (mdRun healN ((startM (LJ SL j j) L j), Wk.zero) j).1 := ⟨_, rfl⟩
            rw [← hx1] at h1 h3 h4
            have hct := (rotten_cnt HRO.out xl HSL.out j (Nat.le_refl _)).2
            have hsum := cnt_sum (f := healN) (LJ SL j j) L j
            obtain ⟨cc, hcc⟩ : ∃ cc, cc = cntK healN (LJ SL j j) L j := ⟨_, rfl⟩
            rw [← hcc] at hct hsum
            obtain ⟨r1, hr1⟩ : ∃ r1, r1 = cc.r := ⟨_, rfl⟩
            obtain ⟨S, hS⟩ : ∃ S, S = ds.length := ⟨_, rfl⟩
            have hcs : cc.h = S := by rw [hct.1, HRO.out.cnt, hS]
            have HSUM := Lib.hid (show r1 + S = j by rw [hcs, hct.2] at hsum; omega)
            have HSD := Lib.hid hS
            have HRV := Lib.hid (show (mdRun gH.f ((startM (LJ SL j j) L j), Wk.zero) ((startM (LJ SL j j) L j)).a.length).2.rep = #[.int .i64 r1, .int .i64 S, .int .i64 0] by
              rw [start_len, show (mdRun gH.f ((startM (LJ SL j j) L j), Wk.zero) j).2 = cc from h2.trans hcc.symm, rep_form, hct.2, hcs, hr1]; rfl)
            have HRX := Lib.hid (show (mdRun gH.f ((startM (LJ SL j j) L j), Wk.zero) ((startM (LJ SL j j) L j)).a.length).1 = x1 by rw [start_len, hx1]; rfl)
            have HLN := Lib.hid (show ((startM (LJ SL j j) L j)).a.length = j from start_len (L0 := (LJ SL j j)) (L1 := L))
            have HRD := Lib.hid (show ∀ i, i < j → (if x1.o1 = false ∧ (0 : Int) ≤ (i : Int) ∧ (i : Int) < (x1.a.length : Int) then x1.l1.getD (i : Int).toNat zeroS else zeroS) = SL i from fun i hi => by
              rw [if_pos ⟨h1.o1, by omega, by rw [h1.len]; omega⟩, Int.toNat_natCast, h4 i hi, if_pos hi]
              show hl1 healN i ((LJ SL j j).getD i zeroS) (L.getD i zeroS) = SL i
              rw [LJ_get hi]; exact (rotten_ck HRO.out xl HSL.out hi).2.2.2)
            have HED := Lib.hid (show ∀ i, i < j → (if x1.o1 = true then (13 : Int) else if (i : Int) < 0 ∨ (x1.a.length : Int) ≤ (i : Int) then 2 else 0) = 0 from fun i hi => by
              rw [h1.o1, if_neg (by simp), if_neg (by rw [h1.len]; omega)])
            clear h1 h2 h3 h4 hx1 hct hsum hcc hr1 hS hcs hlt
            by_cases htm : t < M
            · have t0 : (t : Int) < (M : Int) := by omega
              have d0 : ¬ (0 : Int) < (j : Int) := by have := HEX.out; omega
              clear htm HEX
              go_wp2_with fail
              have hc := lm_all H.out (by rw [HLN.out]; have := HNB.out; omega) (by omega)
              rw [HRV.out, HRX.out] at hc
              refine hc.mono ?_
              clear hc
              rintro e wx ⟨rfl, sx, Fx, h, hm⟩
              have HX := Lib.hid h
              have HMX := Lib.hid (map_but HM.out hm.but HNF.out)
              clear h hm H HM HNF
              go_wp2_with (show wpList _ _ _ ({ dst := none, op := .store 32 (.tmp 18) (.tmp 105), type := _, pos := _, after := _, guard := _ } :: _) _ _; apply Classical.byContradiction; intro hneg)
              refine hneg ?_
              clear hneg
              refine wpList_store_row rfl 32 (.tmp 18) (.tmp 105) rfl wx.heap.size #[.int .i64 r1, .int .i64 S, .int .i64 0] rfl rfl 32 #[.int .i64 0, .int .i64 0, .int .i64 0] (heap_alloc_new _ _) wk_info rfl (by simp [Value.oneCell']) ?_
              obtain ⟨wy, hwy⟩ : ∃ wy, wy = (wx.alloc (.cells #[.int .i64 0, .int .i64 0, .int .i64 0] 32)).setRow wx.heap.size #[.int .i64 r1, .int .i64 S, .int .i64 0] := ⟨_, rfl⟩
              have bw : Below wx.heap.size wx wy := by rw [hwy]; exact below_setRow ((Below.refl _ _).alloc (Nat.le_refl _) _) (Nat.le_refl _) _
              have hbx : Blk wy wx.heap.size #[.int .i64 r1, .int .i64 S, .int .i64 0] 32 := by rw [hwy]; exact setRow_heap _ _ _ _ _ _ (heap_alloc_new _ _)
              rw [← hwy]
              clear hwy
              obtain ⟨br, hbr⟩ : ∃ br, br = wx.heap.size := ⟨_, rfl⟩
              rw [← hbr] at hbx
              rw [← hbr]
              have HY := Lib.hid (HX.out.below bw)
              have HMY := Lib.hid (map_below HMX.out bw)
              clear bw hbr HX HMX
              have c0 : wy.cell? ⟨br, 0, none⟩ = some (.int .i64 r1) := hbx.cell 0
              have c1 : wy.cell? ⟨br, 1, none⟩ = some (.int .i64 S) := hbx.cell 1
              have c2 : wy.cell? ⟨br, 2, none⟩ = some (.int .i64 0) := hbx.cell 2
              have hl1 : ∀ ty, (Builtin.len_ #[70] ty #[.map (some b)]).run Try.prog wy = .ok (.int .i64 S) wy := fun ty => by rw [HMY.out.len Try.underlying70 ty, HCU.out.size, HSD.out]
              have wsub : IntKind.i64.wrap ((j : Int) - (S : Int)) = (r1 : Int) := by rw [show (j : Int) - (S : Int) = (r1 : Int) by have := HSUM.out; omega]; exact IntWalk.i64_in _ (by have := HSUM.out; have := HNB.out; omega)
              clear hbx
              go_wp2_with fail
              clear hl1 c0 c1 c2 wsub
              go_loopw [128] (fun i wr => ∃ (i' : Nat), i' ≤ j ∧ i = .int .i64 i' ∧ Below wy.heap.size wy wr) (fun i _ => j - (intOf i).toNat)
              case atStart => exact ⟨0, Nat.zero_le _, rfl, Below.refl _ _⟩
              case round =>
                obtain ⟨i, hi, rfl, hb⟩ := hrel
                have HI := Lib.hid hi
                have HW := Lib.hid hb
                clear hi hb
                by_cases hil : i < j
                · have HIL := Lib.hid hil
                  have i0 : (0 : Int) ≤ (i : Int) := by omega
                  have i1 : (i : Int) < (j : Int) := by omega
                  have wi : IntKind.i64.wrap ((i : Int) + 1) = ((i + 1 : Nat) : Int) := IntWalk.i64_in _ (by have := HNB.out; omega)
                  have hlx : (bv l)[i]? = some (.int .u8 ((xl i).toNat : Int)) := by rw [bv, List.getElem?_map, List.getElem?_eq_getElem (by rw [HL.out]; exact hil), HXL.out, List.getD_eq_getElem?_getD, List.getElem?_eq_getElem (by rw [HL.out]; exact hil)]; rfl
                  have HBE := Lib.hid (HY.out.below HW.out)
                  obtain ⟨ad, hA, hab, hac⟩ := (HA.out wr HBE.out.live.bel) i _ hlx
                  subst hA
                  obtain ⟨x, hx⟩ : ∃ x, x = xl i := ⟨_, rfl⟩
                  obtain ⟨y, hy⟩ : ∃ y, y = SL i := ⟨_, rfl⟩
                  have HY3 := Lib.hid (show y.length = 128 by rw [hy]; exact HS3.out i)
                  have HIY : Hid ((Try.prog.info? 37).map (·.size) = some (bva y).size) := by rw [bva_size, HY3.out]; exact info_sec
                  have HSE := Lib.hid (show ∀ w, Calls Try.prog 37 #[.int .i64 i, .int .u8 (x.toNat : Int)] w (RetB (.agg (bva y)) w) from fun w => by rw [hy, HSL.out, hx]; exact sealed_any w i (xl i))
                  have HRI := Lib.hid ((HRD.out i hil).trans hy.symm)
                  have HQ := Lib.hid (show ∀ W, (Op.equalIn 10000 37 (.agg (bva y)) (.agg (bva y))).run Try.prog W = .ok true W from fun W => by rw [eq_sec y y HY3.out HY3.out, decide_eq_true rfl])
                  have HCD := Lib.hid (show ∀ w', Below wr.heap.size wr w' → w'.cell? (ad.add i) = some (.int .u8 (x.toNat : Int)) from fun w' hb => by
                    obtain ⟨a2, h1, _, h2⟩ := (HA.out w' (HBE.out.live.bel.trans (hb.mono HBE.out.live.bel.size))) i _ hlx
                    injection h1 with h1; subst h1
                    rw [hx]; exact h2)
                  clear hil hlx hx hy hab hac
                  go_wp2_with fail
                  have hc := Mu.lm_dread1 HBE.out (i : Int)
                  rw [HRI.out, HED.out i HIL.out] at hc
                  refine hc.mono ?_
                  clear hc
                  rintro e wa ⟨rfl, bw⟩
                  have BA := Lib.hid bw
                  clear bw HBE
                  go_wp2_with (show wpList _ _ _ ({ dst := none, op := .store 37 (.tmp 20) (.tmp 135), type := _, pos := _, after := _, guard := _ } :: _) _ _; apply Classical.byContradiction; intro hneg)
                  refine hneg ?_
                  clear hneg
                  refine wpList_store_row rfl 37 (.tmp 20) (.tmp 135) rfl wa.heap.size (bva y) rfl rfl 37 (bva z) (heap_alloc_new _ _) HIY.out (by rw [bva_size, bva_size, HY3.out, HZ3.out]) (bva_one _) ?_
                  obtain ⟨wb, hwb⟩ : ∃ wb, wb = (wa.alloc (.cells (bva z) 37)).setRow wa.heap.size (bva y) := ⟨_, rfl⟩
                  have bw : Below wa.heap.size wa wb := by rw [hwb]; exact below_setRow ((Below.refl _ _).alloc (Nat.le_refl _) _) (Nat.le_refl _) _
                  have hbx : Blk wb wa.heap.size (bva y) 37 := by rw [hwb]; exact setRow_heap _ _ _ _ _ _ (heap_alloc_new _ _)
                  rw [← hwb]
                  clear hwb
                  obtain ⟨bq, hbq⟩ : ∃ bq, bq = wa.heap.size := ⟨_, rfl⟩
                  rw [← hbq] at hbx
                  rw [← hbq]
                  have XB := Lib.hid hbx
                  have BB := Lib.hid (BA.out.trans (bw.mono BA.out.size))
                  clear hbx bw hbq BA
                  go_upto_region 31 with fail
                  refine wp_region_held_drew (S := fun w' => Below wb.heap.size wb w') (by kernel_rfl) (Below.refl _ _).drew (fun hh => ?_)
                  have HH := Lib.hid hh
                  clear hh
                  refine wpAnyH_take (i := 0) (v := ?vT00) rfl (by kernel_rfl) (by kernel_rfl) (by kernel_rfl) (fun _ _ _ h => h) (Or.inl ⟨by rfl, fun w' _ => ?yT00⟩) HH.out ?_
                  case yT00 => (go_simp; try with_reducible rfl)
                  refine wpAnyH_take (i := 1) (v := .bool false) rfl (by kernel_rfl) (by kernel_rfl) (by kernel_rfl) (fun _ _ _ h => h) (Or.inl ⟨by rfl, fun w' hw' => ?yT01⟩) HH.out ?_
                  case yT01 => (go_simp; try rfl)
                  try simp only [List.getElem_toArray, List.getElem_cons_succ, List.getElem_cons_zero, Act.put, List.setIfInBounds_toArray, List.set_cons_zero, List.set_cons_succ]
                  refine wpAnyH_take (i := 2) (v := ?vT02) rfl (by kernel_rfl) (by kernel_rfl) (by kernel_rfl) (fun _ _ _ h => h) (Or.inl ⟨by rfl, fun w' _ => ?yT02⟩) HH.out ?_
                  case yT02 => (go_simp; try with_reducible rfl)
                  refine wpAnyH_take (i := 3) (v := .agg (bva y)) rfl (by kernel_rfl) (by kernel_rfl) (by kernel_rfl) (fun _ _ _ h => h) (Or.inl ⟨by rfl, fun w' hw' => ?yT03⟩) HH.out ?_
                  case yT03 => exact exec_load 37 (.tmp 20) rfl rfl (XB.out.below hw') Try.underlying37 rfl HIY.out
                  try simp only [List.getElem_toArray, List.getElem_cons_succ, List.getElem_cons_zero, Act.put, List.setIfInBounds_toArray, List.set_cons_zero, List.set_cons_succ]
                  refine wpAnyH_take (i := 4) (v := ?vT04) rfl (by kernel_rfl) (by kernel_rfl) (by kernel_rfl) (fun _ _ _ h => h) (Or.inl ⟨by rfl, fun w' _ => ?yT04⟩) HH.out ?_
                  case yT04 => (go_simp; try with_reducible rfl)
                  try simp only [List.getElem_toArray, List.getElem_cons_succ, List.getElem_cons_zero, Act.put, List.setIfInBounds_toArray, List.set_cons_zero, List.set_cons_succ]
                  refine wpAnyH_take (i := 5) (v := ?vT05) rfl (by kernel_rfl) (by kernel_rfl) (by kernel_rfl) (fun _ _ _ h => h) (Or.inl ⟨by rfl, fun w' _ => ?yT05⟩) HH.out ?_
                  case yT05 => (go_simp; try with_reducible rfl)
                  try simp only [List.getElem_toArray, List.getElem_cons_succ, List.getElem_cons_zero, Act.put, List.setIfInBounds_toArray, List.set_cons_zero, List.set_cons_succ]
                  refine wpAnyH_take (i := 6) (v := ?vT06) rfl (by kernel_rfl) (by kernel_rfl) (by kernel_rfl) (fun _ _ _ h => h) (Or.inl ⟨by rfl, fun w' _ => ?yT06⟩) HH.out ?_
                  case yT06 => (go_simp; try with_reducible rfl)
                  try simp only [List.getElem_toArray, List.getElem_cons_succ, List.getElem_cons_zero, Act.put, List.setIfInBounds_toArray, List.set_cons_zero, List.set_cons_succ]
                  refine wpAnyH_take (i := 7) (v := ?vT07) rfl (by kernel_rfl) (by kernel_rfl) (by kernel_rfl) (fun _ _ _ h => h) (Or.inl ⟨by rfl, fun w' _ => ?yT07⟩) HH.out ?_
                  case yT07 => (go_simp; try with_reducible rfl)
                  try simp only [List.getElem_toArray, List.getElem_cons_succ, List.getElem_cons_zero, Act.put, List.setIfInBounds_toArray, List.set_cons_zero, List.set_cons_succ]
                  refine wpAnyH_take (i := 8) (v := .int .u8 (x.toNat : Int)) rfl (by kernel_rfl) (by kernel_rfl) (by kernel_rfl) (fun _ _ _ h => h) (Or.inl ⟨by rfl, fun w' hw' => ?yT08⟩) HH.out ?_
                  case yT08 => (have hc := HCD.out w' (BB.out.trans (hw'.mono BB.out.size)); go_simp; try with_reducible rfl)
                  try simp only [List.getElem_toArray, List.getElem_cons_succ, List.getElem_cons_zero, Act.put, List.setIfInBounds_toArray, List.set_cons_zero, List.set_cons_succ]
                  refine wpAnyH_ready (rs := [9]) (by kernel_rfl) (by simp) (AllReadyH.cons rfl (fun K hK => ?_) AllReadyH.nil)
                  rw [if_pos (by rfl)]
                  go_simp
                  refine (HSE.out _).mono ?_
                  rintro e y2 ⟨rfl, bw⟩
                  go_simp
                  refine hK.out _ _ (HH.out.trans (bw.mono HH.out.size)) (fun hh => ?_)
                  have HH' := Lib.hid hh
                  clear hh hK K HH bw
                  have HH := Lib.hid HH'.out
                  clear HH'
                  try simp only [List.getElem_toArray, List.getElem_cons_succ, List.getElem_cons_zero, Act.put, List.setIfInBounds_toArray, List.set_cons_zero, List.set_cons_succ]
                  refine wpAnyH_take (i := 10) (v := .bool false) rfl (by kernel_rfl) (by kernel_rfl) (by kernel_rfl) (fun _ _ _ h => h) (Or.inl ⟨by rfl, fun w' hw' => ?yT010⟩) HH.out ?_
                  case yT010 => (go_simp; rw [HQ.out]; rfl)
                  try simp only [List.getElem_toArray, List.getElem_cons_succ, List.getElem_cons_zero, Act.put, List.setIfInBounds_toArray, List.set_cons_zero, List.set_cons_succ]
                  refine wpAnyH_take (i := 11) (v := ?vT011) rfl (by kernel_rfl) (by kernel_rfl) (by kernel_rfl) (fun _ _ _ h => h) (Or.inl ⟨by rfl, fun w' _ => ?yT011⟩) HH.out ?_
                  case yT011 => (go_simp; try with_reducible rfl)
                  try simp only [List.getElem_toArray, List.getElem_cons_succ, List.getElem_cons_zero, Act.put, List.setIfInBounds_toArray, List.set_cons_zero, List.set_cons_succ]
                  refine wpAnyH_done (by kernel_rfl) ?_ _
                  have BE := Lib.hid (HW.out.trans ((BB.out.trans (HH.out.mono BB.out.size)).mono HW.out.size))
                  clear HH XB BB HCD HW
                  go_wp2_with fail
                  go_roundw
                  case rel => exact ⟨i + 1, HIL.out, by go_num, BE.out⟩
                  case measure => (have := HIL.out; simp [intOf]; omega)
                · obtain rfl : i = j := by have := HI.out; omega
                  have i1 : ¬ (i : Int) < (i : Int) := by omega
                  clear hil
                  go_wp2_with fail
                  go_ret
                  exact ⟨rfl, B1.out.trans ((HY.out.below HW.out).live.bel.mono B1.out.size)⟩
            · have t0 : ¬ (t : Int) < (M : Int) := by omega
              clear htm HEX
              go_wp2_with fail
              have hc := lm_all H.out (by rw [HLN.out]; have := HNB.out; omega) (by omega)
              rw [HRV.out, HRX.out] at hc
              refine hc.mono ?_
              clear hc
              rintro e wx ⟨rfl, sx, Fx, h, hm⟩
              have HX := Lib.hid h
              have HMX := Lib.hid (map_but HM.out hm.but HNF.out)
              clear h hm H HM HNF
              go_wp2_with (show wpList _ _ _ ({ dst := none, op := .store 32 (.tmp 18) (.tmp 105), type := _, pos := _, after := _, guard := _ } :: _) _ _; apply Classical.byContradiction; intro hneg)
              refine hneg ?_
              clear hneg
              refine wpList_store_row rfl 32 (.tmp 18) (.tmp 105) rfl wx.heap.size #[.int .i64 r1, .int .i64 S, .int .i64 0] rfl rfl 32 #[.int .i64 0, .int .i64 0, .int .i64 0] (heap_alloc_new _ _) wk_info rfl (by simp [Value.oneCell']) ?_
              obtain ⟨wy, hwy⟩ : ∃ wy, wy = (wx.alloc (.cells #[.int .i64 0, .int .i64 0, .int .i64 0] 32)).setRow wx.heap.size #[.int .i64 r1, .int .i64 S, .int .i64 0] := ⟨_, rfl⟩
              have bw : Below wx.heap.size wx wy := by rw [hwy]; exact below_setRow ((Below.refl _ _).alloc (Nat.le_refl _) _) (Nat.le_refl _) _
              have hbx : Blk wy wx.heap.size #[.int .i64 r1, .int .i64 S, .int .i64 0] 32 := by rw [hwy]; exact setRow_heap _ _ _ _ _ _ (heap_alloc_new _ _)
              rw [← hwy]
              clear hwy
              obtain ⟨br, hbr⟩ : ∃ br, br = wx.heap.size := ⟨_, rfl⟩
              rw [← hbr] at hbx
              rw [← hbr]
              have HY := Lib.hid (HX.out.below bw)
              have HMY := Lib.hid (map_below HMX.out bw)
              clear bw hbr HX HMX
              have c0 : wy.cell? ⟨br, 0, none⟩ = some (.int .i64 r1) := hbx.cell 0
              have c1 : wy.cell? ⟨br, 1, none⟩ = some (.int .i64 S) := hbx.cell 1
              have c2 : wy.cell? ⟨br, 2, none⟩ = some (.int .i64 0) := hbx.cell 2
              have hl1 : ∀ ty, (Builtin.len_ #[70] ty #[.map (some b)]).run Try.prog wy = .ok (.int .i64 S) wy := fun ty => by rw [HMY.out.len Try.underlying70 ty, HCU.out.size, HSD.out]
              have wsub : IntKind.i64.wrap ((j : Int) - (S : Int)) = (r1 : Int) := by rw [show (j : Int) - (S : Int) = (r1 : Int) by have := HSUM.out; omega]; exact IntWalk.i64_in _ (by have := HSUM.out; have := HNB.out; omega)
              clear hbx
              go_wp2_with fail
              clear hl1 c0 c1 c2 wsub
              go_loopw [128] (fun i wr => ∃ (i' : Nat), i' ≤ j ∧ i = .int .i64 i' ∧ Below wy.heap.size wy wr) (fun i _ => j - (intOf i).toNat)
              case atStart => exact ⟨0, Nat.zero_le _, rfl, Below.refl _ _⟩
              case round =>
                obtain ⟨i, hi, rfl, hb⟩ := hrel
                have HI := Lib.hid hi
                have HW := Lib.hid hb
                clear hi hb
                by_cases hil : i < j
                · have HIL := Lib.hid hil
                  have i0 : (0 : Int) ≤ (i : Int) := by omega
                  have i1 : (i : Int) < (j : Int) := by omega
                  have wi : IntKind.i64.wrap ((i : Int) + 1) = ((i + 1 : Nat) : Int) := IntWalk.i64_in _ (by have := HNB.out; omega)
                  have hlx : (bv l)[i]? = some (.int .u8 ((xl i).toNat : Int)) := by rw [bv, List.getElem?_map, List.getElem?_eq_getElem (by rw [HL.out]; exact hil), HXL.out, List.getD_eq_getElem?_getD, List.getElem?_eq_getElem (by rw [HL.out]; exact hil)]; rfl
                  have HBE := Lib.hid (HY.out.below HW.out)
                  obtain ⟨ad, hA, hab, hac⟩ := (HA.out wr HBE.out.live.bel) i _ hlx
                  subst hA
                  obtain ⟨x, hx⟩ : ∃ x, x = xl i := ⟨_, rfl⟩
                  obtain ⟨y, hy⟩ : ∃ y, y = SL i := ⟨_, rfl⟩
                  have HY3 := Lib.hid (show y.length = 128 by rw [hy]; exact HS3.out i)
                  have HIY : Hid ((Try.prog.info? 37).map (·.size) = some (bva y).size) := by rw [bva_size, HY3.out]; exact info_sec
                  have HSE := Lib.hid (show ∀ w, Calls Try.prog 37 #[.int .i64 i, .int .u8 (x.toNat : Int)] w (RetB (.agg (bva y)) w) from fun w => by rw [hy, HSL.out, hx]; exact sealed_any w i (xl i))
                  have HRI := Lib.hid ((HRD.out i hil).trans hy.symm)
                  have HQ := Lib.hid (show ∀ W, (Op.equalIn 10000 37 (.agg (bva y)) (.agg (bva y))).run Try.prog W = .ok true W from fun W => by rw [eq_sec y y HY3.out HY3.out, decide_eq_true rfl])
                  have HCD := Lib.hid (show ∀ w', Below wr.heap.size wr w' → w'.cell? (ad.add i) = some (.int .u8 (x.toNat : Int)) from fun w' hb => by
                    obtain ⟨a2, h1, _, h2⟩ := (HA.out w' (HBE.out.live.bel.trans (hb.mono HBE.out.live.bel.size))) i _ hlx
                    injection h1 with h1; subst h1
                    rw [hx]; exact h2)
                  clear hil hlx hx hy hab hac
                  go_wp2_with fail
                  have hc := Mu.lm_dread1 HBE.out (i : Int)
                  rw [HRI.out, HED.out i HIL.out] at hc
                  refine hc.mono ?_
                  clear hc
                  rintro e wa ⟨rfl, bw⟩
                  have BA := Lib.hid bw
                  clear bw HBE
                  go_wp2_with (show wpList _ _ _ ({ dst := none, op := .store 37 (.tmp 20) (.tmp 135), type := _, pos := _, after := _, guard := _ } :: _) _ _; apply Classical.byContradiction; intro hneg)
                  refine hneg ?_
                  clear hneg
                  refine wpList_store_row rfl 37 (.tmp 20) (.tmp 135) rfl wa.heap.size (bva y) rfl rfl 37 (bva z) (heap_alloc_new _ _) HIY.out (by rw [bva_size, bva_size, HY3.out, HZ3.out]) (bva_one _) ?_
                  obtain ⟨wb, hwb⟩ : ∃ wb, wb = (wa.alloc (.cells (bva z) 37)).setRow wa.heap.size (bva y) := ⟨_, rfl⟩
                  have bw : Below wa.heap.size wa wb := by rw [hwb]; exact below_setRow ((Below.refl _ _).alloc (Nat.le_refl _) _) (Nat.le_refl _) _
                  have hbx : Blk wb wa.heap.size (bva y) 37 := by rw [hwb]; exact setRow_heap _ _ _ _ _ _ (heap_alloc_new _ _)
                  rw [← hwb]
                  clear hwb
                  obtain ⟨bq, hbq⟩ : ∃ bq, bq = wa.heap.size := ⟨_, rfl⟩
                  rw [← hbq] at hbx
                  rw [← hbq]
                  have XB := Lib.hid hbx
                  have BB := Lib.hid (BA.out.trans (bw.mono BA.out.size))
                  clear hbx bw hbq BA
                  go_upto_region 31 with fail
                  refine wp_region_held_drew (S := fun w' => Below wb.heap.size wb w') (by kernel_rfl) (Below.refl _ _).drew (fun hh => ?_)
                  have HH := Lib.hid hh
                  clear hh
                  refine wpAnyH_take (i := 0) (v := ?vT10) rfl (by kernel_rfl) (by kernel_rfl) (by kernel_rfl) (fun _ _ _ h => h) (Or.inl ⟨by rfl, fun w' _ => ?yT10⟩) HH.out ?_
                  case yT10 => (go_simp; try with_reducible rfl)
                  refine wpAnyH_take (i := 1) (v := .bool false) rfl (by kernel_rfl) (by kernel_rfl) (by kernel_rfl) (fun _ _ _ h => h) (Or.inl ⟨by rfl, fun w' hw' => ?yT11⟩) HH.out ?_
                  case yT11 => (go_simp; try rfl)
                  try simp only [List.getElem_toArray, List.getElem_cons_succ, List.getElem_cons_zero, Act.put, List.setIfInBounds_toArray, List.set_cons_zero, List.set_cons_succ]
                  refine wpAnyH_take (i := 2) (v := ?vT12) rfl (by kernel_rfl) (by kernel_rfl) (by kernel_rfl) (fun _ _ _ h => h) (Or.inl ⟨by rfl, fun w' _ => ?yT12⟩) HH.out ?_
                  case yT12 => (go_simp; try with_reducible rfl)
                  refine wpAnyH_take (i := 3) (v := .agg (bva y)) rfl (by kernel_rfl) (by kernel_rfl) (by kernel_rfl) (fun _ _ _ h => h) (Or.inl ⟨by rfl, fun w' hw' => ?yT13⟩) HH.out ?_
                  case yT13 => exact exec_load 37 (.tmp 20) rfl rfl (XB.out.below hw') Try.underlying37 rfl HIY.out
                  try simp only [List.getElem_toArray, List.getElem_cons_succ, List.getElem_cons_zero, Act.put, List.setIfInBounds_toArray, List.set_cons_zero, List.set_cons_succ]
                  refine wpAnyH_take (i := 4) (v := ?vT14) rfl (by kernel_rfl) (by kernel_rfl) (by kernel_rfl) (fun _ _ _ h => h) (Or.inl ⟨by rfl, fun w' _ => ?yT14⟩) HH.out ?_
                  case yT14 => (go_simp; try with_reducible rfl)
                  try simp only [List.getElem_toArray, List.getElem_cons_succ, List.getElem_cons_zero, Act.put, List.setIfInBounds_toArray, List.set_cons_zero, List.set_cons_succ]
                  refine wpAnyH_take (i := 5) (v := ?vT15) rfl (by kernel_rfl) (by kernel_rfl) (by kernel_rfl) (fun _ _ _ h => h) (Or.inl ⟨by rfl, fun w' _ => ?yT15⟩) HH.out ?_
                  case yT15 => (go_simp; try with_reducible rfl)
                  try simp only [List.getElem_toArray, List.getElem_cons_succ, List.getElem_cons_zero, Act.put, List.setIfInBounds_toArray, List.set_cons_zero, List.set_cons_succ]
                  refine wpAnyH_take (i := 6) (v := ?vT16) rfl (by kernel_rfl) (by kernel_rfl) (by kernel_rfl) (fun _ _ _ h => h) (Or.inl ⟨by rfl, fun w' _ => ?yT16⟩) HH.out ?_
                  case yT16 => (go_simp; try with_reducible rfl)
                  try simp only [List.getElem_toArray, List.getElem_cons_succ, List.getElem_cons_zero, Act.put, List.setIfInBounds_toArray, List.set_cons_zero, List.set_cons_succ]
                  refine wpAnyH_take (i := 7) (v := ?vT17) rfl (by kernel_rfl) (by kernel_rfl) (by kernel_rfl) (fun _ _ _ h => h) (Or.inl ⟨by rfl, fun w' _ => ?yT17⟩) HH.out ?_
                  case yT17 => (go_simp; try with_reducible rfl)
                  try simp only [List.getElem_toArray, List.getElem_cons_succ, List.getElem_cons_zero, Act.put, List.setIfInBounds_toArray, List.set_cons_zero, List.set_cons_succ]
                  refine wpAnyH_take (i := 8) (v := .int .u8 (x.toNat : Int)) rfl (by kernel_rfl) (by kernel_rfl) (by kernel_rfl) (fun _ _ _ h => h) (Or.inl ⟨by rfl, fun w' hw' => ?yT18⟩) HH.out ?_
                  case yT18 => (have hc := HCD.out w' (BB.out.trans (hw'.mono BB.out.size)); go_simp; try with_reducible rfl)
                  try simp only [List.getElem_toArray, List.getElem_cons_succ, List.getElem_cons_zero, Act.put, List.setIfInBounds_toArray, List.set_cons_zero, List.set_cons_succ]
                  refine wpAnyH_ready (rs := [9]) (by kernel_rfl) (by simp) (AllReadyH.cons rfl (fun K hK => ?_) AllReadyH.nil)
                  rw [if_pos (by rfl)]
                  go_simp
                  refine (HSE.out _).mono ?_
                  rintro e y2 ⟨rfl, bw⟩
                  go_simp
                  refine hK.out _ _ (HH.out.trans (bw.mono HH.out.size)) (fun hh => ?_)
                  have HH' := Lib.hid hh
                  clear hh hK K HH bw
                  have HH := Lib.hid HH'.out
                  clear HH'
                  try simp only [List.getElem_toArray, List.getElem_cons_succ, List.getElem_cons_zero, Act.put, List.setIfInBounds_toArray, List.set_cons_zero, List.set_cons_succ]
                  refine wpAnyH_take (i := 10) (v := .bool false) rfl (by kernel_rfl) (by kernel_rfl) (by kernel_rfl) (fun _ _ _ h => h) (Or.inl ⟨by rfl, fun w' hw' => ?yT110⟩) HH.out ?_
                  case yT110 => (go_simp; rw [HQ.out]; rfl)
                  try simp only [List.getElem_toArray, List.getElem_cons_succ, List.getElem_cons_zero, Act.put, List.setIfInBounds_toArray, List.set_cons_zero, List.set_cons_succ]
                  refine wpAnyH_take (i := 11) (v := ?vT111) rfl (by kernel_rfl) (by kernel_rfl) (by kernel_rfl) (fun _ _ _ h => h) (Or.inl ⟨by rfl, fun w' _ => ?yT111⟩) HH.out ?_
                  case yT111 => (go_simp; try with_reducible rfl)
                  try simp only [List.getElem_toArray, List.getElem_cons_succ, List.getElem_cons_zero, Act.put, List.setIfInBounds_toArray, List.set_cons_zero, List.set_cons_succ]
                  refine wpAnyH_done (by kernel_rfl) ?_ _
                  have BE := Lib.hid (HW.out.trans ((BB.out.trans (HH.out.mono BB.out.size)).mono HW.out.size))
                  clear HH XB BB HCD HW
                  go_wp2_with fail
                  go_roundw
                  case rel => exact ⟨i + 1, HIL.out, by go_num, BE.out⟩
                  case measure => (have := HIL.out; simp [intOf]; omega)
                · obtain rfl : i = j := by have := HI.out; omega
                  have i1 : ¬ (i : Int) < (i : Int) := by omega
                  clear hil
                  go_wp2_with fail
                  go_ret
                  exact ⟨rfl, B1.out.trans ((HY.out.below HW.out).live.bel.mono B1.out.size)⟩
      case true =>
        go_wp2_with fail
        have hmb : ∀ q, Ff q → q < wf.heap.size := (ML (Mu.one pw g1 g2) gH g).lt HF.out.live.at_
        have HMP := Lib.hid (World.ownsMap_made wf Try.prog 3 (boolP Try.prog))
        have HF0 := Lib.hid (HF.out.below (w' := wf.alloc (.map #[] 0)) ((Below.refl _ _).alloc (Nat.le_refl _) _))
        obtain ⟨b, hb⟩ : ∃ b, b = wf.heap.size := ⟨_, rfl⟩
        have HBF := Lib.hid (show ¬ Ff b ∧ w1.heap.size ≤ b from ⟨fun h => by have := hmb b h; omega, by rw [hb]; exact HF.out.live.bel.size⟩)
        rw [← hb] at HMP
        clear hmb HF
        try rw [← hb]
        obtain ⟨wg, hwg⟩ : ∃ wg, wg = wf.alloc (.map #[] 0) := ⟨_, rfl⟩
        rw [← hwg] at HMP HF0
        try rw [← hwg]
        clear hwg hb
        go_loopw [16] (fun i wr => ∃ (t : Nat) (s : Mr (Mu.one pw g1 g2)) (F : Nat → Prop) (L : List (List UInt8)) (kk : Nat) (Dm : DataW Unit) (ds : List Int), t ≤ M ∧ i = .int .i64 t ∧ Mu.LM pw g1 g2 gH g w1 wr s F (startM L (LJ SL j j) j) 0 ∧ Rotten SL j L ds ∧ kk ≤ t ∧ wr.ownsMap Try.prog 3 (boolP Try.prog) b kk Dm ∧ Hid (CutM Dm ds) ∧ ¬ F b) (fun i _ => M - (intOf i).toNat)
        case atStart => exact ⟨0, _, _, LJ SL j j, 0, .map [], [], Nat.zero_le _, rfl, HF0.out, rotten_start, Nat.le_refl _, HMP.out, cut_empty, HBF.out.1⟩
        case round =>
          clear HF0 HMP
          obtain ⟨t, s, F, L, kk, Dm, ds, ht, rfl, hlm, hro, hkk, hmap, HCU, hnf⟩ := hrel
          have H := Lib.hid hlm
          have HT := Lib.hid ht
          have HRO := Lib.hid hro
          have HKK := Lib.hid hkk
          have HM := Lib.hid hmap
          have HNF := Lib.hid hnf
          clear hlm ht hro hkk hmap hnf
          by_cases hlt : t < M ∧ 0 < j
          · have HLT := Lib.hid hlt
            have t0 : (0 : Int) ≤ (t : Int) := by omega
            have t1 : (t : Int) < (M : Int) := by omega
            have d0 : (0 : Int) < (j : Int) := by omega
            have d1 : ¬ (j : Int) = 0 := by omega
            have wt : IntKind.i64.wrap ((t : Int) + 1) = ((t + 1 : Nat) : Int) := IntWalk.i64_in _ (by have := HNB.out; omega)
            have m128 : ((t : Int)).tmod 128 = (t : Int) := by rw [Int.tmod_eq_emod_of_nonneg (by omega)]; have := HNB.out; omega
            obtain ⟨v, hv⟩ : ∃ v, v = r[t]'(by rw [HL'.out]; exact hlt.1) := ⟨_, rfl⟩
            have hlx : (bv r)[t]? = some (.int .u8 (v.toNat : Int)) := by rw [bv, List.getElem?_map, List.getElem?_eq_getElem (by rw [HL'.out]; exact hlt.1), hv]; rfl
            obtain ⟨ad, hA, hab, hac⟩ := (HD.out wr H.out.live.bel) t _ hlx
            subst hA
            obtain ⟨p, hp⟩ : ∃ p, p = v.toNat % j := ⟨_, rfl⟩
            have HP := Lib.hid (show p < j by rw [hp]; exact Nat.mod_lt _ hlt.2)
            have wv : IntKind.i64.wrap (v.toNat : Int) = (v.toNat : Int) := IntWalk.i64_in _ (by have := UInt8.toNat_lt v; omega)
            have hvp : ((v.toNat : Int)).tmod (j : Int) = (p : Int) := by rw [hp, Int.tmod_eq_emod_of_nonneg (by omega)]; omega
            clear hlt hv hlx hab hp
            by_cases hmz : mb = 0
            · have z0 : ((mb.toNat : Int)) = 0 := by rw [hmz]; rfl
              have Z0 := Lib.hid z0
              clear hmz
              go_wp2_with fail
              go_roundw
              case rel => exact ⟨t + 1, s, F, L, kk, Dm, ds, HLT.out.1, by go_num, H.out, HRO.out, by have := HKK.out; omega, HM.out, HCU, HNF.out⟩
              case measure => (have := HLT.out; simp [intOf]; omega)
            have z0 : ¬ ((mb.toNat : Int)) = 0 := fun e => hmz (UInt8.toNat_inj.1 (by show mb.toNat = 0; omega))
            have HMZ := Lib.hid hmz
            clear hmz
            have hlk0 := cut_look HM.out HCU.out (p : Int) ⟨by omega, by have := HP.out; have := HNB.out; omega⟩
            by_cases hin : (p : Int) ∈ ds
            · have hlk : (Instr.lookup 70 (.map (some b)) (.int .i64 p) false).run Try.prog wr = .ok (.bool true) wr := by rw [hlk0, decide_eq_true hin]
              clear hlk0 hin
              go_wp2_with fail
              go_roundw
              case rel => exact ⟨t + 1, s, F, L, kk, Dm, ds, HLT.out.1, by go_num, H.out, HRO.out, by have := HKK.out; omega, HM.out, HCU, HNF.out⟩
              case measure => (have := HLT.out; simp [intOf]; omega)
            · have hlk : (Instr.lookup 70 (.map (some b)) (.int .i64 p) false).run Try.prog wr = .ok (.bool false) wr := by rw [hlk0, decide_eq_false hin]
              have HIN := Lib.hid hin
              clear hlk0 hin
              go_wp2_with fail
              have hrs := rot_start0 (L := L) (L' := (LJ SL j j)) (n := j) (p := p) (a := t) (b := mb) HP.out (by have := HLT.out; have := HNB.out; omega)
              have hc := Mu.lm_rot0 H.out (p : Int) (t : Int) mb
              rw [hrs.1, hrs.2] at hc
              refine hc.mono ?_
              clear hc hrs
              rintro e wx ⟨rfl, sx, Fx, h, hm⟩
              have HX := Lib.hid h
              have HMX := Lib.hid (map_but HM.out hm.but HNF.out)
              have HNX := Lib.hid (show ¬ Fx b from fun hf => (hm.new b hf).elim HNF.out (fun h2 => by have := HM.out.lt; omega))
              have HRX := Lib.hid (HRO.out.rot xl HSL.out HP.out HIN.out (a := t) (by have := HLT.out; have := HNB.out; omega) HMZ.out)
              clear h hm H HM HNF HRO hlk
              have HKM := Lib.hid (show kk < maxLen by unfold maxLen; have := HKK.out; have := HLT.out; have := HNB.out; omega)
              go_wp2_with (at_mapUpdate; apply Classical.byContradiction; intro hneg)
              refine hneg ?_
              clear hneg
              refine wpList_mapUpdate_own _ rfl _ _ _ 70 rfl 3 4 Sc.lawI Try.underlying70 (boolP Try.prog) b kk Dm rfl HMX.out HKM.out (.int .i64 p) (.bool true) (.int .i64 p) rfl rfl (keyOf_int_mk Try.underlying3 (Sc.wfI ⟨by omega, by have := HP.out; have := HNB.out; omega⟩)) (.lit (.bool true)) [] (boolR_mk true) ?_
              intro w6 hown6 hgrow6
              have hbg := but_of_grown (S := (· = b)) hgrow6 (fun q hq => by injection hq with hq; exact hq.symm)
              have HG := Lib.hid (lm_but HX.out hbg (fun q hf e => HNX.out (e ▸ hf)) (fun q e => by rw [e]; exact HBF.out.2))
              have HMG := Lib.hid hown6
              have HCP := HCU.out.put (p : Int)
              rw [if_neg HIN.out] at HCP
              have HCG := Lib.hid HCP
              clear hown6 hgrow6 hbg HX HMX HCP
              go_wp2_with fail
              go_roundw
              case rel => exact ⟨t + 1, sx, Fx, rotL L p t mb, _, _, (p : Int) :: ds, HLT.out.1, by go_num, HG.out, HRX.out, by have := HKK.out; omega, HMG.out, HCG, HNX.out⟩
              case measure => (have := HLT.out; simp [intOf]; omega)
          · have HEX := Lib.hid hlt
            have FR := Lib.hid (show Fresh (startM L (LJ SL j j) j) j from start_fresh HRO.out.len (LJ_length (Nat.le_refl _)))
            obtain ⟨h1, h2, h3, h4⟩ := FR.out.run (f := healN) j (Nat.le_refl _)
            obtain ⟨x1, hx1⟩ : ∃ x1, x1 = (mdRun healN ((startM L (LJ SL j j) j), Wk.zero) j).1 := ⟨_, rfl⟩
            rw [← hx1] at h1 h3 h4
            have hct := (rotten_cnt HRO.out xl HSL.out j (Nat.le_refl _)).1
            have hsum := cnt_sum (f := healN) L (LJ SL j j) j
            obtain ⟨cc, hcc⟩ : ∃ cc, cc = cntK healN L (LJ SL j j) j := ⟨_, rfl⟩
            rw [← hcc] at hct hsum
            obtain ⟨r1, hr1⟩ : ∃ r1, r1 = cc.r := ⟨_, rfl⟩
            obtain ⟨S, hS⟩ : ∃ S, S = ds.length := ⟨_, rfl⟩
            have hcs : cc.h = S := by rw [hct.1, HRO.out.cnt, hS]
            have HSUM := Lib.hid (show r1 + S = j by rw [hcs, hct.2] at hsum; omega)
            have HSD := Lib.hid hS
            have HRV := Lib.hid (show (mdRun gH.f ((startM L (LJ SL j j) j), Wk.zero) ((startM L (LJ SL j j) j)).a.length).2.rep = #[.int .i64 r1, .int .i64 S, .int .i64 0] by
              rw [start_len, show (mdRun gH.f ((startM L (LJ SL j j) j), Wk.zero) j).2 = cc from h2.trans hcc.symm, rep_form, hct.2, hcs, hr1]; rfl)
            have HRX := Lib.hid (show (mdRun gH.f ((startM L (LJ SL j j) j), Wk.zero) ((startM L (LJ SL j j) j)).a.length).1 = x1 by rw [start_len, hx1]; rfl)
            have HLN := Lib.hid (show ((startM L (LJ SL j j) j)).a.length = j from start_len (L0 := L) (L1 := (LJ SL j j)))
            have HRD := Lib.hid (show ∀ i, i < j → (if x1.o0 = false ∧ (0 : Int) ≤ (i : Int) ∧ (i : Int) < (x1.a.length : Int) then x1.l0.getD (i : Int).toNat zeroS else zeroS) = SL i from fun i hi => by
              rw [if_pos ⟨h1.o0, by omega, by rw [h1.len]; omega⟩, Int.toNat_natCast, h3 i hi, if_pos hi]
              show hl0 healN i (L.getD i zeroS) ((LJ SL j j).getD i zeroS) = SL i
              rw [LJ_get hi]; exact (rotten_ck HRO.out xl HSL.out hi).2.2.1)
            have HED := Lib.hid (show ∀ i, i < j → (if x1.o0 = true then (13 : Int) else if (i : Int) < 0 ∨ (x1.a.length : Int) ≤ (i : Int) then 2 else 0) = 0 from fun i hi => by
              rw [h1.o0, if_neg (by simp), if_neg (by rw [h1.len]; omega)])
            clear h1 h2 h3 h4 hx1 hct hsum hcc hr1 hS hcs hlt
            by_cases htm : t < M
            · have t0 : (t : Int) < (M : Int) := by omega
              have d0 : ¬ (0 : Int) < (j : Int) := by have := HEX.out; omega
              clear htm HEX
              go_wp2_with fail
              have hc := lm_all H.out (by rw [HLN.out]; have := HNB.out; omega) (by omega)
              rw [HRV.out, HRX.out] at hc
              refine hc.mono ?_
              clear hc
              rintro e wx ⟨rfl, sx, Fx, h, hm⟩
              have HX := Lib.hid h
              have HMX := Lib.hid (map_but HM.out hm.but HNF.out)
              clear h hm H HM HNF
              go_wp2_with (show wpList _ _ _ ({ dst := none, op := .store 32 (.tmp 18) (.tmp 105), type := _, pos := _, after := _, guard := _ } :: _) _ _; apply Classical.byContradiction; intro hneg)
              refine hneg ?_
              clear hneg
              refine wpList_store_row rfl 32 (.tmp 18) (.tmp 105) rfl wx.heap.size #[.int .i64 r1, .int .i64 S, .int .i64 0] rfl rfl 32 #[.int .i64 0, .int .i64 0, .int .i64 0] (heap_alloc_new _ _) wk_info rfl (by simp [Value.oneCell']) ?_
              obtain ⟨wy, hwy⟩ : ∃ wy, wy = (wx.alloc (.cells #[.int .i64 0, .int .i64 0, .int .i64 0] 32)).setRow wx.heap.size #[.int .i64 r1, .int .i64 S, .int .i64 0] := ⟨_, rfl⟩
              have bw : Below wx.heap.size wx wy := by rw [hwy]; exact below_setRow ((Below.refl _ _).alloc (Nat.le_refl _) _) (Nat.le_refl _) _
              have hbx : Blk wy wx.heap.size #[.int .i64 r1, .int .i64 S, .int .i64 0] 32 := by rw [hwy]; exact setRow_heap _ _ _ _ _ _ (heap_alloc_new _ _)
              rw [← hwy]
              clear hwy
              obtain ⟨br, hbr⟩ : ∃ br, br = wx.heap.size := ⟨_, rfl⟩
              rw [← hbr] at hbx
              rw [← hbr]
              have HY := Lib.hid (HX.out.below bw)
              have HMY := Lib.hid (map_below HMX.out bw)
              clear bw hbr HX HMX
              have c0 : wy.cell? ⟨br, 0, none⟩ = some (.int .i64 r1) := hbx.cell 0
              have c1 : wy.cell? ⟨br, 1, none⟩ = some (.int .i64 S) := hbx.cell 1
              have c2 : wy.cell? ⟨br, 2, none⟩ = some (.int .i64 0) := hbx.cell 2
              have hl1 : ∀ ty, (Builtin.len_ #[70] ty #[.map (some b)]).run Try.prog wy = .ok (.int .i64 S) wy := fun ty => by rw [HMY.out.len Try.underlying70 ty, HCU.out.size, HSD.out]
              have wsub : IntKind.i64.wrap ((j : Int) - (S : Int)) = (r1 : Int) := by rw [show (j : Int) - (S : Int) = (r1 : Int) by have := HSUM.out; omega]; exact IntWalk.i64_in _ (by have := HSUM.out; have := HNB.out; omega)
              clear hbx
              go_wp2_with fail
              clear hl1 c0 c1 c2 wsub
              go_loopw [128] (fun i wr => ∃ (i' : Nat), i' ≤ j ∧ i = .int .i64 i' ∧ Below wy.heap.size wy wr) (fun i _ => j - (intOf i).toNat)
              case atStart => exact ⟨0, Nat.zero_le _, rfl, Below.refl _ _⟩
              case round =>
                obtain ⟨i, hi, rfl, hb⟩ := hrel
                have HI := Lib.hid hi
                have HW := Lib.hid hb
                clear hi hb
                by_cases hil : i < j
                · have HIL := Lib.hid hil
                  have i0 : (0 : Int) ≤ (i : Int) := by omega
                  have i1 : (i : Int) < (j : Int) := by omega
                  have wi : IntKind.i64.wrap ((i : Int) + 1) = ((i + 1 : Nat) : Int) := IntWalk.i64_in _ (by have := HNB.out; omega)
                  have hlx : (bv l)[i]? = some (.int .u8 ((xl i).toNat : Int)) := by rw [bv, List.getElem?_map, List.getElem?_eq_getElem (by rw [HL.out]; exact hil), HXL.out, List.getD_eq_getElem?_getD, List.getElem?_eq_getElem (by rw [HL.out]; exact hil)]; rfl
                  have HBE := Lib.hid (HY.out.below HW.out)
                  obtain ⟨ad, hA, hab, hac⟩ := (HA.out wr HBE.out.live.bel) i _ hlx
                  subst hA
                  obtain ⟨x, hx⟩ : ∃ x, x = xl i := ⟨_, rfl⟩
                  obtain ⟨y, hy⟩ : ∃ y, y = SL i := ⟨_, rfl⟩
                  have HY3 := Lib.hid (show y.length = 128 by rw [hy]; exact HS3.out i)
                  have HIY : Hid ((Try.prog.info? 37).map (·.size) = some (bva y).size) := by rw [bva_size, HY3.out]; exact info_sec
                  have HSE := Lib.hid (show ∀ w, Calls Try.prog 37 #[.int .i64 i, .int .u8 (x.toNat : Int)] w (RetB (.agg (bva y)) w) from fun w => by rw [hy, HSL.out, hx]; exact sealed_any w i (xl i))
                  have HRI := Lib.hid ((HRD.out i hil).trans hy.symm)
                  have HQ := Lib.hid (show ∀ W, (Op.equalIn 10000 37 (.agg (bva y)) (.agg (bva y))).run Try.prog W = .ok true W from fun W => by rw [eq_sec y y HY3.out HY3.out, decide_eq_true rfl])
                  have HCD := Lib.hid (show ∀ w', Below wr.heap.size wr w' → w'.cell? (ad.add i) = some (.int .u8 (x.toNat : Int)) from fun w' hb => by
                    obtain ⟨a2, h1, _, h2⟩ := (HA.out w' (HBE.out.live.bel.trans (hb.mono HBE.out.live.bel.size))) i _ hlx
                    injection h1 with h1; subst h1
                    rw [hx]; exact h2)
                  clear hil hlx hx hy hab hac
                  go_wp2_with fail
                  have hc := Mu.lm_dread0 HBE.out (i : Int)
                  rw [HRI.out, HED.out i HIL.out] at hc
                  refine hc.mono ?_
                  clear hc
                  rintro e wa ⟨rfl, bw⟩
                  have BA := Lib.hid bw
                  clear bw HBE
                  go_wp2_with (show wpList _ _ _ ({ dst := none, op := .store 37 (.tmp 20) (.tmp 135), type := _, pos := _, after := _, guard := _ } :: _) _ _; apply Classical.byContradiction; intro hneg)
                  refine hneg ?_
                  clear hneg
                  refine wpList_store_row rfl 37 (.tmp 20) (.tmp 135) rfl wa.heap.size (bva y) rfl rfl 37 (bva z) (heap_alloc_new _ _) HIY.out (by rw [bva_size, bva_size, HY3.out, HZ3.out]) (bva_one _) ?_
                  obtain ⟨wb, hwb⟩ : ∃ wb, wb = (wa.alloc (.cells (bva z) 37)).setRow wa.heap.size (bva y) := ⟨_, rfl⟩
                  have bw : Below wa.heap.size wa wb := by rw [hwb]; exact below_setRow ((Below.refl _ _).alloc (Nat.le_refl _) _) (Nat.le_refl _) _
                  have hbx : Blk wb wa.heap.size (bva y) 37 := by rw [hwb]; exact setRow_heap _ _ _ _ _ _ (heap_alloc_new _ _)
                  rw [← hwb]
                  clear hwb
                  obtain ⟨bq, hbq⟩ : ∃ bq, bq = wa.heap.size := ⟨_, rfl⟩
                  rw [← hbq] at hbx
                  rw [← hbq]
                  have XB := Lib.hid hbx
                  have BB := Lib.hid (BA.out.trans (bw.mono BA.out.size))
                  clear hbx bw hbq BA
                  go_upto_region 31 with fail
                  refine wp_region_held_drew (S := fun w' => Below wb.heap.size wb w') (by kernel_rfl) (Below.refl _ _).drew (fun hh => ?_)
                  have HH := Lib.hid hh
                  clear hh
                  refine wpAnyH_take (i := 0) (v := ?vF00) rfl (by kernel_rfl) (by kernel_rfl) (by kernel_rfl) (fun _ _ _ h => h) (Or.inl ⟨by rfl, fun w' _ => ?yF00⟩) HH.out ?_
                  case yF00 => (go_simp; try with_reducible rfl)
                  refine wpAnyH_take (i := 1) (v := .bool false) rfl (by kernel_rfl) (by kernel_rfl) (by kernel_rfl) (fun _ _ _ h => h) (Or.inl ⟨by rfl, fun w' hw' => ?yF01⟩) HH.out ?_
                  case yF01 => (go_simp; try rfl)
                  try simp only [List.getElem_toArray, List.getElem_cons_succ, List.getElem_cons_zero, Act.put, List.setIfInBounds_toArray, List.set_cons_zero, List.set_cons_succ]
                  refine wpAnyH_take (i := 2) (v := ?vF02) rfl (by kernel_rfl) (by kernel_rfl) (by kernel_rfl) (fun _ _ _ h => h) (Or.inl ⟨by rfl, fun w' _ => ?yF02⟩) HH.out ?_
                  case yF02 => (go_simp; try with_reducible rfl)
                  refine wpAnyH_take (i := 3) (v := .agg (bva y)) rfl (by kernel_rfl) (by kernel_rfl) (by kernel_rfl) (fun _ _ _ h => h) (Or.inl ⟨by rfl, fun w' hw' => ?yF03⟩) HH.out ?_
                  case yF03 => exact exec_load 37 (.tmp 20) rfl rfl (XB.out.below hw') Try.underlying37 rfl HIY.out
                  try simp only [List.getElem_toArray, List.getElem_cons_succ, List.getElem_cons_zero, Act.put, List.setIfInBounds_toArray, List.set_cons_zero, List.set_cons_succ]
                  refine wpAnyH_take (i := 4) (v := ?vF04) rfl (by kernel_rfl) (by kernel_rfl) (by kernel_rfl) (fun _ _ _ h => h) (Or.inl ⟨by rfl, fun w' _ => ?yF04⟩) HH.out ?_
                  case yF04 => (go_simp; try with_reducible rfl)
                  try simp only [List.getElem_toArray, List.getElem_cons_succ, List.getElem_cons_zero, Act.put, List.setIfInBounds_toArray, List.set_cons_zero, List.set_cons_succ]
                  refine wpAnyH_take (i := 5) (v := ?vF05) rfl (by kernel_rfl) (by kernel_rfl) (by kernel_rfl) (fun _ _ _ h => h) (Or.inl ⟨by rfl, fun w' _ => ?yF05⟩) HH.out ?_
                  case yF05 => (go_simp; try with_reducible rfl)
                  try simp only [List.getElem_toArray, List.getElem_cons_succ, List.getElem_cons_zero, Act.put, List.setIfInBounds_toArray, List.set_cons_zero, List.set_cons_succ]
                  refine wpAnyH_take (i := 6) (v := ?vF06) rfl (by kernel_rfl) (by kernel_rfl) (by kernel_rfl) (fun _ _ _ h => h) (Or.inl ⟨by rfl, fun w' _ => ?yF06⟩) HH.out ?_
                  case yF06 => (go_simp; try with_reducible rfl)
                  try simp only [List.getElem_toArray, List.getElem_cons_succ, List.getElem_cons_zero, Act.put, List.setIfInBounds_toArray, List.set_cons_zero, List.set_cons_succ]
                  refine wpAnyH_take (i := 7) (v := ?vF07) rfl (by kernel_rfl) (by kernel_rfl) (by kernel_rfl) (fun _ _ _ h => h) (Or.inl ⟨by rfl, fun w' _ => ?yF07⟩) HH.out ?_
                  case yF07 => (go_simp; try with_reducible rfl)
                  try simp only [List.getElem_toArray, List.getElem_cons_succ, List.getElem_cons_zero, Act.put, List.setIfInBounds_toArray, List.set_cons_zero, List.set_cons_succ]
                  refine wpAnyH_take (i := 8) (v := .int .u8 (x.toNat : Int)) rfl (by kernel_rfl) (by kernel_rfl) (by kernel_rfl) (fun _ _ _ h => h) (Or.inl ⟨by rfl, fun w' hw' => ?yF08⟩) HH.out ?_
                  case yF08 => (have hc := HCD.out w' (BB.out.trans (hw'.mono BB.out.size)); go_simp; try with_reducible rfl)
                  try simp only [List.getElem_toArray, List.getElem_cons_succ, List.getElem_cons_zero, Act.put, List.setIfInBounds_toArray, List.set_cons_zero, List.set_cons_succ]
                  refine wpAnyH_ready (rs := [9]) (by kernel_rfl) (by simp) (AllReadyH.cons rfl (fun K hK => ?_) AllReadyH.nil)
                  rw [if_pos (by rfl)]
                  go_simp
                  refine (HSE.out _).mono ?_
                  rintro e y2 ⟨rfl, bw⟩
                  go_simp
                  refine hK.out _ _ (HH.out.trans (bw.mono HH.out.size)) (fun hh => ?_)
                  have HH' := Lib.hid hh
                  clear hh hK K HH bw
                  have HH := Lib.hid HH'.out
                  clear HH'
                  try simp only [List.getElem_toArray, List.getElem_cons_succ, List.getElem_cons_zero, Act.put, List.setIfInBounds_toArray, List.set_cons_zero, List.set_cons_succ]
                  refine wpAnyH_take (i := 10) (v := .bool false) rfl (by kernel_rfl) (by kernel_rfl) (by kernel_rfl) (fun _ _ _ h => h) (Or.inl ⟨by rfl, fun w' hw' => ?yF010⟩) HH.out ?_
                  case yF010 => (go_simp; rw [HQ.out]; rfl)
                  try simp only [List.getElem_toArray, List.getElem_cons_succ, List.getElem_cons_zero, Act.put, List.setIfInBounds_toArray, List.set_cons_zero, List.set_cons_succ]
                  refine wpAnyH_take (i := 11) (v := ?vF011) rfl (by kernel_rfl) (by kernel_rfl) (by kernel_rfl) (fun _ _ _ h => h) (Or.inl ⟨by rfl, fun w' _ => ?yF011⟩) HH.out ?_
                  case yF011 => (go_simp; try with_reducible rfl)
                  try simp only [List.getElem_toArray, List.getElem_cons_succ, List.getElem_cons_zero, Act.put, List.setIfInBounds_toArray, List.set_cons_zero, List.set_cons_succ]
                  refine wpAnyH_done (by kernel_rfl) ?_ _
                  have BE := Lib.hid (HW.out.trans ((BB.out.trans (HH.out.mono BB.out.size)).mono HW.out.size))
                  clear HH XB BB HCD HW
                  go_wp2_with fail
                  go_roundw
                  case rel => exact ⟨i + 1, HIL.out, by go_num, BE.out⟩
                  case measure => (have := HIL.out; simp [intOf]; omega)
                · obtain rfl : i = j := by have := HI.out; omega
                  have i1 : ¬ (i : Int) < (i : Int) := by omega
                  clear hil
                  go_wp2_with fail
                  go_ret
                  exact ⟨rfl, B1.out.trans ((HY.out.below HW.out).live.bel.mono B1.out.size)⟩
            · have t0 : ¬ (t : Int) < (M : Int) := by omega
              clear htm HEX
              go_wp2_with fail
              have hc := lm_all H.out (by rw [HLN.out]; have := HNB.out; omega) (by omega)
              rw [HRV.out, HRX.out] at hc
              refine hc.mono ?_
              clear hc
              rintro e wx ⟨rfl, sx, Fx, h, hm⟩
              have HX := Lib.hid h
              have HMX := Lib.hid (map_but HM.out hm.but HNF.out)
              clear h hm H HM HNF
              go_wp2_with (show wpList _ _ _ ({ dst := none, op := .store 32 (.tmp 18) (.tmp 105), type := _, pos := _, after := _, guard := _ } :: _) _ _; apply Classical.byContradiction; intro hneg)
              refine hneg ?_
              clear hneg
              refine wpList_store_row rfl 32 (.tmp 18) (.tmp 105) rfl wx.heap.size #[.int .i64 r1, .int .i64 S, .int .i64 0] rfl rfl 32 #[.int .i64 0, .int .i64 0, .int .i64 0] (heap_alloc_new _ _) wk_info rfl (by simp [Value.oneCell']) ?_
              obtain ⟨wy, hwy⟩ : ∃ wy, wy = (wx.alloc (.cells #[.int .i64 0, .int .i64 0, .int .i64 0] 32)).setRow wx.heap.size #[.int .i64 r1, .int .i64 S, .int .i64 0] := ⟨_, rfl⟩
              have bw : Below wx.heap.size wx wy := by rw [hwy]; exact below_setRow ((Below.refl _ _).alloc (Nat.le_refl _) _) (Nat.le_refl _) _
              have hbx : Blk wy wx.heap.size #[.int .i64 r1, .int .i64 S, .int .i64 0] 32 := by rw [hwy]; exact setRow_heap _ _ _ _ _ _ (heap_alloc_new _ _)
              rw [← hwy]
              clear hwy
              obtain ⟨br, hbr⟩ : ∃ br, br = wx.heap.size := ⟨_, rfl⟩
              rw [← hbr] at hbx
              rw [← hbr]
              have HY := Lib.hid (HX.out.below bw)
              have HMY := Lib.hid (map_below HMX.out bw)
              clear bw hbr HX HMX
              have c0 : wy.cell? ⟨br, 0, none⟩ = some (.int .i64 r1) := hbx.cell 0
              have c1 : wy.cell? ⟨br, 1, none⟩ = some (.int .i64 S) := hbx.cell 1
              have c2 : wy.cell? ⟨br, 2, none⟩ = some (.int .i64 0) := hbx.cell 2
              have hl1 : ∀ ty, (Builtin.len_ #[70] ty #[.map (some b)]).run Try.prog wy = .ok (.int .i64 S) wy := fun ty => by rw [HMY.out.len Try.underlying70 ty, HCU.out.size, HSD.out]
              have wsub : IntKind.i64.wrap ((j : Int) - (S : Int)) = (r1 : Int) := by rw [show (j : Int) - (S : Int) = (r1 : Int) by have := HSUM.out; omega]; exact IntWalk.i64_in _ (by have := HSUM.out; have := HNB.out; omega)
              clear hbx
              go_wp2_with fail
              clear hl1 c0 c1 c2 wsub
              go_loopw [128] (fun i wr => ∃ (i' : Nat), i' ≤ j ∧ i = .int .i64 i' ∧ Below wy.heap.size wy wr) (fun i _ => j - (intOf i).toNat)
              case atStart => exact ⟨0, Nat.zero_le _, rfl, Below.refl _ _⟩
              case round =>
                obtain ⟨i, hi, rfl, hb⟩ := hrel
                have HI := Lib.hid hi
                have HW := Lib.hid hb
                clear hi hb
                by_cases hil : i < j
                · have HIL := Lib.hid hil
                  have i0 : (0 : Int) ≤ (i : Int) := by omega
                  have i1 : (i : Int) < (j : Int) := by omega
                  have wi : IntKind.i64.wrap ((i : Int) + 1) = ((i + 1 : Nat) : Int) := IntWalk.i64_in _ (by have := HNB.out; omega)
                  have hlx : (bv l)[i]? = some (.int .u8 ((xl i).toNat : Int)) := by rw [bv, List.getElem?_map, List.getElem?_eq_getElem (by rw [HL.out]; exact hil), HXL.out, List.getD_eq_getElem?_getD, List.getElem?_eq_getElem (by rw [HL.out]; exact hil)]; rfl
                  have HBE := Lib.hid (HY.out.below HW.out)
                  obtain ⟨ad, hA, hab, hac⟩ := (HA.out wr HBE.out.live.bel) i _ hlx
                  subst hA
                  obtain ⟨x, hx⟩ : ∃ x, x = xl i := ⟨_, rfl⟩
                  obtain ⟨y, hy⟩ : ∃ y, y = SL i := ⟨_, rfl⟩
                  have HY3 := Lib.hid (show y.length = 128 by rw [hy]; exact HS3.out i)
                  have HIY : Hid ((Try.prog.info? 37).map (·.size) = some (bva y).size) := by rw [bva_size, HY3.out]; exact info_sec
                  have HSE := Lib.hid (show ∀ w, Calls Try.prog 37 #[.int .i64 i, .int .u8 (x.toNat : Int)] w (RetB (.agg (bva y)) w) from fun w => by rw [hy, HSL.out, hx]; exact sealed_any w i (xl i))
                  have HRI := Lib.hid ((HRD.out i hil).trans hy.symm)
                  have HQ := Lib.hid (show ∀ W, (Op.equalIn 10000 37 (.agg (bva y)) (.agg (bva y))).run Try.prog W = .ok true W from fun W => by rw [eq_sec y y HY3.out HY3.out, decide_eq_true rfl])
                  have HCD := Lib.hid (show ∀ w', Below wr.heap.size wr w' → w'.cell? (ad.add i) = some (.int .u8 (x.toNat : Int)) from fun w' hb => by
                    obtain ⟨a2, h1, _, h2⟩ := (HA.out w' (HBE.out.live.bel.trans (hb.mono HBE.out.live.bel.size))) i _ hlx
                    injection h1 with h1; subst h1
                    rw [hx]; exact h2)
                  clear hil hlx hx hy hab hac
                  go_wp2_with fail
                  have hc := Mu.lm_dread0 HBE.out (i : Int)
                  rw [HRI.out, HED.out i HIL.out] at hc
                  refine hc.mono ?_
                  clear hc
                  rintro e wa ⟨rfl, bw⟩
                  have BA := Lib.hid bw
                  clear bw HBE
                  go_wp2_with (show wpList _ _ _ ({ dst := none, op := .store 37 (.tmp 20) (.tmp 135), type := _, pos := _, after := _, guard := _ } :: _) _ _; apply Classical.byContradiction; intro hneg)
                  refine hneg ?_
                  clear hneg
                  refine wpList_store_row rfl 37 (.tmp 20) (.tmp 135) rfl wa.heap.size (bva y) rfl rfl 37 (bva z) (heap_alloc_new _ _) HIY.out (by rw [bva_size, bva_size, HY3.out, HZ3.out]) (bva_one _) ?_
                  obtain ⟨wb, hwb⟩ : ∃ wb, wb = (wa.alloc (.cells (bva z) 37)).setRow wa.heap.size (bva y) := ⟨_, rfl⟩
                  have bw : Below wa.heap.size wa wb := by rw [hwb]; exact below_setRow ((Below.refl _ _).alloc (Nat.le_refl _) _) (Nat.le_refl _) _
                  have hbx : Blk wb wa.heap.size (bva y) 37 := by rw [hwb]; exact setRow_heap _ _ _ _ _ _ (heap_alloc_new _ _)
                  rw [← hwb]
                  clear hwb
                  obtain ⟨bq, hbq⟩ : ∃ bq, bq = wa.heap.size := ⟨_, rfl⟩
                  rw [← hbq] at hbx
                  rw [← hbq]
                  have XB := Lib.hid hbx
                  have BB := Lib.hid (BA.out.trans (bw.mono BA.out.size))
                  clear hbx bw hbq BA
                  go_upto_region 31 with fail
                  refine wp_region_held_drew (S := fun w' => Below wb.heap.size wb w') (by kernel_rfl) (Below.refl _ _).drew (fun hh => ?_)
                  have HH := Lib.hid hh
                  clear hh
                  refine wpAnyH_take (i := 0) (v := ?vF10) rfl (by kernel_rfl) (by kernel_rfl) (by kernel_rfl) (fun _ _ _ h => h) (Or.inl ⟨by rfl, fun w' _ => ?yF10⟩) HH.out ?_
                  case yF10 => (go_simp; try with_reducible rfl)
                  refine wpAnyH_take (i := 1) (v := .bool false) rfl (by kernel_rfl) (by kernel_rfl) (by kernel_rfl) (fun _ _ _ h => h) (Or.inl ⟨by rfl, fun w' hw' => ?yF11⟩) HH.out ?_
                  case yF11 => (go_simp; try rfl)
                  try simp only [List.getElem_toArray, List.getElem_cons_succ, List.getElem_cons_zero, Act.put, List.setIfInBounds_toArray, List.set_cons_zero, List.set_cons_succ]
                  refine wpAnyH_take (i := 2) (v := ?vF12) rfl (by kernel_rfl) (by kernel_rfl) (by kernel_rfl) (fun _ _ _ h => h) (Or.inl ⟨by rfl, fun w' _ => ?yF12⟩) HH.out ?_
                  case yF12 => (go_simp; try with_reducible rfl)
                  refine wpAnyH_take (i := 3) (v := .agg (bva y)) rfl (by kernel_rfl) (by kernel_rfl) (by kernel_rfl) (fun _ _ _ h => h) (Or.inl ⟨by rfl, fun w' hw' => ?yF13⟩) HH.out ?_
                  case yF13 => exact exec_load 37 (.tmp 20) rfl rfl (XB.out.below hw') Try.underlying37 rfl HIY.out
                  try simp only [List.getElem_toArray, List.getElem_cons_succ, List.getElem_cons_zero, Act.put, List.setIfInBounds_toArray, List.set_cons_zero, List.set_cons_succ]
                  refine wpAnyH_take (i := 4) (v := ?vF14) rfl (by kernel_rfl) (by kernel_rfl) (by kernel_rfl) (fun _ _ _ h => h) (Or.inl ⟨by rfl, fun w' _ => ?yF14⟩) HH.out ?_
                  case yF14 => (go_simp; try with_reducible rfl)
                  try simp only [List.getElem_toArray, List.getElem_cons_succ, List.getElem_cons_zero, Act.put, List.setIfInBounds_toArray, List.set_cons_zero, List.set_cons_succ]
                  refine wpAnyH_take (i := 5) (v := ?vF15) rfl (by kernel_rfl) (by kernel_rfl) (by kernel_rfl) (fun _ _ _ h => h) (Or.inl ⟨by rfl, fun w' _ => ?yF15⟩) HH.out ?_
                  case yF15 => (go_simp; try with_reducible rfl)
                  try simp only [List.getElem_toArray, List.getElem_cons_succ, List.getElem_cons_zero, Act.put, List.setIfInBounds_toArray, List.set_cons_zero, List.set_cons_succ]
                  refine wpAnyH_take (i := 6) (v := ?vF16) rfl (by kernel_rfl) (by kernel_rfl) (by kernel_rfl) (fun _ _ _ h => h) (Or.inl ⟨by rfl, fun w' _ => ?yF16⟩) HH.out ?_
                  case yF16 => (go_simp; try with_reducible rfl)
                  try simp only [List.getElem_toArray, List.getElem_cons_succ, List.getElem_cons_zero, Act.put, List.setIfInBounds_toArray, List.set_cons_zero, List.set_cons_succ]
                  refine wpAnyH_take (i := 7) (v := ?vF17) rfl (by kernel_rfl) (by kernel_rfl) (by kernel_rfl) (fun _ _ _ h => h) (Or.inl ⟨by rfl, fun w' _ => ?yF17⟩) HH.out ?_
                  case yF17 => (go_simp; try with_reducible rfl)
                  try simp only [List.getElem_toArray, List.getElem_cons_succ, List.getElem_cons_zero, Act.put, List.setIfInBounds_toArray, List.set_cons_zero, List.set_cons_succ]
                  refine wpAnyH_take (i := 8) (v := .int .u8 (x.toNat : Int)) rfl (by kernel_rfl) (by kernel_rfl) (by kernel_rfl) (fun _ _ _ h => h) (Or.inl ⟨by rfl, fun w' hw' => ?yF18⟩) HH.out ?_
                  case yF18 => (have hc := HCD.out w' (BB.out.trans (hw'.mono BB.out.size)); go_simp; try with_reducible rfl)
                  try simp only [List.getElem_toArray, List.getElem_cons_succ, List.getElem_cons_zero, Act.put, List.setIfInBounds_toArray, List.set_cons_zero, List.set_cons_succ]
                  refine wpAnyH_ready (rs := [9]) (by kernel_rfl) (by simp) (AllReadyH.cons rfl (fun K hK => ?_) AllReadyH.nil)
                  rw [if_pos (by rfl)]
                  go_simp
                  refine (HSE.out _).mono ?_
                  rintro e y2 ⟨rfl, bw⟩
                  go_simp
                  refine hK.out _ _ (HH.out.trans (bw.mono HH.out.size)) (fun hh => ?_)
                  have HH' := Lib.hid hh
                  clear hh hK K HH bw
                  have HH := Lib.hid HH'.out
                  clear HH'
                  try simp only [List.getElem_toArray, List.getElem_cons_succ, List.getElem_cons_zero, Act.put, List.setIfInBounds_toArray, List.set_cons_zero, List.set_cons_succ]
                  refine wpAnyH_take (i := 10) (v := .bool false) rfl (by kernel_rfl) (by kernel_rfl) (by kernel_rfl) (fun _ _ _ h => h) (Or.inl ⟨by rfl, fun w' hw' => ?yF110⟩) HH.out ?_
                  case yF110 => (go_simp; rw [HQ.out]; rfl)
                  try simp only [List.getElem_toArray, List.getElem_cons_succ, List.getElem_cons_zero, Act.put, List.setIfInBounds_toArray, List.set_cons_zero, List.set_cons_succ]
                  refine wpAnyH_take (i := 11) (v := ?vF111) rfl (by kernel_rfl) (by kernel_rfl) (by kernel_rfl) (fun _ _ _ h => h) (Or.inl ⟨by rfl, fun w' _ => ?yF111⟩) HH.out ?_
                  case yF111 => (go_simp; try with_reducible rfl)
                  try simp only [List.getElem_toArray, List.getElem_cons_succ, List.getElem_cons_zero, Act.put, List.setIfInBounds_toArray, List.set_cons_zero, List.set_cons_succ]
                  refine wpAnyH_done (by kernel_rfl) ?_ _
                  have BE := Lib.hid (HW.out.trans ((BB.out.trans (HH.out.mono BB.out.size)).mono HW.out.size))
                  clear HH XB BB HCD HW
                  go_wp2_with fail
                  go_roundw
                  case rel => exact ⟨i + 1, HIL.out, by go_num, BE.out⟩
                  case measure => (have := HIL.out; simp [intOf]; omega)
                · obtain rfl : i = j := by have := HI.out; omega
                  have i1 : ¬ (i : Int) < (i : Int) := by omega
                  clear hil
                  go_wp2_with fail
                  go_ret
                  exact ⟨rfl, B1.out.trans ((HY.out.below HW.out).live.bel.mono B1.out.size)⟩
theorem scrubSealed_own : ownKnob Try.prog.godebug = none := by kernel_rfl
theorem scrubSealed_laid : laidOutB Try.prog = true := by kernel_rfl

set_option maxRecDepth 100000 in
theorem scrubSealed_lifted (os : Os) (started : os.Started) (H : Type) (enc : TypeId × Value → H) :
    ReturnsInHanded {} Try.checked os 11 .any (Rows.scrubSealedSpec.pre6 enc Try.prog Try.f11 Rows.scrubSealedRow.domain false) (Rows.scrubSealedSpec.post enc Try.prog Try.f11 false true false false) := by
  refine returnsInHanded_of_change (C := Try.checked) scrubSealed_own started (by kernel_rfl) Try.func11
    (ChangeSpec.witness6 (enc := enc) (C := Try.checked) false ⟨#[], #[.slice none 0 0, .slice none 0 0, .int .u8 0, .bool false], []⟩ 8 (by kernel_rfl) (by kernel_rfl) (by kernel_rfl) (by kernel_rfl)) ?_
  intro W base args ds gs before hval0 hW _ _
  have hval : ∀ (j : Nat) t v, Try.f11.params[j]? = some t → args[j]? = some v → Value.okWide Try.prog W .any base t v := hval0
  have hW' := hW
  obtain ⟨p, q, hA0, hV, rfl, hfz, hnd⟩ := hW
  have hA : DataW.TrodAll enc Try.prog W 0 (fun _ => true) true Try.f11.params.toList args.toList ds p := hA0
  rw [Try.params11] at hA hval
  obtain ⟨v0, vs0, d0, ds0, p0, q0, hargs, rfl, rfl, h0, r0⟩ := trodAll_cons hA
  obtain ⟨v1, vs1, d1, ds1, p1, q1, rfl, rfl, rfl, h1, r1⟩ := trodAll_cons r0
  obtain ⟨v2, vs2, d2, ds2, p2, q2, rfl, rfl, rfl, h2, r2⟩ := trodAll_cons r1
  obtain ⟨v3, vs3, d3, ds3, p3, q3, rfl, rfl, rfl, h3, r3⟩ := trodAll_cons r2
  obtain ⟨rfl, rfl, rfl⟩ := trodAll_nil r3
  obtain rfl : args = #[v0, v1, v2, v3] := by cases args; simp_all
  obtain ⟨rfl, rfl⟩ := trodVars_none hV
  obtain ⟨a0, n0, c0, rfl⟩ := okWide_slice Try.underlying63 (hval 0 63 v0 rfl rfl)
  have lt0 : ∀ x ∈ p0, x.block < W.heap.size := by obtain ⟨m, hm⟩ := h0; exact DataW.trod_lt m _ _ _ hm
  obtain ⟨l0, hl0, hc0, hm0, hr0⟩ := open_bytes Try.underlying63 Try.underlying5 (by kernel_rfl) h0
  obtain ⟨a1, n1, c1, rfl⟩ := okWide_slice Try.underlying63 (hval 1 63 v1 rfl rfl)
  have lt1 : ∀ x ∈ p1, x.block < W.heap.size := by obtain ⟨m, hm⟩ := h1; exact DataW.trod_lt m _ _ _ hm
  obtain ⟨l1, hl1, hc1, hm1, hr1⟩ := open_bytes Try.underlying63 Try.underlying5 (by kernel_rfl) h1
  obtain ⟨a2, rfl, rfl, rfl, w2⟩ := open_int Try.underlying5 (hval 2 5 v2 rfl rfl) h2
  have b2 := bounds_u8 w2
  obtain ⟨a3, rfl, rfl, rfl⟩ := open_bool Try.underlying4 (hval 3 4 v3 rfl rfl) h3
  clear hA0 hval0
  refine (scrubSealed_any W a0 n0 c0 l0 hl0 hc0 hm0 hr0 a1 n1 c1 l1 hl1 hc1 hm1 hr1 a2 b2 a3).mono fun e W' ⟨he, bel⟩ => ?_
  subst he
  exact ⟨_, rfl, _, _, _, [], _, [], hW', trodAll_mk1 (shut_bool Try.underlying4 _), (trodAll_cons_mk (Below.trod scrubSealed_laid (by kernel_rfl) (of_decide_eq_true (by kernel_rfl)) h0 bel lt0) (trodAll_cons_mk (Below.trod scrubSealed_laid (by kernel_rfl) (of_decide_eq_true (by kernel_rfl)) h1 bel lt1) (trodAll_cons_mk (shut_int Try.underlying5 w2) (trodAll_cons_mk (shut_bool Try.underlying4 a3) trodAll_mk0)))), rfl, bel.frame _, fun h => by cases h⟩

theorem scrubSealed_holds : Rows.ScrubSealedSaid :=
  OpenClaim.holds_of_wide 11 Try.f11 rfl rfl rfl rfl rfl rfl rfl ⟨rfl, rfl, rfl, rfl, rfl⟩ rfl rfl rfl rfl rfl (by kernel_rfl) Try.func11 (by kernel_rfl)
    (of_decide_eq_true (by kernel_rfl)) (by unfold Func.isWrapper; rw [if_neg (of_decide_eq_false (by kernel_rfl))]; exact ⟨rfl, rfl⟩)
    (fun os started H enc _ => scrubSealed_lifted os started H enc)

#print axioms scrubSealed_holds

end Go.Proofs.Ytniamllcoemikaa
