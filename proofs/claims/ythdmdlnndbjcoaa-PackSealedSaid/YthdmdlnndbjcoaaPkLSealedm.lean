/-
  PackSealed holds: of any row of cells, any number and any two bytes the law returns true, and its arguments read as they did.
-/
import Derived.Test.YthdmdlnndbjcoaaCt1
import Derived.Deep.Cut
import Derived.Deep.RegionHeld
import Derived.Test.YthdmdlnndbjcoaaRows
import Derived.ProofKit
import Derived.OpenShut
import Derived.ShutString
import Derived.ChangeOld
namespace Go.Proofs.Ythdmdlnndbjcoaa
open Go.RowKit Ce Pk Kd Sx Go.ChangeShapes Go.WideShapes Go.ChangeAt
attribute [local go_sem ↓] Go.wp_at_zero Go.wp_at_succ
theorem Pk.OwnC.but {S : Nat → Prop} {w w' : World} {base n c : Nat} {A : Option Addr} {l : List Cc} (h : OwnC w base A n c l) (hb : But S w w') (h1 : ∀ k, (Value.slice A n c).ownBlock = some k → ¬ S k) (h2 : ∀ y ∈ l, ∀ ad, y.A = some ad → ¬ S ad.block) : OwnC w' base A n c l :=
  ⟨Own.but h.own hb h1, fun k hk => ⟨(rd_but (h.bodies k hk).1 hb (h2 k hk)).more hb.size, fun ad had => Nat.lt_of_lt_of_le ((h.bodies k hk).2 ad had) hb.size⟩, h.apart⟩
theorem bits_xorS (x y : UInt8) : bits .xor .u8 (x.toNat : Int) (y.toNat : Int) = ((x ^^^ y).toNat : Int) := by
  rw [u8_xor_nat _ _ (UInt8.toNat_lt _) (UInt8.toNat_lt _), UInt8.toNat_xor]
set_option maxRecDepth 100000 in
set_option maxHeartbeats 12800000 in
theorem packSealed_any (w : World) (A : Option Addr) (N c : Nat) (l : List Cc) (hl : l.length = N) (_ : N ≤ c) (_ : c ≤ maxLen) (hr : Rd w.heap.size w A (ccs l) ∧ ∀ k ∈ l, Rd w.heap.size w k.A (bv k.y.body)) (gi : Int) (hgi : 0 ≤ gi ∧ gi ≤ 18446744073709551615) (rt : List UInt8) (hrt : rt.length = 2) : Calls Try.prog 8 #[.slice A N c, .int .u64 gi, .agg (bva rt)] w (RetB (.bool true) w) := by
  obtain ⟨gn, rfl⟩ := Int.eq_ofNat_of_zero_le hgi.1
  obtain ⟨r0, r1, rfl⟩ : ∃ r0 r1, rt = [r0, r1] := by
    match rt, hrt with
    | [r0, r1], _ => exact ⟨r0, r1, rfl⟩
  have HG := Lib.hid (show gn < 18446744073709551616 from by omega)
  obtain ⟨rv, hrv⟩ : ∃ v, v = bva [r0, r1] := ⟨_, rfl⟩
  rw [← hrv]
  obtain ⟨w0, hw0⟩ : ∃ v, v = w.alloc (.cells rv 50) := ⟨_, rfl⟩
  have BL := Lib.hid (show Below w.heap.size w w0 from by rw [hw0]; exact (Below.refl _ _).alloc (Nat.le_refl _) _)
  have hx0 : Blk w0 w.heap.size (bva [r0, r1]) 50 := by rw [hw0, hrv]; exact heap_alloc_new _ _
  obtain ⟨g0, hg0⟩ : ∃ g, g = w.heap.size := ⟨_, rfl⟩
  rw [← hg0] at hx0
  have HRT := Lib.hid (show ∀ w', Below w0.heap.size w0 w' → w'.cell? ⟨g0, 0, none⟩ = some (.int .u8 (r0.toNat : Int)) ∧ w'.cell? ⟨g0, 1, none⟩ = some (.int .u8 (r1.toNat : Int)) from fun w' hw' => ⟨(Blk.below hx0 hw').cell 0, (Blk.below hx0 hw').cell 1⟩)
  have HG0 := Lib.hid hx0.lt
  have HL := Lib.hid hl
  have HR := Lib.hid ((hr.1.below BL.out).more BL.out.size)
  have HBO := Lib.hid (fun k hk => ((hr.2 k hk).below BL.out).more BL.out.size)
  have HLIT := Lib.hid (show Try.zeroCells59 = zeroLit by kernel_rfl)
  obtain ⟨z, hz0⟩ : ∃ z : List UInt8, z = zeroS := ⟨_, rfl⟩
  have hz : ∀ W, (zeroValue 52).run Try.prog W = .ok (.agg (bva z)) W := fun _ => by rw [hz0]; kernel_rfl
  have HZ3 := Lib.hid (show z.length = 128 by rw [hz0]; exact zeroS_length)
  have B := Lib.hid (Below.refl w0.heap.size w0)
  clear hl hr hgi hrt hrv hx0 hz0
  go_enter Try.func8, Try.ntmps8
  go_upto_region 1 with fail
  rw [← hw0, ← hg0]
  clear hw0 hg0
  go_wp2_with fail
  refine (pkAwake_any _).mono ?_
  rintro e w1 ⟨rfl, bw⟩
  have B' := Lib.hid (B.out.trans (bw.mono B.out.size))
  clear bw B
  have B := Lib.hid B'.out
  clear B'
  by_cases hbig : 12 < N
  · have n1 : (12 : Int) < (N : Int) := by omega
    go_wp2_with fail
    go_ret
    exact ⟨rfl, BL.out.trans (B.out.mono BL.out.size)⟩
  have n1 : ¬ (12 : Int) < (N : Int) := by omega
  have HNB := Lib.hid (show N ≤ 12 by omega)
  clear hbig
  go_wp2_with fail
  clear n1
  go_loopw [7] (fun i wr => ∃ j : Nat, j ≤ N ∧ i = .int .i64 j ∧ Below w0.heap.size w0 wr ∧ Hid (allOk (l.take j))) (fun i _ => N - (intOf i).toNat)
  case atStart => exact ⟨0, Nat.zero_le _, rfl, B.out, Lib.hid (fun k hk => by simp at hk)⟩
  case round =>
    clear B
    obtain ⟨j, hj, rfl, hbw, HA⟩ := hrel
    by_cases hlt : j < N
    · have hklx : j < l.length := by rw [HL.out]; exact hlt
      obtain ⟨x, hxex⟩ : ∃ x, x = l[j] := ⟨_, rfl⟩
      have hxmx : x ∈ l := by rw [hxex]; exact List.getElem_mem hklx
      have hrdx := HR.out
      obtain ⟨ad, hAx, -, -⟩ := rd_cell hrdx hklx
      have hcellx : ∀ w', Below w0.heap.size w0 w' → ∀ i v, (ccV x)[i]? = some v → w'.cell? ((ad.add (j * 11)).add i) = some v := fun w' hb' i v hv => by
        obtain ⟨ad', hA', _, hc⟩ := rd_cell (hrdx.below hb') hklx
        rw [hAx] at hA'
        injection hA' with hA'
        subst hA'
        exact hc i v (by rw [← hxex]; exact hv)
      obtain ⟨csx, hcsx⟩ : ∃ cs, cs = clA x.y x.A x.c := ⟨_, rfl⟩
      have HCWx := Lib.hid (show ∀ w', Below w0.heap.size w0 w' → ∀ i v, csx.toList[i]? = some v → w'.cell? ((ad.add (j * 11)).add i) = some v from fun w' hb' i v hv => hcellx w' hb' i v (by rw [hcsx] at hv; exact hv))
      have HIx := Lib.hid (show (Try.prog.info? 44).map (·.size) = some csx.toList.length from by rw [hcsx]; kernel_rfl)
      have HCSx := Lib.hid hcsx
      have HXMx := Lib.hid hxmx
      have HXEx := Lib.hid hxex
      have HTX := Lib.hid (show l.take (j + 1) = l.take j ++ [x] from by rw [hxex]; exact List.take_succ_eq_append_getElem hklx)
      subst hAx
      have HB := Lib.hid hbw
      have k0 : (0 : Int) ≤ (j : Int) := by omega
      have k1 : (j : Int) < (N : Int) := by omega
      have HRT := Lib.hid (show ∀ W, Below w0.heap.size w0 W → Calls Try.prog 20 #[.agg csx] W (RetB (.bool (decide (okCl x.y))) W) from fun W hW => by rw [HCSx.out]; exact cright_any x.y x.A x.c W ((HBO.out x HXMx.out).below hW) hW.size)
      clear hxmx hrdx hcellx hcsx hxex hbw
      by_cases ok : okCl x.y
      · have HOK := Lib.hid ok
        rw [decide_eq_true ok] at HRT
        clear ok
        go_wp2_with (refine wpList_load_at rfl 44 (.tmp 36) rfl (ad.add (j * 11)) rfl (HCWx.out _ (HB.out)) Try.underlying44 rfl HIx.out ?_; change wpList _ _ _ _ (Act.put _ _ (.agg csx)) _)
        refine (HRT.out _ HB.out).mono ?_
        rintro e w5 ⟨rfl, bw⟩
        have B5 := Lib.hid (HB.out.trans (bw.mono HB.out.size))
        clear bw HB
        go_wp2_with fail
        go_roundw
        case rel => exact ⟨j + 1, by omega, by go_num, B5.out, Lib.hid (fun k hk => by
          rw [HTX.out] at hk
          rcases List.mem_append.1 hk with h | h
          · exact HA.out k h
          · rw [List.mem_singleton] at h; rw [h]; exact HOK.out)⟩
        case measure => (simp [intOf]; try omega)
      · rw [decide_eq_false ok] at HRT
        clear ok
        go_wp2_with (refine wpList_load_at rfl 44 (.tmp 36) rfl (ad.add (j * 11)) rfl (HCWx.out _ (HB.out)) Try.underlying44 rfl HIx.out ?_; change wpList _ _ _ _ (Act.put _ _ (.agg csx)) _)
        refine (HRT.out _ HB.out).mono ?_
        rintro e w5 ⟨rfl, bw⟩
        have B5 := Lib.hid (HB.out.trans (bw.mono HB.out.size))
        clear bw HB
        go_wp2_with fail
        go_ret
        exact ⟨rfl, BL.out.trans (B5.out.mono BL.out.size)⟩
    · obtain rfl : N = j := by omega
      have HALL := Lib.hid (show allOk l from by
        have h := HA.out
        rw [List.take_of_length_le (by rw [HL.out]; exact Nat.le_refl _)] at h; exact h)
      have B := Lib.hid hbw
      obtain ⟨wo, hwo⟩ : ∃ v, v = wr := ⟨_, rfl⟩
      subst hwo
      clear hbw hlt hj HA
      go_wp2_with fail
      refine (fill_any (B := w0.heap.size) _ A N c l HL.out (HR.out.below B.out) (fun k hk => (HBO.out k hk).below B.out) B.out.size (by have := HNB.out; omega)).mono ?_
      rintro e w6 (⟨_, A3, n3, c3, bl3, I3, d3, rfl, hb3, he3, hi3, bw⟩ | ⟨hno, _⟩)
      rotate_left
      · exact absurd HALL.out hno
      have B6 := Lib.hid (B.out.trans (bw.mono B.out.size))
      have D6 := Lib.hid hb3
      have E3 := Lib.hid he3
      have HN3 := Lib.hid (bods_count hb3 HALL.out he3)
      clear hb3 he3 hi3 bw B
      rw [HL.out]
      go_wp2_with fail
      obtain ⟨SS, hSS⟩ : ∃ SS, SS = segs encCl (ys l) := ⟨_, rfl⟩
      have HSS := Lib.hid hSS
      clear hSS
      go_loopw [11, 12, 13, 14, 15, 16, 17, 18, 19, 20, 21, 22] (fun a i _ _ _ _ _ _ _ _ _ _ wr => ∃ (j n7 : Nat) (A7 : Option Addr) (c7 : Nat) (cl7 : List Cc), j ≤ n3 ∧ i = .int .i64 j ∧ a = .slice A7 n7 c7 ∧ Below w6.heap.size w6 wr ∧ Hid (OwnC wr w6.heap.size A7 n7 c7 cl7 ∧ ys cl7 = (SS.take j).flatten)) (fun _ i _ _ _ _ _ _ _ _ _ _ _ => n3 - (intOf i).toNat)
      case atStart => exact ⟨0, 0, none, 0, [], Nat.zero_le _, rfl, rfl, Below.refl _ _, Lib.hid ⟨OwnC.nil, rfl⟩⟩
      case round =>
        obtain ⟨j, n7, A7, c7, cl7, hj, rfl, rfl, hbw, HI⟩ := hrel
        obtain ⟨wv, hwv⟩ : ∃ v, v = wr := ⟨_, rfl⟩
        subst hwv
        by_cases hlt : j < n3
        · obtain ⟨g3, e, hA3, hej, _, _, hec, hem, hgl⟩ := Bods.at_ D6.out hlt
          subst hA3
          obtain ⟨sg, hsg, hebs, hsne, hele, hop, hsok⟩ := seg_at HALL.out E3.out hej
          have hfb := flat_bound HALL.out hsg
          have hft := flat_take hsg
          rw [← HSS.out] at hsg hfb hft
          obtain ⟨q, hq⟩ : ∃ q, q = e.b.length := ⟨_, rfl⟩
          have HQ := Lib.hid hq
          have hcj : ∀ w', Below w6.heap.size w6 w' → w'.cell? ⟨g3, j, none⟩ = some (.slice e.A q e.c) ∧ Rd w'.heap.size w' e.A (bv e.b) := fun w' hw' => by
            obtain ⟨g', e', h1, h2, h3, h4, _⟩ := Bods.at_ (D6.out.below hw') hlt
            injection h1 with h1; injection h1 with h1; subst h1
            rw [hej] at h2; injection h2 with h2; subst h2
            rw [hq]; exact ⟨h3, h4⟩
          have HCJ := Lib.hid hcj
          have cj := (hcj wv hbw).1
          have HFB := Lib.hid hfb
          have HFT := Lib.hid hft
          have HOP := Lib.hid hop
          have HLT := Lib.hid hlt
          have HN9L := Lib.hid (show sg.length ≤ 1000 ∧ n3 ≤ 1000 from by have h2 := HNB.out; have h3 := HL.out; have h4 := HN3.out.1; omega)
          have hn1000 : (n3 : Int) ≤ 1000 := by have := HN9L.out.2; omega
          obtain ⟨k2, hk2⟩ : ∃ k2, k2 = 2 + j := ⟨_, rfl⟩
          have w2 : IntKind.i64.wrap (2 + (j : Int)) = (k2 : Int) := by rw [IntWalk.i64_in _ (by omega)]; omega
          have hmay := Lib.hid (show mayS (k2 : Int) e.b = true from decide_eq_true ⟨by omega, by omega, hele⟩)
          obtain ⟨sl, hsl⟩ : ∃ s, s = sealedS litSumL (k2 : Int) gn e.b := ⟨_, rfl⟩
          have Lsl := Lib.hid (show sl.length = 128 by rw [hsl]; exact sealedS_length litSumL_length hele)
          have HISL : Hid ((Try.prog.info? 52).map (·.size) = some (bva sl).size) := by rw [bva_size, Lsl.out]; exact info_sec
          have HCP := Lib.hid (show ∀ W, Below w6.heap.size w6 W → Calls Try.prog 23 #[.iface 59 (.agg Try.zeroCells59), .int .i64 k2, .int .u64 gn, .slice e.A q e.c] W (RetB (.tuple #[.agg (bva sl), .bool true]) W) from fun W hW => by
            have h := pack_any litS k2 gn HG.out e.A q e.c e.b W hq.symm (hcj W hW).2
            rw [hmay.out, packS, hmay.out, if_pos rfl] at h
            rw [HLIT.out, hsl]; exact h)
          have HCU := Lib.hid (show ∀ W, Calls Try.prog 24 #[.iface 59 (.agg Try.zeroCells59), .int .i64 k2, .agg (bva sl)] W (RetU gn e.b true W) from fun W => by
            have h := unpack_any litS k2 sl Lsl.out W
            rw [show unpackS litS.f k2 sl = (gn, e.b) by rw [hsl]; exact unpack_sealed litSumL_length hmay.out HG.out, show okS litS.f k2 sl = true by rw [hsl]; exact ok_sealed litSumL_length hmay.out HG.out] at h
            rw [HLIT.out]; exact h)
          -- what becomes of it when it rots
          obtain ⟨p, hp⟩ : ∃ p, p = r0.toNat % 128 := ⟨_, rfl⟩
          have hp128 : p < 128 := by omega
          obtain ⟨ox, hox⟩ : ∃ x, x = sl.getD p 0 := ⟨_, rfl⟩
          obtain ⟨nx, hnx⟩ : ∃ x, x = ox ^^^ r1 := ⟨_, rfl⟩
          have hxy := bits_xorS ox r1
          rw [← hnx] at hxy
          obtain ⟨tl, htl⟩ : ∃ t, t = rotL sl p r1 := ⟨_, rfl⟩
          have Ltl := Lib.hid (show tl.length = 128 by rw [htl, rotL_length]; exact Lsl.out)
          have HITL : Hid ((Try.prog.info? 52).map (·.size) = some (bva tl).size) := by rw [bva_size, Ltl.out]; exact info_sec
          have HTL := Lib.hid (show tl = sl.set p nx by rw [htl, rotL, hnx, hox])
          have HCV := Lib.hid (show ∃ (G : Nat) (b2 : List UInt8), ∀ W, Calls Try.prog 24 #[.iface 59 (.agg Try.zeroCells59), .int .i64 k2, .agg (bva tl)] W (RetU G b2 (decide (r1 = 0)) W) from by
            refine ⟨(unpackS litSumL k2 tl).1, (unpackS litSumL k2 tl).2, fun W => ?_⟩
            have h := unpack_any litS k2 tl Ltl.out W
            have hk : okS litS.f k2 tl = decide (r1 = 0) := by
              by_cases h0 : r1 = 0
              · rw [decide_eq_true h0, htl, h0, rotL_zero, hsl]; exact ok_sealed litSumL_length hmay.out HG.out
              · rw [decide_eq_false h0, htl, hsl]; exact rot_sealed hele hp128 h0
            rw [hk] at h
            rw [HLIT.out]; exact h)
          have HOX := Lib.hid (show sl.getD p 0 = ox from hox.symm)
          have HP := Lib.hid hp128
          have HXY := Lib.hid hxy
          have tp : Int.tmod (r0.toNat : Int) 128 = (p : Int) := by rw [Int.tmod_eq_emod_of_nonneg (by omega), hp]; omega
          have tp2 : (r0.toNat : Int) % 128 = (p : Int) := by rw [hp]; omega
          have HTP := Lib.hid (And.intro tp tp2)
          have k0 : (0 : Int) ≤ (j : Int) := by omega
          have k1 : (j : Int) < (n3 : Int) := by omega
          have e0 : ((gn : Int) != (gn : Int)) = false := by simp
          have HB := Lib.hid hbw
          clear hej hsg hebs hsne hele hop hsok hfb hft hq hcj hbw hgl hlt hec hem hk2 hsl hp hp128 hox hnx hxy htl tp tp2
          go_wp2_with fail
          refine (HCP.out _ HB.out).mono ?_
          rintro e8 w8 ⟨rfl, bw⟩
          have HB8 := Lib.hid (HB.out.trans (bw.mono HB.out.size))
          have HOW8 := Lib.hid (HI.out.1.below bw)
          have HW8 := Lib.hid (show wv.heap.size ≤ w8.heap.size from bw.size)
          clear bw
          go_wp2_with (show wpList _ _ _ ({ dst := none, op := .store 52 (.tmp 13) (.tmp 65), type := _, pos := _, after := _, guard := _ } :: _) _ _; apply Classical.byContradiction; intro hneg)
          refine hneg ?_
          clear hneg
          refine wpList_store_row rfl 52 (.tmp 13) (.tmp 65) rfl w8.heap.size (bva sl) rfl rfl 52 (bva z) (heap_alloc_new _ _) HISL.out (by rw [bva_size, bva_size, Lsl.out, HZ3.out]) (bva_one _) ?_
          obtain ⟨w9, hw9⟩ : ∃ x, x = (w8.alloc (.cells (bva z) 52)).setRow w8.heap.size (bva sl) := ⟨_, rfl⟩
          obtain ⟨gs, hgs⟩ : ∃ x, x = w8.heap.size := ⟨_, rfl⟩
          rw [← hw9, ← hgs]
          have bn : Below w8.heap.size w8 w9 := by rw [hw9]; exact below_new (Below.refl _ _) (Nat.le_refl _)
          have X9 := Lib.hid (show Blk w9 gs (bva sl) 52 from by rw [hw9, hgs]; exact setRow_heap _ _ _ _ _ _ (heap_alloc_new _ _))
          have HB9 := Lib.hid (HB8.out.trans (bn.mono HB8.out.size))
          have HOW9 := Lib.hid (HOW8.out.below bn)
          have HGS := Lib.hid (show w6.heap.size ≤ gs ∧ g0 < w6.heap.size ∧ (∀ qq, (Value.slice A7 n7 c7).ownBlock = some qq → qq < gs) from ⟨by rw [hgs]; exact HB8.out.size, Nat.lt_of_lt_of_le HG0.out B6.out.size, fun qq h => by rw [hgs]; exact (HOW8.out.own.lt qq h).2⟩)
          have HWV := Lib.hid (show wv.heap.size ≤ gs from by rw [hgs]; exact HW8.out)
          have HGL9 := Lib.hid (show gs < w9.heap.size from X9.out.lt)
          clear hw9 hgs bn HOW8
          go_wp2_with (refine wpList_load_row rfl 52 (.tmp 13) rfl gs rfl 52 (bva sl) (0, 0) _ X9.out Try.underlying52 rfl HISL.out ?_)
          refine (HCU.out _).mono ?_
          rintro e10 w10 ⟨A10, n10, c10, rfl, ho10, bw⟩
          have HB10 := Lib.hid (HB9.out.trans (bw.mono HB9.out.size))
          have HOW10 := Lib.hid (HOW9.out.below bw)
          have X10 := Lib.hid (Blk.below X9.out bw)
          have O10 := Lib.hid ho10
          have HL10 := Lib.hid (own_blen ho10)
          have HCP10 := Lib.hid (own_caps ho10)
          have HS10 := Lib.hid (show w9.heap.size ≤ w10.heap.size from bw.size)
          clear bw ho10 HOW9 X9
          go_wp2_with fail
          refine (open_any w10 A10 n10 c10 e.b HL10.out HCP10.out (Rd.own O10.out) (Nat.le_refl _)).mono ?_
          rintro e11 w11 ⟨A11, n11, c11, cl11, rfl, ho11, hy11, ⟨hb11, hnw11⟩, bw⟩
          rw [HOP.out] at hy11 ⊢
          have HB11 := Lib.hid (HB10.out.trans (bw.mono HB10.out.size))
          have HOW11 := Lib.hid (HOW10.out.below bw)
          have X11 := Lib.hid (Blk.below X10.out bw)
          have N11 := Lib.hid ho11
          have C11 := Lib.hid hb11
          have Y11 := Lib.hid hy11
          have HLN11 := Lib.hid (show cl11.length = n11 from by have h1 := ho11.1; rw [ccs_length] at h1; omega)
          have NW11 := Lib.hid (show ∀ y ∈ cl11, ∀ ad, y.A = some ad → (Value.slice A7 n7 c7).ownBlock ≠ some ad.block from fun y hy ad had h => by
            have h1 := hnw11 y hy ad had
            have h2 := (HOW10.out.own.lt ad.block h).2
            omega)
          have HNW := Lib.hid hnw11
          have HNL11 := Lib.hid (show n11 ≤ 1000 ∧ n7 ≤ 1000 from by
            have h1 := congrArg List.length hy11
            rw [ys_length] at h1
            have h1 : cl11.length = sg.length := h1
            have h2 := HN9L.out.1
            have h3 := congrArg List.length HI.out.2
            rw [ys_length, HI.out.1.len] at h3
            have h4 := HFB.out; have h5 := HL.out; have h6 := HNB.out; have h7 := HLN11.out
            omega)
          clear bw ho11 hy11 hb11 hnw11 HOW10 X10 O10
          go_upto_region 24 with fail
          go_wp2_with (show wpList _ _ _ ({ dst := some 97, op := .call { callee := .builtin .append, args := #[.tmp 95, .tmp 96], argTypes := #[22, 22] }, type := _, pos := _, after := _, guard := _ } :: _) _ _; apply Classical.byContradiction; intro hneg)
          refine hneg ?_
          clear hneg
          refine wpList_appN _ rfl (.tmp 95) (.tmp 96) 22 rfl cellsElt (base := w6.heap.size) (v := .slice A7 n7 c7) (n := n7) (xs := ccs cl7) rfl HOW11.out.own (m := n11) rfl (Rd.ownN N11.out) (by rw [ccs_length, HLN11.out]) (ccs_one _) (by have := HNL11.out; omega) HB11.out.size ?_
          intro A12 c12 w12 ho12 hg12 hl12
          have C12 := Lib.hid (HOW11.out.pushs C11.out NW11.out hg12 ho12 hl12)
          have hb12 : Below w6.heap.size w11 w12 := app_belowN (Below.refl _ _) HOW11.out.own hg12 (Nat.le_refl _) HB11.out.size
          have HB12 := Lib.hid (HB11.out.trans hb12)
          have X12 := Lib.hid (show Blk w12 gs (bva sl) 52 from Blk.but X11.out (grown_but (S := fun k => (Value.slice A7 n7 c7).ownBlock = some k) hg12 (fun _ h => h)) (fun h => by have := HGS.out.2.2 gs h; omega))
          have HSEP := Lib.hid (show (Value.slice A12 (n7 + n11) c12).ownBlock ≠ some gs from fun h => by
            rcases hl12 with h1 | h1
            · have := HGS.out.2.2 gs (h1 ▸ h); omega
            · rw [h1] at h; injection h with h; have := X11.out.lt; omega)
          have HYS := Lib.hid (show ys (cl7 ++ cl11) = (SS.take (j + 1)).flatten from by rw [ys_append, HI.out.2, Y11.out, HFT.out])
          have HAP := Lib.hid (show ∀ y ∈ cl7 ++ cl11, ∀ ad, y.A = some ad → ¬ ad.block = gs from fun y hy ad had h => by
            rcases List.mem_append.1 hy with h1 | h1
            · have h2 := (HI.out.1.bodies y h1).2 ad had; have h3 := HWV.out; omega
            · have h2 := HNW.out y h1 ad had; have h3 := HS10.out; have h4 := HGL9.out; omega)
          clear ho12 hg12 hl12 hb12 HOW11 X11 N11 C11 NW11
          go_upto_region 25 with fail
      
          have hp := HP.out
          have hp0 : (0 : Int) ≤ (p : Int) := by omega
          have hp1 : (p : Int) < 128 := by omega
          have tp := HTP.out.1
          have tp2 := HTP.out.2
          have hxy := HXY.out
          have hr0 : (0 : Int) ≤ (r0.toNat : Int) := by omega
          have hr1 : (r0.toNat : Int) ≤ 255 := by have := UInt8.toNat_lt r0; omega
          have wr0 : IntKind.i64.wrap (r0.toNat : Int) = (r0.toNat : Int) := IntWalk.i64_in _ (by omega)
          have hc12 := X12.out.cellb (k := p) (by rw [Lsl.out]; exact hp)
          rw [HOX.out] at hc12
          have hf12 := X12.out.free p
          have HRT12 := Lib.hid (HRT.out w12 (B6.out.trans (HB12.out.mono B6.out.size)))
          have H0 := Lib.hid (show (fun w' => w'.cell? ⟨g0, 0, none⟩ = some (.int .u8 (r0.toNat : Int)) ∧ w'.cell? ⟨g0, 1, none⟩ = some (.int .u8 (r1.toNat : Int))) w12.drew from HRT12.out)
          have H1 := Lib.hid (show (fun w' => w'.cell? ⟨gs, p, none⟩ = some (.int .u8 (ox.toNat : Int))) w12.drew from hc12)
          refine wp_region_late (S0 := fun w' => w'.cell? ⟨g0, 0, none⟩ = some (.int .u8 (r0.toNat : Int)) ∧ w'.cell? ⟨g0, 1, none⟩ = some (.int .u8 (r1.toNat : Int))) (S := fun w' => w'.cell? ⟨gs, p, none⟩ = some (.int .u8 (ox.toNat : Int))) (W := [10]) (by kernel_rfl) ?_
          refine wpAnyL_take0 (i := 0) (v := ?vL0) rfl (by kernel_rfl) (by kernel_rfl) (by kernel_rfl) (fun _ _ _ h => h) (by rfl) (Or.inl ⟨by rfl, fun w' hw' => ?yL0⟩) H0.out (.inr H1.out) ?_
          case yL0 => (go_simp; try with_reducible rfl)
          try simp only [List.getElem_toArray, List.getElem_cons_succ, List.getElem_cons_zero, Act.put, List.setIfInBounds_toArray, List.set_cons_zero, List.set_cons_succ]
          refine wpAnyL_take0 (i := 1) (v := .int .u8 (r0.toNat : Int)) rfl (by kernel_rfl) (by kernel_rfl) (by kernel_rfl) (fun _ _ _ h => h) (by rfl) (Or.inl ⟨by rfl, fun w' hw' => ?yL1⟩) H0.out (.inr H1.out) ?_
          case yL1 => (have hc := hw'.1; go_simp; try with_reducible rfl)
          try simp only [List.getElem_toArray, List.getElem_cons_succ, List.getElem_cons_zero, Act.put, List.setIfInBounds_toArray, List.set_cons_zero, List.set_cons_succ]
          refine wpAnyL_take0 (i := 2) (v := .int .i64 (r0.toNat : Int)) rfl (by kernel_rfl) (by kernel_rfl) (by kernel_rfl) (fun _ _ _ h => h) (by rfl) (Or.inl ⟨by rfl, fun w' hw' => ?yL2⟩) H0.out (.inr H1.out) ?_
          case yL2 => (go_simp; try with_reducible rfl)
          try simp only [List.getElem_toArray, List.getElem_cons_succ, List.getElem_cons_zero, Act.put, List.setIfInBounds_toArray, List.set_cons_zero, List.set_cons_succ]
          refine wpAnyL_take0 (i := 3) (v := .int .i64 (p : Int)) rfl (by kernel_rfl) (by kernel_rfl) (by kernel_rfl) (fun _ _ _ h => h) (by rfl) (Or.inl ⟨by rfl, fun w' hw' => ?yL3⟩) H0.out (.inr H1.out) ?_
          case yL3 => (go_simp; try with_reducible rfl)
          try simp only [List.getElem_toArray, List.getElem_cons_succ, List.getElem_cons_zero, Act.put, List.setIfInBounds_toArray, List.set_cons_zero, List.set_cons_succ]
          refine wpAnyL_take0 (i := 4) (v := .pointer (some ⟨gs, p, none⟩)) rfl (by kernel_rfl) (by kernel_rfl) (by kernel_rfl) (fun _ _ _ h => h) (by rfl) (Or.inl ⟨by rfl, fun w' hw' => ?yL4⟩) H0.out (.inr H1.out) ?_
          case yL4 => (go_simp; try with_reducible rfl)
          try simp only [List.getElem_toArray, List.getElem_cons_succ, List.getElem_cons_zero, Act.put, List.setIfInBounds_toArray, List.set_cons_zero, List.set_cons_succ]
          refine wpAnyL_take (i := 5) (v := .int .u8 (ox.toNat : Int)) rfl (by kernel_rfl) (by kernel_rfl) (by kernel_rfl) (fun _ _ _ h => h) (by kernel_rfl) (by rfl) (by kernel_rfl) (Or.inl ⟨by rfl, fun w' hw' => ?yL5⟩) ⟨H0.out, H1.out⟩ ?_
          case yL5 => (have hc := hw'.2; go_simp; try with_reducible rfl)
          try simp only [List.getElem_toArray, List.getElem_cons_succ, List.getElem_cons_zero, Act.put, List.setIfInBounds_toArray, List.set_cons_zero, List.set_cons_succ]
          refine wpAnyL_take0 (i := 6) (v := ?vL6) rfl (by kernel_rfl) (by kernel_rfl) (by kernel_rfl) (fun _ _ _ h => h) (by rfl) (Or.inl ⟨by rfl, fun w' hw' => ?yL6⟩) H0.out (.inr H1.out) ?_
          case yL6 => (go_simp; try with_reducible rfl)
          try simp only [List.getElem_toArray, List.getElem_cons_succ, List.getElem_cons_zero, Act.put, List.setIfInBounds_toArray, List.set_cons_zero, List.set_cons_succ]
          refine wpAnyL_take0 (i := 7) (v := .int .u8 (r1.toNat : Int)) rfl (by kernel_rfl) (by kernel_rfl) (by kernel_rfl) (fun _ _ _ h => h) (by rfl) (Or.inl ⟨by rfl, fun w' hw' => ?yL7⟩) H0.out (.inr H1.out) ?_
          case yL7 => (have hc := hw'.2; go_simp; try with_reducible rfl)
          try simp only [List.getElem_toArray, List.getElem_cons_succ, List.getElem_cons_zero, Act.put, List.setIfInBounds_toArray, List.set_cons_zero, List.set_cons_succ]
          refine wpAnyL_take0 (i := 8) (v := .int .u8 (nx.toNat : Int)) rfl (by kernel_rfl) (by kernel_rfl) (by kernel_rfl) (fun _ _ _ h => h) (by rfl) (Or.inl ⟨by rfl, fun w' hw' => ?yL8⟩) H0.out (.inr H1.out) ?_
          case yL8 => (go_simp; try with_reducible rfl)
          try simp only [List.getElem_toArray, List.getElem_cons_succ, List.getElem_cons_zero, Act.put, List.setIfInBounds_toArray, List.set_cons_zero, List.set_cons_succ]
          refine wpAnyL_take0 (i := 9) (v := .pointer (some ⟨gs, p, none⟩)) rfl (by kernel_rfl) (by kernel_rfl) (by kernel_rfl) (fun _ _ _ h => h) (by rfl) (Or.inl ⟨by rfl, fun w' hw' => ?yL9⟩) H0.out (.inr H1.out) ?_
          case yL9 => (go_simp; try with_reducible rfl)
          try simp only [List.getElem_toArray, List.getElem_cons_succ, List.getElem_cons_zero, Act.put, List.setIfInBounds_toArray, List.set_cons_zero, List.set_cons_succ]
          refine wpAnyL_ready (rs := [10]) (by kernel_rfl) (by simp) (AllReadyL.cons rfl (fun K hK => ?_) AllReadyL.nil)
          go_simp
          obtain ⟨w13, hw13⟩ : ∃ v, v = (w12.setCell ⟨gs, p, none⟩ (.int .u8 (nx.toNat : Int))).drew := ⟨_, rfl⟩
          rw [← hw13]
          have hb13 : But (fun k => k = gs) w12 w13 := by rw [hw13]; exact (But.setCell (S := fun k => k = gs) (But.refl w12) (g := gs) (.inl rfl) _).drew
          have X13 := Lib.hid (show Blk w13 gs (bva tl) 52 from by rw [hw13, HTL.out]; exact X12.out.setb p nx rfl)
          have HB13 := Lib.hid (show Below w6.heap.size w6 w13 from HB12.out.trans (hb13.below (fun k h1 h2 => by have := HGS.out.1; omega) HB12.out.size))
          have C13 := Lib.hid (C12.out.but hb13 (fun k h1 h2 => HSEP.out (by rw [h1, h2])) HAP.out)
          have HRT13 := Lib.hid (HRT.out w13 (B6.out.trans (HB13.out.mono B6.out.size)))
          refine hK.out _ _ ⟨HRT13.out, .inl ⟨10, by simp, by rfl⟩⟩ ?_
          clear hK K hw13 hb13 H0 H1 hc12 hf12 HRT12 X12 HB12 C12 hxy
          try simp only [List.getElem_toArray, List.getElem_cons_succ, List.getElem_cons_zero, Act.put, List.setIfInBounds_toArray, List.set_cons_zero, List.set_cons_succ]
          refine wpAnyL_done (by kernel_rfl) ?_ _
          obtain ⟨G, b2, hcv⟩ := HCV.out
          obtain ⟨d, hd⟩ : ∃ d, d = decide (r1 = 0) := ⟨_, rfl⟩
          rw [← hd] at hcv
          have HCVV := Lib.hid hcv
          have hrz : ((r1.toNat : Int) == 0) = d := by
            rw [hd, Bool.eq_iff_iff, beq_iff_eq, decide_eq_true_iff]
            constructor
            · intro h; apply UInt8.toNat_inj.1; show r1.toNat = 0; omega
            · intro h; rw [h]; rfl
          clear hd hcv HCV
          go_wp2_with (refine wpList_load_row rfl 52 (.tmp 13) rfl gs rfl 52 (bva tl) (0, 0) _ X13.out Try.underlying52 rfl HITL.out ?_)
          refine (HCVV.out _).mono ?_
          rintro e14 w14 ⟨A14, n14, c14, rfl, _, bw⟩
          have HB14 := Lib.hid (HB13.out.trans (bw.mono HB13.out.size))
          have C14 := Lib.hid (C13.out.below bw)
          have hr14 := (HRT.out w14 (B6.out.trans (HB14.out.mono B6.out.size))).2
          have hdd : (d != d) = false := by simp
          clear bw
          go_wp2_with fail
          go_roundw
          case rel => exact ⟨j + 1, n7 + n11, A12, c12, cl7 ++ cl11, by have := HLT.out; omega, by go_num, rfl, HB14.out, Lib.hid ⟨C14.out, HYS.out⟩⟩
          case measure => (have := HLT.out; simp [intOf]; try omega)
        · obtain rfl : n3 = j := by omega
          have HB := Lib.hid hbw
          have HSM := Lib.hid (show Calls Try.prog 19 #[.slice A7 n7 c7, .slice A N c] wv (RetB (.bool true) wv) from by
            have hb := B6.out.trans (HB.out.mono B6.out.size)
            have hy : ys cl7 = ys l := by rw [HI.out.2, HSS.out]; exact flat_all HALL.out HN3.out.2
            have hn7 : n7 ≤ 1000 := by
              have h1 := HI.out.1.len
              have h2 := congrArg List.length hy
              rw [ys_length, ys_length, h1, HL.out] at h2
              have := HNB.out; omega
            have h := qsame_any wv A7 A n7 N c7 c cl7 l HI.out.1.len HL.out (Rd.ownN HI.out.1.own) ((HR.out.below hb).more hb.size) (fun k hk => (HI.out.1.bodies k hk).1) (fun k hk => ((HBO.out k hk).below hb).more hb.size) (Nat.le_refl _) hn7 (by have := HNB.out; omega)
            rw [decide_eq_true hy] at h; exact h)
          have HB0 := Lib.hid (B6.out.trans (HB.out.mono B6.out.size))
          clear hbw hlt hj
          go_wp2_with fail
          refine HSM.out.mono ?_
          rintro e w7 ⟨rfl, bw⟩
          have B7 := Lib.hid (HB0.out.trans (bw.mono HB0.out.size))
          clear bw
          go_wp2_with fail
          go_ret
          exact ⟨rfl, BL.out.trans (B7.out.mono BL.out.size)⟩
theorem packSealed_own : ownKnob Try.prog.godebug = none := by kernel_rfl
theorem packSealed_laid : laidOutB Try.prog = true := by kernel_rfl

set_option maxRecDepth 100000 in
theorem packSealed_lifted (os : Os) (started : os.Started) (H : Type) (enc : TypeId × Value → H) :
    ReturnsInHanded {} Try.checked os 8 .any (Rows.packSealedSpec.pre6 enc Try.prog Try.f8 Rows.packSealedRow.domain false) (Rows.packSealedSpec.post enc Try.prog Try.f8 false true false false) := by
  refine returnsInHanded_of_change (C := Try.checked) packSealed_own started (by kernel_rfl) Try.func8
    (ChangeSpec.witness6 (enc := enc) (C := Try.checked) false ⟨#[], #[.slice none 0 0, .int .u64 0, .agg #[.int .u8 0, .int .u8 0]], []⟩ 8 (by kernel_rfl) (by kernel_rfl) (by kernel_rfl) (by kernel_rfl)) ?_
  intro W base args ds gs before hval0 hW _ _
  have hval : ∀ (j : Nat) t v, Try.f8.params[j]? = some t → args[j]? = some v → Value.okWide Try.prog W .any base t v := hval0
  have hW' := hW
  obtain ⟨p, q, hA0, hV, rfl, hfz, hnd⟩ := hW
  have hA : DataW.TrodAll enc Try.prog W 0 (fun _ => true) true Try.f8.params.toList args.toList ds p := hA0
  rw [Try.params8] at hA hval
  obtain ⟨v0, vs0, d0, ds0, p0, q0, hargs, rfl, rfl, h0, r0⟩ := trodAll_cons hA
  obtain ⟨v1, vs1, d1, ds1, p1, q1, rfl, rfl, rfl, h1, r1⟩ := trodAll_cons r0
  obtain ⟨v2, vs2, d2, ds2, p2, q2, rfl, rfl, rfl, h2, r2⟩ := trodAll_cons r1
  obtain ⟨rfl, rfl, rfl⟩ := trodAll_nil r2
  obtain rfl : args = #[v0, v1, v2] := by cases args; simp_all
  obtain ⟨rfl, rfl⟩ := trodVars_none hV
  obtain ⟨a0, n0, c0, rfl⟩ := okWide_slice Try.underlying22 (hval 0 22 v0 rfl rfl)
  have lt0 : ∀ x ∈ p0, x.block < W.heap.size := by obtain ⟨m, hm⟩ := h0; exact DataW.trod_lt m _ _ _ hm
  obtain ⟨l0, hl0, hc0, hm0, hr0⟩ := Ce.open_cells h0
  obtain ⟨a1, rfl, rfl, rfl, w1⟩ := open_int Try.underlying40 (hval 1 40 v1 rfl rfl) h1
  have b1 := bounds_u64 w1
  have lt2 : ∀ x ∈ p2, x.block < W.heap.size := by obtain ⟨m, hm⟩ := h2; exact DataW.trod_lt m _ _ _ hm
  obtain ⟨l2, hl2, rfl⟩ := open_u8s Try.underlying50 Try.underlying5 (by kernel_rfl) (by kernel_rfl) (hval 2 50 v2 rfl rfl) h2
  clear hA0 hval0
  refine (packSealed_any W a0 n0 c0 l0 hl0 hc0 hm0 hr0 a1 b1 l2 hl2).mono fun e W' ⟨he, bel⟩ => ?_
  subst he
  exact ⟨_, rfl, _, _, _, [], _, [], hW', trodAll_mk1 (shut_bool Try.underlying4 _), (trodAll_cons_mk (Below.trod packSealed_laid (by kernel_rfl) (of_decide_eq_true (by kernel_rfl)) h0 bel lt0) (trodAll_cons_mk (shut_int Try.underlying40 w1) (trodAll_cons_mk (Below.trod packSealed_laid (by kernel_rfl) (of_decide_eq_true (by kernel_rfl)) h2 bel lt2) trodAll_mk0))), rfl, bel.frame _, fun h => by cases h⟩

theorem packSealed_holds : Rows.PackSealedSaid :=
  OpenClaim.holds_of_wide 8 Try.f8 rfl rfl rfl rfl rfl rfl rfl ⟨rfl, rfl, rfl, rfl, rfl⟩ rfl rfl rfl rfl rfl (by kernel_rfl) Try.func8 (by kernel_rfl)
    (of_decide_eq_true (by kernel_rfl)) (by unfold Func.isWrapper; rw [if_neg (of_decide_eq_false (by kernel_rfl))]; exact ⟨rfl, rfl⟩)
    (fun os started H enc _ => packSealed_lifted os started H enc)

#print axioms packSealed_holds

end Go.Proofs.Ythdmdlnndbjcoaa
