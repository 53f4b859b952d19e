/-
  The law MirrorFlush holds: what was flushed, as it said, is there behind a failure of power, on each device. For any places, and power that fails anywhere.
-/
import Derived.Test.YtgfldfofiglefaaMf3
import Derived.Deep.CutBlock
import Derived.Test.YtgfldfofiglefaaRows
import Derived.ProofKit
import Derived.OpenShut
import Derived.ShutString
import Derived.ChangeOld
namespace Go.Proofs.Ytgfldfofiglefaa
open Go.RowKit Kd Mi Mu Go.ChangeShapes Go.WideShapes Go.ChangeAt
attribute [local go_sem ↓] Go.wp_at_zero Go.wp_at_succ
theorem svOne : ∀ l : List (List UInt8), (svs l).all (·.oneCell') = true
  | [] => rfl
  | x :: l => by
    show (bv x ++ svs l).all _ = true
    rw [List.all_append, svOne l]
    simp [bv, Value.oneCell']
theorem svFone (l : List (List UInt8)) : (svF l).all (·.oneCell') = true := by
  rw [svF, List.all_toArray]; exact svOne l
theorem stepWp {c : Bool} {P Q : Prop} (hc : c = true) (h : P) : (if c = true then P else Q) := by rw [if_pos hc]; exact h
theorem bx_but {w w1 w2 : World} {L : Laid} {s : L.St} {F F' : Nat → Prop} {b b' : Nat} {cs : Array Value} {t : TypeId} (_ : LiveA L w w1 s F') (h : Bx w w1 F b cs t) (hb : But (fun j => j = b') w1 w2) (hn : b ≠ b') : Bx w w2 F b cs t := ⟨h.1.but hb hn, h.2⟩
theorem sec_row {B : Nat} {w : World} {b k : Nat} {W : List (List UInt8)} (hr : Rd B w (some ⟨b, 0, none⟩) (svs W)) (h3 : ∀ s ∈ W, s.length = 128) (hk : k < W.length) : ∀ i v, (bv (W.getD k zeroS))[i]? = some v → w.cell? ((⟨b, k * 128, none⟩ : Addr).add i) = some v := fun i v hv => by
  have e : W.getD k zeroS = W[k] := by rw [List.getD_eq_getElem?_getD, List.getElem?_eq_getElem hk]; rfl
  rw [e] at hv
  obtain ⟨ad, e1, _, hc⟩ := hr _ _ (svs_get h3 hk hv)
  injection e1 with e1; subst e1
  rw [Addr.add_mid] at hc ⊢
  rw [← hc]
  congr 2
  omega
/-- What is done so far: nothing of it was written later than in the round j. -/
structure Far (D : List (List UInt8)) (j : Nat) : Prop where
  len : D.length = 4
  all : ∀ s ∈ D, s.length = 128
  age : ∀ n, n < 4 → ((D.getD n zeroS).getD 0 0).toNat ≤ j
theorem far_new : Far (List.replicate 4 zeroS) 0 := ⟨rfl, fun s hs => by rw [List.eq_of_mem_replicate hs]; exact zeroS_length, fun n hn => by rw [show (List.replicate 4 zeroS).getD n zeroS = zeroS from by rw [List.getD_eq_getElem?_getD, List.getElem?_replicate, if_pos hn]; rfl]; exact Nat.zero_le _⟩
theorem Far.set {D : List (List UInt8)} {j n : Nat} {x y : UInt8} (h : Far D j) (hx : x.toNat = j + 1) : Far (D.set n (secN x y)) (j + 1) := by
  refine ⟨by rw [List.length_set]; exact h.len, set_ok h.all (secN_length _ _) n, fun m hm => ?_⟩
  rw [set_getD _ _ _ _ (by rw [h.len]; exact hm)]
  split
  · show x.toNat ≤ j + 1
    omega
  · have := h.age m hm; omega
theorem Far.ne {D : List (List UInt8)} {j n : Nat} {x y : UInt8} (h : Far D j) (hx : x.toNat = j + 1) (hn : n < 4) : secN x y ≠ D.getD n zeroS := fun e => by
  have := h.age n hn
  rw [← e] at this
  have h2 : ((secN x y).getD 0 0).toNat = x.toNat := rfl
  omega
/-- What is found behind it: at each place the first device has what was done, or something was in flight there; the second one has what was done. -/
structure Found (D Y X : List (List UInt8)) : Prop where
  len : D.length = 4
  leny : Y.length = 4
  lenx : X.length = 4
  d3 : ∀ s ∈ D, s.length = 128
  y3 : ∀ s ∈ Y, s.length = 128
  ok : ∀ n, n < 4 → X.getD n zeroS ≠ D.getD n zeroS → Y.getD n zeroS ≠ D.getD n zeroS
theorem Far.found {D : List (List UInt8)} {j : Nat} (h : Far D j) : Found D D D := ⟨h.len, h.len, h.len, h.all, h.all, fun _ _ h => h⟩
theorem Far.torn {D : List (List UInt8)} {j n : Nat} {x y : UInt8} (h : Far D j) (hx : x.toNat = j + 1) (z : List UInt8) : Found D (D.set n (secN x y)) (D.set n z) :=
  ⟨h.len, by rw [List.length_set]; exact h.len, by rw [List.length_set]; exact h.len, h.all, set_ok h.all (secN_length _ _) n, fun m hm hne => by
    rw [set_getD _ _ _ _ (by rw [h.len]; exact hm)] at hne ⊢
    split
    · exact h.ne hx hm
    · rename_i e
      rw [if_neg e] at hne
      exact absurd rfl hne⟩
set_option maxRecDepth 100000 in
set_option maxHeartbeats 51200000 in
theorem mirrorFlush_any (w : World) (A : Option Addr) (N c : Nat) (l : List UInt8) (hl : l.length = N) (_ : N ≤ c) (_ : c ≤ maxLen) (hr : Rd w.heap.size w A (bv l)) (a0 : Int) (c0 : 0 ≤ a0 ∧ a0 ≤ 255) (a1 : Int) (c1 : 0 ≤ a1 ∧ a1 ≤ 255) (a2 : Int) (c2 : 0 ≤ a2 ∧ a2 ≤ 255) : Calls Try.prog 6 #[.slice A N c, .int .u8 a0, .int .u8 a1, .int .u8 a2] w (RetB (.bool true) w) := by
  obtain ⟨z, hz0⟩ : ∃ z : List UInt8, z = zeroS := ⟨_, rfl⟩
  have hz : ∀ W, (zeroValue 38).run Try.prog W = .ok (.agg (bva z)) W := fun _ => by rw [hz0]; kernel_rfl
  have HZ3 := Lib.hid (show z.length = 128 by rw [hz0]; exact zeroS_length)
  clear hz0
  have HL := Lib.hid hl
  have HRD := Lib.hid hr
  have B0 := Lib.hid (Below.refl w.heap.size w)
  have hz4 := four_zero
  have wu0 : IntKind.i64.wrap a0 = a0 := IntWalk.i64_in _ (by omega)
  have wu1 : IntKind.i64.wrap a1 = a1 := IntWalk.i64_in _ (by omega)
  have wu2 : IntKind.i64.wrap a2 = a2 := IntWalk.i64_in _ (by omega)
  obtain ⟨z0, ht0⟩ : ∃ z0 : Nat, a0.tmod 16 = (z0 : Int) := ⟨(a0.tmod 16).toNat, by rw [Int.tmod_eq_emod_of_nonneg c0.1]; omega⟩
  have HZ16 := Lib.hid (show z0 < 16 by rw [Int.tmod_eq_emod_of_nonneg c0.1] at ht0; omega)
  obtain ⟨z1, ht1⟩ : ∃ z1, z1 = a1.tmod 4 := ⟨_, rfl⟩
  obtain ⟨z2, ht2⟩ : ∃ z2, z2 = a2.tmod 129 := ⟨_, rfl⟩
  replace ht1 := ht1.symm
  replace ht2 := ht2.symm
  clear hl hr c0 c1 c2
  go_enter Try.func6, Try.ntmps6
  go_wp2_with fail
  have hc := awake_any w
  refine hc.mono ?_
  clear hc
  rintro e w1 ⟨rfl, bw⟩
  have B1 := Lib.hid (B0.out.trans (bw.mono B0.out.size))
  clear bw B0
  by_cases hbig : 6 < N
  · have n1 : (6 : Int) < (N : Int) := by omega
    go_wp2_with fail
    go_ret
    exact ⟨rfl, B1.out⟩
  · have n1 : ¬ (6 : Int) < (N : Int) := by omega
    have HNB := Lib.hid (show N ≤ 6 by omega)
    clear hbig
    go_wp2_with fail
    refine live_power.mono ?_
    rintro e w20 ⟨p, rfl, F20, h⟩
    have H20 := Lib.hid h
    clear h
    go_wp2_with fail
    refine (live_new H20.out (by show 0 < 1000; omega) 4).mono ?_
    rintro e w21 ⟨g1, rfl, F21, h, hn, hb⟩
    have H21 := Lib.hid (show Live w1 w21 p [g1] (S0.new 4) F21 from h)
    clear h hn hb H20
    go_wp2_with fail
    refine (live_new H21.out (by show 1 < 1000; omega) 4).mono ?_
    rintro e w22 ⟨g2, rfl, F22, h, hn, hb⟩
    have H22 := Lib.hid (show Live w1 w22 p [g1, g2] ((S0.new 4).new 4) F22 from h)
    clear h hn hb H21
    go_wp2_with fail
    refine (tm_new H22.out).mono ?_
    rintro e w23 ⟨g, s23, F23, rfl, h, hd, hk⟩
    have H23 := Lib.hid h
    have HD23 := Lib.hid hd
    have HK23 := Lib.hid hk
    clear h hd hk H22
    go_wp2_with fail
    refine (tm_tear H23.out z1 z2).mono ?_
    rintro e w24 ⟨rfl, F24, h, hm⟩
    have H24 := Lib.hid h
    clear h hm H23
    go_wp2_with fail
    refine (tm_fail H24.out (z0 : Int) (by have := HZ16.out; omega)).mono ?_
    rintro e w25 ⟨rfl, F25, h, hm⟩
    obtain ⟨kk, hkk⟩ : ∃ kk, kk = keptN z1 := ⟨_, rfl⟩
    obtain ⟨bb, hbb⟩ : ∃ bb, bb = bytesN z2 := ⟨_, rfl⟩
    have HBB := Lib.hid (show 0 ≤ bb ∧ bb ≤ 128 by rw [hbb]; exact bytesN_ok z2)
    obtain ⟨s25, hs25⟩ : ∃ s25 : Mr (one p g1 g2), s25 = ⟨(s23.d.put 0 ((s23.d.at 0).tear z1 z2)).fail (z0 : Int), s23.a, s23.b⟩ := ⟨_, rfl⟩
    have HU25 := Lib.hid (show s25.d = upS z0 (List.replicate 4 zeroS) kk bb from by
      rw [hs25, hkk, hbb, HD23.out]
      show (((S0.new 4).new 4).put 0 ((((S0.new 4).new 4).at 0).tear z1 z2)).fail (z0 : Int) = _
      rw [up_new, failN_nat]
      rfl)
    have HK25 := Lib.hid (show s25.ok 4 from by rw [hs25]; exact HK23.out)
    have H25 := Lib.hid (show LiveA (ML (one p g1 g2) gT g) w1 w25 s25 F25 from by rw [hs25]; exact h)
    clear h hm H24 HD23 HK23 hs25 hkk hbb ht0 ht1 ht2 wu0 wu1 wu2 HZ16
    obtain ⟨z4, hz4e⟩ : ∃ z4, z4 = svF (List.replicate 4 zeroS) := ⟨_, rfl⟩
    rw [← hz4e] at hz4
    have HZ4 := Lib.hid hz4e
    have HI4 := Lib.hid (show (Try.prog.info? 74).map (·.size) = some z4.size by rw [hz4e, svFs far_new.all rfl]; exact four_info.out)
    have HO4 := Lib.hid (show z4.all (·.oneCell') = true by rw [hz4e]; exact svFone _)
    clear hz4e
    go_upto_region 11 with fail
    obtain ⟨w26, hw26⟩ : ∃ w26, w26 = w25.alloc (.cells z4 74) := ⟨_, rfl⟩
    have bw : Below w25.heap.size w25 w26 := by rw [hw26]; exact (Below.refl _ _).alloc (Nat.le_refl _) _
    have hx : Blk w26 w25.heap.size z4 74 := by rw [hw26]; exact heap_alloc_new _ _
    rw [← hw26]
    clear hw26
    obtain ⟨bd, hbd⟩ : ∃ bd, bd = w25.heap.size := ⟨_, rfl⟩
    rw [← hbd] at hx
    rw [← hbd]
    have XD26 := Lib.hid (show Bx w1 w26 F25 bd z4 74 from ⟨hx, by rw [hbd]; exact H25.out.bel.size, fun hf => by have := (ML (one p g1 g2) gT g).lt H25.out.at_ _ hf; omega⟩)
    have H26 := Lib.hid (H25.out.below bw)
    clear hbd hx bw H25
    go_wp2_with (first | (refine wpList_execg8 rfl (exec_load 74 (.tmp 13) rfl rfl XD26.out.1 Try.underlying74 rfl HI4.out) ?_) | (show wpList _ _ _ ({ dst := none, op := .store 74 (.tmp 14) (.tmp 46), type := _, pos := _, after := _, guard := _ } :: _) _ _; apply Classical.byContradiction; intro hneg))
    refine hneg ?_
    clear hneg
    refine wpList_store_row rfl 74 (.tmp 14) (.tmp 46) rfl w26.heap.size z4 rfl rfl 74 z4 (heap_alloc_new _ _) HI4.out rfl HO4.out ?_
    obtain ⟨w27, hw27⟩ : ∃ w27, w27 = (w26.alloc (.cells z4 74)).setRow w26.heap.size z4 := ⟨_, rfl⟩
    have bw : Below w26.heap.size w26 w27 := by rw [hw27]; exact below_setRow ((Below.refl _ _).alloc (Nat.le_refl _) _) (Nat.le_refl _) _
    have hx : Blk w27 w26.heap.size z4 74 := by rw [hw27]; exact setRow_heap _ _ _ _ _ _ (heap_alloc_new _ _)
    rw [← hw27]
    clear hw27
    obtain ⟨bn, hbn⟩ : ∃ bn, bn = w26.heap.size := ⟨_, rfl⟩
    rw [← hbn] at hx
    rw [← hbn]
    have HNE := Lib.hid (show bd ≠ bn from fun e => by have := XD26.out.1.lt; omega)
    have XN27 := Lib.hid (show Bx w1 w27 F25 bn z4 74 from ⟨hx, by rw [hbn]; exact H26.out.bel.size, fun hf => by have := (ML (one p g1 g2) gT g).lt H26.out.at_ _ hf; omega⟩)
    have XD27 := Lib.hid (XD26.out.below bw)
    have H27 := Lib.hid (H26.out.below bw)
    clear hbn hx bw H26 XD26 HI4 HO4
    go_upto_block 0 with fail
    go_cut [15, 16] from 47 to 84 (fun a15 a16 wx => ∃ (D Y X : List (List UInt8)) (F : Nat → Prop) (s : Mr (one p g1 g2)), LiveA (ML (one p g1 g2) gT g) w1 wx s F ∧ Found D Y X ∧ (s.d.at 0).st = X ∧ (s.d.at 1).st = D ∧ Bx w1 wx F bd (svF D) 74 ∧ Bx w1 wx F bn (svF Y) 74)
    case first =>
      go_wp2_with fail
      go_loopw [15] (fun i wr => ∃ (j : Nat) (D : List (List UInt8)) (F : Nat → Prop) (s : Mr (one p g1 g2)), j ≤ N ∧ i = .int .i64 j ∧ LiveA (ML (one p g1 g2) gT g) w1 wr s F ∧ s.ok 4 ∧ (∃ c, s.d = upS c D kk bb) ∧ Far D j ∧ Bx w1 wr F bd (svF D) 74 ∧ Bx w1 wr F bn (svF D) 74) (fun i _ => N - (intOf i).toNat)
      case atStart => exact ⟨0, List.replicate 4 zeroS, F25, s25, Nat.zero_le _, rfl, H27.out, HK25.out, ⟨z0, HU25.out⟩, far_new, by rw [← HZ4.out]; exact XD27.out, by rw [← HZ4.out]; exact XN27.out⟩
      case round =>
        clear H27 HK25 HU25 XD27 XN27
        obtain ⟨j, D, F, s, hj, rfl, hlm, hok, hup, hfar, hbx, hby⟩ := hrel
        have H := Lib.hid hlm
        have HJ := Lib.hid hj
        have HK := Lib.hid hok
        have HU := Lib.hid hup
        have HF := Lib.hid hfar
        have XD := Lib.hid hbx
        have XN := Lib.hid hby
        clear hlm hj hok hup hfar hbx hby
        by_cases hlt : j < N
        · have HLT := Lib.hid hlt
          have j0 : (0 : Int) ≤ (j : Int) := by omega
          have j1 : (j : Int) < (N : Int) := by omega
          have wj : IntKind.i64.wrap ((j : Int) + 1) = ((j + 1 : Nat) : Int) := IntWalk.i64_in _ (by have := HNB.out; omega)
          obtain ⟨x, hx⟩ : ∃ x, x = l[j]'(by rw [HL.out]; exact hlt) := ⟨_, rfl⟩
          have hlx : (bv l)[j]? = some (.int .u8 (x.toNat : Int)) := by rw [bv, List.getElem?_map, List.getElem?_eq_getElem (by rw [HL.out]; exact hlt), hx]; rfl
          obtain ⟨ad, hA, hab, hac⟩ := HRD.out j _ hlx
          subst hA
          have HC := Lib.hid (show ∀ w', Below w.heap.size w w' → w'.cell? (ad.add j) = some (.int .u8 (x.toNat : Int)) from fun w' hb => by
            obtain ⟨a2, h1, _, h2⟩ := (HRD.out.below hb) j _ hlx
            injection h1 with h1; subst h1; exact h2)
          obtain ⟨q, hq⟩ : ∃ q, q = x.toNat % 4 := ⟨_, rfl⟩
          have HQ4 := Lib.hid (show q < 4 by rw [hq]; exact Nat.mod_lt _ (by omega))
          have q0 : (0 : Int) ≤ (q : Int) := by omega
          have q1 : (q : Int) < 4 := by have := HQ4.out; omega
          have wx : IntKind.i64.wrap (x.toNat : Int) = (x.toNat : Int) := IntWalk.i64_in _ (by have := UInt8.toNat_lt x; omega)
          have hx4 : ((x.toNat : Int)).tmod 4 = (q : Int) := by rw [hq, Int.tmod_eq_emod_of_nonneg (by omega)]; omega
          obtain ⟨yb, hyb⟩ : ∃ yb : UInt8, yb.toNat = j + 1 := ⟨UInt8.ofNat (j + 1), by rw [UInt8.toNat_ofNat']; have := HNB.out; omega⟩
          have HYB := Lib.hid hyb
          have wu : IntKind.u8.wrap (j : Int) = (j : Int) := by rw [IntKind.wrap_u8]; have := HNB.out; omega
          have wv : IntKind.u8.wrap ((j : Int) + 1) = (yb.toNat : Int) := by rw [hyb, IntKind.wrap_u8]; have := HNB.out; omega
          obtain ⟨y, hy⟩ : ∃ y, y = secN yb x := ⟨_, rfl⟩
          have HYE := Lib.hid hy
          have HY3 := Lib.hid (show y.length = 128 by rw [hy]; exact secN_length _ _)
          have HIY := Lib.hid (show (Try.prog.info? 38).map (·.size) = some (bva y).size by rw [bva_size, HY3.out]; exact info_sec)
          have HSY := Lib.hid (show ∀ w, Calls Try.prog 40 #[.int .u8 (yb.toNat : Int), .int .u8 (x.toNat : Int)] w (RetB (.agg (bva y)) w) from fun w => by rw [hy]; exact sector9_any w yb x)
          have hc0 := HC.out wr (B1.out.trans (H.out.bel.mono B1.out.size))
          clear hlt hx hlx hab hac hq hy hyb
          go_wp2_with fail
          refine (HSY.out _).mono ?_
          rintro e w30 ⟨rfl, bw⟩
          have H30 := Lib.hid (H.out.below bw)
          have XD30 := Lib.hid (XD.out.below bw)
          have XN30 := Lib.hid (XN.out.below bw)
          clear bw H XD XN hc0
          go_wp2_with (show wpList _ _ _ ({ dst := none, op := .store 38 (.tmp 16) (.tmp 60), type := _, pos := _, after := _, guard := _ } :: _) _ _; apply Classical.byContradiction; intro hneg)
          refine hneg ?_
          clear hneg
          refine wpList_store_row rfl 38 (.tmp 16) (.tmp 60) rfl w30.heap.size (bva y) rfl rfl 38 (bva z) (heap_alloc_new _ _) HIY.out (by rw [bva_size, bva_size, HY3.out, HZ3.out]) (bva_one _) ?_
          obtain ⟨w31, hw31⟩ : ∃ w31, w31 = (w30.alloc (.cells (bva z) 38)).setRow w30.heap.size (bva y) := ⟨_, rfl⟩
          have bw : Below w30.heap.size w30 w31 := by rw [hw31]; exact below_setRow ((Below.refl _ _).alloc (Nat.le_refl _) _) (Nat.le_refl _) _
          have hbx : Blk w31 w30.heap.size (bva y) 38 := by rw [hw31]; exact setRow_heap _ _ _ _ _ _ (heap_alloc_new _ _)
          rw [← hw31]
          clear hw31
          obtain ⟨bs, hbs⟩ : ∃ bs, bs = w30.heap.size := ⟨_, rfl⟩
          rw [← hbs] at hbx
          rw [← hbs]
          have HSN := Lib.hid (show bs ≠ bn ∧ bs ≠ bd from ⟨fun e => by have := XN30.out.1.lt; omega, fun e => by have := XD30.out.1.lt; omega⟩)
          have XS31 := Lib.hid (show Bx w1 w31 F bs (bva y) 38 from ⟨hbx, by rw [hbs]; exact H30.out.bel.size, fun hf => by have := (ML (one p g1 g2) gT g).lt H30.out.at_ _ hf; omega⟩)
          have H31 := Lib.hid (H30.out.below bw)
          have XD31 := Lib.hid (XD30.out.below bw)
          have XN31 := Lib.hid (XN30.out.below bw)
          clear hbs hbx bw H30 XD30 XN30
          go_upto_region 16 with fail
          refine wp_region_held_drew (S := fun w' => Below w.heap.size w w' ∧ Blk w' bs (bva y) 38) (by kernel_rfl) ⟨(B1.out.trans (H31.out.bel.mono B1.out.size)).drew, XS31.out.1.below (Below.refl w31.heap.size w31).drew⟩ (fun hh => ?_)
          have HH := Lib.hid hh
          clear hh
          refine wpAnyH_take (i := 0) (v := ?vT0) rfl (by kernel_rfl) (by kernel_rfl) (by kernel_rfl) (fun _ _ _ h => h) (Or.inl ⟨by rfl, fun w' _ => ?yT0⟩) HH.out ?_
          case yT0 => (go_simp; try with_reducible rfl)
          refine wpAnyH_take (i := 1) (v := ?vT1) rfl (by kernel_rfl) (by kernel_rfl) (by kernel_rfl) (fun _ _ _ h => h) (Or.inl ⟨by rfl, fun w' _ => ?yT1⟩) HH.out ?_
          case yT1 => (go_simp; try with_reducible rfl)
          try simp only [List.getElem_toArray, List.getElem_cons_succ, List.getElem_cons_zero, Act.put, List.setIfInBounds_toArray, List.set_cons_zero, List.set_cons_succ]
          refine wpAnyH_take (i := 2) (v := ?vT2) rfl (by kernel_rfl) (by kernel_rfl) (by kernel_rfl) (fun _ _ _ h => h) (Or.inl ⟨by rfl, fun w' _ => ?yT2⟩) HH.out ?_
          case yT2 => (go_simp; try with_reducible rfl)
          refine wpAnyH_take (i := 3) (v := .int .u8 (x.toNat : Int)) rfl (by kernel_rfl) (by kernel_rfl) (by kernel_rfl) (fun _ _ _ h => h) (Or.inl ⟨by rfl, fun w' hw' => ?yT3⟩) HH.out ?_
          case yT3 => (have hc := HC.out w' hw'.1; go_simp; try with_reducible rfl)
          refine wpAnyH_take (i := 4) (v := ?vT4) rfl (by kernel_rfl) (by kernel_rfl) (by kernel_rfl) (fun _ _ _ h => h) (Or.inl ⟨by rfl, fun w' _ => ?yT4⟩) HH.out ?_
          case yT4 => (go_simp; try with_reducible rfl)
          try simp only [List.getElem_toArray, List.getElem_cons_succ, List.getElem_cons_zero, Act.put, List.setIfInBounds_toArray, List.set_cons_zero, List.set_cons_succ]
          refine wpAnyH_take (i := 5) (v := .int .i64 (q : Int)) rfl (by kernel_rfl) (by kernel_rfl) (by kernel_rfl) (fun _ _ _ h => h) (Or.inl ⟨by rfl, fun w' hw' => ?yT5⟩) HH.out ?_
          case yT5 => (go_simp; try with_reducible rfl)
          refine wpAnyH_take (i := 6) (v := .agg (bva y)) rfl (by kernel_rfl) (by kernel_rfl) (by kernel_rfl) (fun _ _ _ h => h) (Or.inl ⟨by rfl, fun w' hw' => ?yT6⟩) HH.out ?_
          case yT6 => exact exec_load 38 (.tmp 16) rfl rfl hw'.2 Try.underlying38 rfl HIY.out
          refine wpAnyH_take (i := 7) (v := .pointer (some ⟨bn, q * 128, none⟩)) rfl (by kernel_rfl) (by kernel_rfl) (by kernel_rfl) (fun _ _ _ h => h) (Or.inl ⟨by rfl, fun w' hw' => ?yT7⟩) HH.out ?_
          case yT7 => (go_simp; try with_reducible rfl)
          try simp only [List.getElem_toArray, List.getElem_cons_succ, List.getElem_cons_zero, Act.put, List.setIfInBounds_toArray, List.set_cons_zero, List.set_cons_succ]
          try simp only [List.getElem_toArray, List.getElem_cons_succ, List.getElem_cons_zero, Act.put, List.setIfInBounds_toArray, List.set_cons_zero, List.set_cons_succ]
          refine wpAnyH_ready (rs := [8]) (by kernel_rfl) (by simp) (AllReadyH.cons rfl (fun K hK => ?_) AllReadyH.nil)
          refine stepWp (by rfl) ?_
          have HST := Lib.hid (four_set (XN31.out.1.below (Below.refl w31.heap.size w31).drew) HF.out.all HY3.out (show q < D.length by rw [HF.out.len]; exact HQ4.out))
          refine wp_store_mid 38 (.tmp 68) (.tmp 67) rfl bn (q * 128) (bva y) rfl rfl HST.out.1 HIY.out (bva_one _) ?_
          change K _ (World.setCells w31.drew bn (q * 128) (bva y).toList)
          obtain ⟨w32, hw32⟩ : ∃ w32, w32 = World.setCells w31.drew bn (q * 128) (bva y).toList := ⟨_, rfl⟩
          have HBV := Lib.hid (show But (fun j => j = bn) w31 w32 by rw [hw32]; exact (But.refl _).drew.grown (grown_setCells _ _ _ _) (fun j hj => .inl (Option.some.inj hj).symm))
          have XN32 := Lib.hid (show Bx w1 w32 F bn (svF (D.set q y)) 74 from ⟨by rw [hw32]; exact HST.out.2, XN31.out.2⟩)
          rw [← hw32]
          clear hw32 HST
          have H32 := Lib.hid (lt_own H31.out HBV.out (fun j hj => by rw [hj]; exact XN31.out.2.1) (fun j hf hj => XN31.out.2.2 (hj ▸ hf)))
          have XD32 := Lib.hid (bx_but H31.out XD31.out HBV.out HNE.out)
          have XS32 := Lib.hid (bx_but H31.out XS31.out HBV.out HSN.out.1)
          refine hK.out _ _ ⟨B1.out.trans (H32.out.bel.mono B1.out.size), XS32.out.1⟩ (fun hh => ?_)
          clear hh hK K HH H31 XD31 XN31 XS31 HBV
          try simp only [List.getElem_toArray, List.getElem_cons_succ, List.getElem_cons_zero, Act.put]
          refine wpAnyH_done (by kernel_rfl) ?_ _
          have HST := Lib.hid (show ((s.write (q : Int) y).1 = 13 ∧ Dn (s.write (q : Int) y).2.d D q kk bb) ∨ ((s.write (q : Int) y).1 = 0 ∧ (((s.write (q : Int) y).2.flush.1 = 13 ∧ Dn (s.write (q : Int) y).2.flush.2.d D q kk bb) ∨ ((s.write (q : Int) y).2.flush.1 = 0 ∧ ∃ c', (s.write (q : Int) y).2.flush.2.d = upS c' (D.set q y) kk bb))) from by
            obtain ⟨c1, hc1⟩ := HU.out
            exact step_torn hc1 HF.out.len HK.out.1 HQ4.out HF.out.all HY3.out HBB.out)
          have HMS := Lib.hid (show mostD s.d < 900000 from by
            obtain ⟨c1, hc1⟩ := HU.out
            rw [hc1]; exact (by decide : (0 : Nat) < 900000))
          have HWK := Lib.hid (show (s.write (q : Int) y).2.ok 4 from by
            have h := write_d (s := s) (n := q) (y := y) (by rw [HK.out.1]; exact HQ4.out)
            exact ⟨h.2.2.1.trans HK.out.1, h.2.2.2.trans HK.out.2⟩)
          go_upto_region 17 with fail
          rcases HST.out with h1 | ⟨h1, h2 | h2⟩
          · have HC1 := Lib.hid h1.1
            have HDN := Lib.hid h1.2
            clear h1 HST
            refine wp_region_held_drew (S := fun w' => Below w.heap.size w w' ∧ Blk w' bs (bva y) 38) (by kernel_rfl) ⟨(B1.out.trans (H32.out.bel.mono B1.out.size)).drew, XS32.out.1.below (Below.refl w32.heap.size w32).drew⟩ (fun hh => ?_)
            have HH := Lib.hid hh
            clear hh
            refine wpAnyH_take (i := 0) (v := ?vA0) rfl (by kernel_rfl) (by kernel_rfl) (by kernel_rfl) (fun _ _ _ h => h) (Or.inl ⟨by rfl, fun w' _ => ?yA0⟩) HH.out ?_
            case yA0 => (go_simp; try with_reducible rfl)
            refine wpAnyH_take (i := 1) (v := ?vA1) rfl (by kernel_rfl) (by kernel_rfl) (by kernel_rfl) (fun _ _ _ h => h) (Or.inl ⟨by rfl, fun w' _ => ?yA1⟩) HH.out ?_
            case yA1 => (go_simp; try with_reducible rfl)
            try simp only [List.getElem_toArray, List.getElem_cons_succ, List.getElem_cons_zero, Act.put, List.setIfInBounds_toArray, List.set_cons_zero, List.set_cons_succ]
            refine wpAnyH_take (i := 2) (v := ?vA2) rfl (by kernel_rfl) (by kernel_rfl) (by kernel_rfl) (fun _ _ _ h => h) (Or.inl ⟨by rfl, fun w' _ => ?yA2⟩) HH.out ?_
            case yA2 => (go_simp; try with_reducible rfl)
            refine wpAnyH_take (i := 3) (v := ?vA3) rfl (by kernel_rfl) (by kernel_rfl) (by kernel_rfl) (fun _ _ _ h => h) (Or.inl ⟨by rfl, fun w' _ => ?yA3⟩) HH.out ?_
            case yA3 => (go_simp; try with_reducible rfl)
            refine wpAnyH_take (i := 4) (v := .int .u8 (x.toNat : Int)) rfl (by kernel_rfl) (by kernel_rfl) (by kernel_rfl) (fun _ _ _ h => h) (Or.inl ⟨by rfl, fun w' hw' => ?yA4⟩) HH.out ?_
            case yA4 => (have hc := HC.out w' hw'.1; go_simp; try with_reducible rfl)
            try simp only [List.getElem_toArray, List.getElem_cons_succ, List.getElem_cons_zero, Act.put, List.setIfInBounds_toArray, List.set_cons_zero, List.set_cons_succ]
            refine wpAnyH_take (i := 5) (v := ?vA5) rfl (by kernel_rfl) (by kernel_rfl) (by kernel_rfl) (fun _ _ _ h => h) (Or.inl ⟨by rfl, fun w' _ => ?yA5⟩) HH.out ?_
            case yA5 => (go_simp; try with_reducible rfl)
            refine wpAnyH_take (i := 6) (v := .int .i64 (q : Int)) rfl (by kernel_rfl) (by kernel_rfl) (by kernel_rfl) (fun _ _ _ h => h) (Or.inl ⟨by rfl, fun w' hw' => ?yA6⟩) HH.out ?_
            case yA6 => (go_simp; try with_reducible rfl)
            refine wpAnyH_take (i := 7) (v := .agg (bva y)) rfl (by kernel_rfl) (by kernel_rfl) (by kernel_rfl) (fun _ _ _ h => h) (Or.inl ⟨by rfl, fun w' hw' => ?yA7⟩) HH.out ?_
            case yA7 => exact exec_load 38 (.tmp 16) rfl rfl hw'.2 Try.underlying38 rfl HIY.out
            try simp only [List.getElem_toArray, List.getElem_cons_succ, List.getElem_cons_zero, Act.put, List.setIfInBounds_toArray, List.set_cons_zero, List.set_cons_succ]
            refine wpAnyH_ready (rs := [8]) (by kernel_rfl) (by simp) (AllReadyH.cons rfl (fun K hK => ?_) AllReadyH.nil)
            go_simp
            have hc := tm_write (H32.out.below (Below.refl w32.heap.size w32).drew) HK.out (q : Int) y HY3.out HMS.out
            rw [HC1.out] at hc
            refine hc.mono ?_
            clear hc
            rintro e w33 ⟨rfl, F33, h, hm⟩
            have H33 := Lib.hid h
            have XD33 := Lib.hid ((XD32.out.below (Below.refl w32.heap.size w32).drew).step hm)
            have XN33 := Lib.hid ((XN32.out.below (Below.refl w32.heap.size w32).drew).step hm)
            have XS33 := Lib.hid ((XS32.out.below (Below.refl w32.heap.size w32).drew).step hm)
            go_simp
            refine hK.out _ _ ⟨B1.out.trans (H33.out.bel.mono B1.out.size), XS33.out.1⟩ (fun hh => ?_)
            have HH' := Lib.hid hh
            clear hh hK K HH h hm H32 XD32 XN32 XS32
            have HH := Lib.hid HH'.out
            clear HH'
            refine wpAnyH_take (i := 9) (v := .bool true) rfl (by kernel_rfl) (by kernel_rfl) (by kernel_rfl) (fun _ _ _ h => h) (Or.inl ⟨by rfl, fun w' hw' => ?yA9⟩) HH.out ?_
            case yA9 => (go_simp; try rfl)
            refine wpAnyH_take (i := 10) (v := ?vA10) rfl (by kernel_rfl) (by kernel_rfl) (by kernel_rfl) (fun _ _ _ h => h) (Or.inl ⟨by rfl, fun w' _ => ?yA10⟩) HH.out ?_
            case yA10 => (go_simp; try with_reducible rfl)
            try simp only [List.getElem_toArray, List.getElem_cons_succ, List.getElem_cons_zero, Act.put, List.setIfInBounds_toArray, List.set_cons_zero, List.set_cons_succ]
            refine wpAnyH_take (i := 11) (v := undef) rfl (by kernel_rfl) (by kernel_rfl) (by kernel_rfl) (fun _ _ _ h => h) (Or.inr ⟨by rfl, rfl⟩) HH.out ?_
            refine wpAnyH_take (i := 12) (v := undef) rfl (by kernel_rfl) (by kernel_rfl) (by kernel_rfl) (fun _ _ _ h => h) (Or.inr ⟨by rfl, rfl⟩) HH.out ?_
            refine wpAnyH_take (i := 13) (v := undef) rfl (by kernel_rfl) (by kernel_rfl) (by kernel_rfl) (fun _ _ _ h => h) (Or.inr ⟨by rfl, rfl⟩) HH.out ?_
            try simp only [List.getElem_toArray, List.getElem_cons_succ, List.getElem_cons_zero, Act.put, List.setIfInBounds_toArray, List.set_cons_zero, List.set_cons_succ]
            refine wpAnyH_take (i := 14) (v := ?vA14) rfl (by kernel_rfl) (by kernel_rfl) (by kernel_rfl) (fun _ _ _ h => h) (Or.inl ⟨by rfl, fun w' _ => ?yA14⟩) HH.out ?_
            case yA14 => (go_simp; try with_reducible rfl)
            try simp only [List.getElem_toArray, List.getElem_cons_succ, List.getElem_cons_zero, Act.put, List.setIfInBounds_toArray, List.set_cons_zero, List.set_cons_succ]
            refine wpAnyH_done (by kernel_rfl) ?_ _
            go_wp2_with fail
            go_meet
            obtain ⟨zz, hz3, hzd⟩ := HDN.out
            have HTO := HF.out.torn (n := q) (x := yb) (y := x) HYB.out zz
            rw [← HYE.out] at HTO
            exact ⟨D, D.set q y, D.set q zz, F33, _, H33.out, HTO, by rw [hzd]; rfl, by rw [hzd]; rfl, XD33.out, XN33.out⟩
          · have HC1 := Lib.hid h1
            have HC2 := Lib.hid h2.1
            have HDN := Lib.hid h2.2
            clear h1 h2 HST
            refine wp_region_held_drew (S := fun w' => Below w.heap.size w w' ∧ Blk w' bs (bva y) 38) (by kernel_rfl) ⟨(B1.out.trans (H32.out.bel.mono B1.out.size)).drew, XS32.out.1.below (Below.refl w32.heap.size w32).drew⟩ (fun hh => ?_)
            have HH := Lib.hid hh
            clear hh
            refine wpAnyH_take (i := 0) (v := ?vB0) rfl (by kernel_rfl) (by kernel_rfl) (by kernel_rfl) (fun _ _ _ h => h) (Or.inl ⟨by rfl, fun w' _ => ?yB0⟩) HH.out ?_
            case yB0 => (go_simp; try with_reducible rfl)
            refine wpAnyH_take (i := 1) (v := ?vB1) rfl (by kernel_rfl) (by kernel_rfl) (by kernel_rfl) (fun _ _ _ h => h) (Or.inl ⟨by rfl, fun w' _ => ?yB1⟩) HH.out ?_
            case yB1 => (go_simp; try with_reducible rfl)
            try simp only [List.getElem_toArray, List.getElem_cons_succ, List.getElem_cons_zero, Act.put, List.setIfInBounds_toArray, List.set_cons_zero, List.set_cons_succ]
            refine wpAnyH_take (i := 2) (v := ?vB2) rfl (by kernel_rfl) (by kernel_rfl) (by kernel_rfl) (fun _ _ _ h => h) (Or.inl ⟨by rfl, fun w' _ => ?yB2⟩) HH.out ?_
            case yB2 => (go_simp; try with_reducible rfl)
            refine wpAnyH_take (i := 3) (v := ?vB3) rfl (by kernel_rfl) (by kernel_rfl) (by kernel_rfl) (fun _ _ _ h => h) (Or.inl ⟨by rfl, fun w' _ => ?yB3⟩) HH.out ?_
            case yB3 => (go_simp; try with_reducible rfl)
            refine wpAnyH_take (i := 4) (v := .int .u8 (x.toNat : Int)) rfl (by kernel_rfl) (by kernel_rfl) (by kernel_rfl) (fun _ _ _ h => h) (Or.inl ⟨by rfl, fun w' hw' => ?yB4⟩) HH.out ?_
            case yB4 => (have hc := HC.out w' hw'.1; go_simp; try with_reducible rfl)
            try simp only [List.getElem_toArray, List.getElem_cons_succ, List.getElem_cons_zero, Act.put, List.setIfInBounds_toArray, List.set_cons_zero, List.set_cons_succ]
            refine wpAnyH_take (i := 5) (v := ?vB5) rfl (by kernel_rfl) (by kernel_rfl) (by kernel_rfl) (fun _ _ _ h => h) (Or.inl ⟨by rfl, fun w' _ => ?yB5⟩) HH.out ?_
            case yB5 => (go_simp; try with_reducible rfl)
            refine wpAnyH_take (i := 6) (v := .int .i64 (q : Int)) rfl (by kernel_rfl) (by kernel_rfl) (by kernel_rfl) (fun _ _ _ h => h) (Or.inl ⟨by rfl, fun w' hw' => ?yB6⟩) HH.out ?_
            case yB6 => (go_simp; try with_reducible rfl)
            refine wpAnyH_take (i := 7) (v := .agg (bva y)) rfl (by kernel_rfl) (by kernel_rfl) (by kernel_rfl) (fun _ _ _ h => h) (Or.inl ⟨by rfl, fun w' hw' => ?yB7⟩) HH.out ?_
            case yB7 => exact exec_load 38 (.tmp 16) rfl rfl hw'.2 Try.underlying38 rfl HIY.out
            try simp only [List.getElem_toArray, List.getElem_cons_succ, List.getElem_cons_zero, Act.put, List.setIfInBounds_toArray, List.set_cons_zero, List.set_cons_succ]
            refine wpAnyH_ready (rs := [8]) (by kernel_rfl) (by simp) (AllReadyH.cons rfl (fun K hK => ?_) AllReadyH.nil)
            go_simp
            have hc := tm_write (H32.out.below (Below.refl w32.heap.size w32).drew) HK.out (q : Int) y HY3.out HMS.out
            rw [HC1.out] at hc
            refine hc.mono ?_
            clear hc
            rintro e w33 ⟨rfl, F33, h, hm⟩
            have H33 := Lib.hid h
            have XD33 := Lib.hid ((XD32.out.below (Below.refl w32.heap.size w32).drew).step hm)
            have XN33 := Lib.hid ((XN32.out.below (Below.refl w32.heap.size w32).drew).step hm)
            have XS33 := Lib.hid ((XS32.out.below (Below.refl w32.heap.size w32).drew).step hm)
            go_simp
            refine hK.out _ _ ⟨B1.out.trans (H33.out.bel.mono B1.out.size), XS33.out.1⟩ (fun hh => ?_)
            have HH' := Lib.hid hh
            clear hh hK K HH h hm H32 XD32 XN32 XS32
            have HH := Lib.hid HH'.out
            clear HH'
            refine wpAnyH_take (i := 9) (v := .bool false) rfl (by kernel_rfl) (by kernel_rfl) (by kernel_rfl) (fun _ _ _ h => h) (Or.inl ⟨by rfl, fun w' hw' => ?yB9⟩) HH.out ?_
            case yB9 => (go_simp; try rfl)
            refine wpAnyH_take (i := 10) (v := ?vB10) rfl (by kernel_rfl) (by kernel_rfl) (by kernel_rfl) (fun _ _ _ h => h) (Or.inl ⟨by rfl, fun w' _ => ?yB10⟩) HH.out ?_
            case yB10 => (go_simp; try with_reducible rfl)
            try simp only [List.getElem_toArray, List.getElem_cons_succ, List.getElem_cons_zero, Act.put, List.setIfInBounds_toArray, List.set_cons_zero, List.set_cons_succ]
            refine wpAnyH_take (i := 11) (v := ?vB11) rfl (by kernel_rfl) (by kernel_rfl) (by kernel_rfl) (fun _ _ _ h => h) (Or.inl ⟨by rfl, fun w' _ => ?yB11⟩) HH.out ?_
            case yB11 => (go_simp; try with_reducible rfl)
            try simp only [List.getElem_toArray, List.getElem_cons_succ, List.getElem_cons_zero, Act.put, List.setIfInBounds_toArray, List.set_cons_zero, List.set_cons_succ]
            refine wpAnyH_ready (rs := [12]) (by kernel_rfl) (by simp) (AllReadyH.cons rfl (fun K hK => ?_) AllReadyH.nil)
            go_simp
            have hc := tm_flush H33.out
            rw [HC2.out] at hc
            refine hc.mono ?_
            clear hc
            rintro e w34 ⟨rfl, F34, h, hm⟩
            have H34 := Lib.hid h
            have XD34 := Lib.hid (XD33.out.step hm)
            have XN34 := Lib.hid (XN33.out.step hm)
            have XS34 := Lib.hid (XS33.out.step hm)
            go_simp
            refine hK.out _ _ ⟨B1.out.trans (H34.out.bel.mono B1.out.size), XS34.out.1⟩ (fun hh => ?_)
            have HH' := Lib.hid hh
            clear hh hK K HH h hm H33 XD33 XN33 XS33
            have HH := Lib.hid HH'.out
            clear HH'
            refine wpAnyH_take (i := 13) (v := .bool true) rfl (by kernel_rfl) (by kernel_rfl) (by kernel_rfl) (fun _ _ _ h => h) (Or.inl ⟨by rfl, fun w' hw' => ?yB13⟩) HH.out ?_
            case yB13 => (go_simp; try rfl)
            try simp only [List.getElem_toArray, List.getElem_cons_succ, List.getElem_cons_zero, Act.put, List.setIfInBounds_toArray, List.set_cons_zero, List.set_cons_succ]
            refine wpAnyH_take (i := 14) (v := ?vB14) rfl (by kernel_rfl) (by kernel_rfl) (by kernel_rfl) (fun _ _ _ h => h) (Or.inl ⟨by rfl, fun w' _ => ?yB14⟩) HH.out ?_
            case yB14 => (go_simp; try with_reducible rfl)
            try simp only [List.getElem_toArray, List.getElem_cons_succ, List.getElem_cons_zero, Act.put, List.setIfInBounds_toArray, List.set_cons_zero, List.set_cons_succ]
            refine wpAnyH_done (by kernel_rfl) ?_ _
            go_wp2_with fail
            go_meet
            obtain ⟨zz, hz3, hzd⟩ := HDN.out
            have HTO := HF.out.torn (n := q) (x := yb) (y := x) HYB.out zz
            rw [← HYE.out] at HTO
            exact ⟨D, D.set q y, D.set q zz, F34, _, H34.out, HTO, by rw [hzd]; rfl, by rw [hzd]; rfl, XD34.out, XN34.out⟩
          · have HC1 := Lib.hid h1
            have HC2 := Lib.hid h2.1
            have HDN := Lib.hid h2.2
            clear h1 h2 HST
            refine wp_region_held_drew (S := fun w' => Below w.heap.size w w' ∧ Blk w' bs (bva y) 38) (by kernel_rfl) ⟨(B1.out.trans (H32.out.bel.mono B1.out.size)).drew, XS32.out.1.below (Below.refl w32.heap.size w32).drew⟩ (fun hh => ?_)
            have HH := Lib.hid hh
            clear hh
            refine wpAnyH_take (i := 0) (v := ?vC0) rfl (by kernel_rfl) (by kernel_rfl) (by kernel_rfl) (fun _ _ _ h => h) (Or.inl ⟨by rfl, fun w' _ => ?yC0⟩) HH.out ?_
            case yC0 => (go_simp; try with_reducible rfl)
            refine wpAnyH_take (i := 1) (v := ?vC1) rfl (by kernel_rfl) (by kernel_rfl) (by kernel_rfl) (fun _ _ _ h => h) (Or.inl ⟨by rfl, fun w' _ => ?yC1⟩) HH.out ?_
            case yC1 => (go_simp; try with_reducible rfl)
            try simp only [List.getElem_toArray, List.getElem_cons_succ, List.getElem_cons_zero, Act.put, List.setIfInBounds_toArray, List.set_cons_zero, List.set_cons_succ]
            refine wpAnyH_take (i := 2) (v := ?vC2) rfl (by kernel_rfl) (by kernel_rfl) (by kernel_rfl) (fun _ _ _ h => h) (Or.inl ⟨by rfl, fun w' _ => ?yC2⟩) HH.out ?_
            case yC2 => (go_simp; try with_reducible rfl)
            refine wpAnyH_take (i := 3) (v := ?vC3) rfl (by kernel_rfl) (by kernel_rfl) (by kernel_rfl) (fun _ _ _ h => h) (Or.inl ⟨by rfl, fun w' _ => ?yC3⟩) HH.out ?_
            case yC3 => (go_simp; try with_reducible rfl)
            refine wpAnyH_take (i := 4) (v := .int .u8 (x.toNat : Int)) rfl (by kernel_rfl) (by kernel_rfl) (by kernel_rfl) (fun _ _ _ h => h) (Or.inl ⟨by rfl, fun w' hw' => ?yC4⟩) HH.out ?_
            case yC4 => (have hc := HC.out w' hw'.1; go_simp; try with_reducible rfl)
            try simp only [List.getElem_toArray, List.getElem_cons_succ, List.getElem_cons_zero, Act.put, List.setIfInBounds_toArray, List.set_cons_zero, List.set_cons_succ]
            refine wpAnyH_take (i := 5) (v := ?vC5) rfl (by kernel_rfl) (by kernel_rfl) (by kernel_rfl) (fun _ _ _ h => h) (Or.inl ⟨by rfl, fun w' _ => ?yC5⟩) HH.out ?_
            case yC5 => (go_simp; try with_reducible rfl)
            refine wpAnyH_take (i := 6) (v := .int .i64 (q : Int)) rfl (by kernel_rfl) (by kernel_rfl) (by kernel_rfl) (fun _ _ _ h => h) (Or.inl ⟨by rfl, fun w' hw' => ?yC6⟩) HH.out ?_
            case yC6 => (go_simp; try with_reducible rfl)
            refine wpAnyH_take (i := 7) (v := .agg (bva y)) rfl (by kernel_rfl) (by kernel_rfl) (by kernel_rfl) (fun _ _ _ h => h) (Or.inl ⟨by rfl, fun w' hw' => ?yC7⟩) HH.out ?_
            case yC7 => exact exec_load 38 (.tmp 16) rfl rfl hw'.2 Try.underlying38 rfl HIY.out
            try simp only [List.getElem_toArray, List.getElem_cons_succ, List.getElem_cons_zero, Act.put, List.setIfInBounds_toArray, List.set_cons_zero, List.set_cons_succ]
            refine wpAnyH_ready (rs := [8]) (by kernel_rfl) (by simp) (AllReadyH.cons rfl (fun K hK => ?_) AllReadyH.nil)
            go_simp
            have hc := tm_write (H32.out.below (Below.refl w32.heap.size w32).drew) HK.out (q : Int) y HY3.out HMS.out
            rw [HC1.out] at hc
            refine hc.mono ?_
            clear hc
            rintro e w33 ⟨rfl, F33, h, hm⟩
            have H33 := Lib.hid h
            have XD33 := Lib.hid ((XD32.out.below (Below.refl w32.heap.size w32).drew).step hm)
            have XN33 := Lib.hid ((XN32.out.below (Below.refl w32.heap.size w32).drew).step hm)
            have XS33 := Lib.hid ((XS32.out.below (Below.refl w32.heap.size w32).drew).step hm)
            go_simp
            refine hK.out _ _ ⟨B1.out.trans (H33.out.bel.mono B1.out.size), XS33.out.1⟩ (fun hh => ?_)
            have HH' := Lib.hid hh
            clear hh hK K HH h hm H32 XD32 XN32 XS32
            have HH := Lib.hid HH'.out
            clear HH'
            refine wpAnyH_take (i := 9) (v := .bool false) rfl (by kernel_rfl) (by kernel_rfl) (by kernel_rfl) (fun _ _ _ h => h) (Or.inl ⟨by rfl, fun w' hw' => ?yC9⟩) HH.out ?_
            case yC9 => (go_simp; try rfl)
            refine wpAnyH_take (i := 10) (v := ?vC10) rfl (by kernel_rfl) (by kernel_rfl) (by kernel_rfl) (fun _ _ _ h => h) (Or.inl ⟨by rfl, fun w' _ => ?yC10⟩) HH.out ?_
            case yC10 => (go_simp; try with_reducible rfl)
            try simp only [List.getElem_toArray, List.getElem_cons_succ, List.getElem_cons_zero, Act.put, List.setIfInBounds_toArray, List.set_cons_zero, List.set_cons_succ]
            refine wpAnyH_take (i := 11) (v := ?vC11) rfl (by kernel_rfl) (by kernel_rfl) (by kernel_rfl) (fun _ _ _ h => h) (Or.inl ⟨by rfl, fun w' _ => ?yC11⟩) HH.out ?_
            case yC11 => (go_simp; try with_reducible rfl)
            try simp only [List.getElem_toArray, List.getElem_cons_succ, List.getElem_cons_zero, Act.put, List.setIfInBounds_toArray, List.set_cons_zero, List.set_cons_succ]
            refine wpAnyH_ready (rs := [12]) (by kernel_rfl) (by simp) (AllReadyH.cons rfl (fun K hK => ?_) AllReadyH.nil)
            go_simp
            have hc := tm_flush H33.out
            rw [HC2.out] at hc
            refine hc.mono ?_
            clear hc
            rintro e w34 ⟨rfl, F34, h, hm⟩
            have H34 := Lib.hid h
            have XD34 := Lib.hid (XD33.out.step hm)
            have XN34 := Lib.hid (XN33.out.step hm)
            have XS34 := Lib.hid (XS33.out.step hm)
            go_simp
            refine hK.out _ _ ⟨B1.out.trans (H34.out.bel.mono B1.out.size), XS34.out.1⟩ (fun hh => ?_)
            have HH' := Lib.hid hh
            clear hh hK K HH h hm H33 XD33 XN33 XS33
            have HH := Lib.hid HH'.out
            clear HH'
            refine wpAnyH_take (i := 13) (v := .bool false) rfl (by kernel_rfl) (by kernel_rfl) (by kernel_rfl) (fun _ _ _ h => h) (Or.inl ⟨by rfl, fun w' hw' => ?yC13⟩) HH.out ?_
            case yC13 => (go_simp; try rfl)
            try simp only [List.getElem_toArray, List.getElem_cons_succ, List.getElem_cons_zero, Act.put, List.setIfInBounds_toArray, List.set_cons_zero, List.set_cons_succ]
            refine wpAnyH_take (i := 14) (v := ?vC14) rfl (by kernel_rfl) (by kernel_rfl) (by kernel_rfl) (fun _ _ _ h => h) (Or.inl ⟨by rfl, fun w' _ => ?yC14⟩) HH.out ?_
            case yC14 => (go_simp; try with_reducible rfl)
            try simp only [List.getElem_toArray, List.getElem_cons_succ, List.getElem_cons_zero, Act.put, List.setIfInBounds_toArray, List.set_cons_zero, List.set_cons_succ]
            refine wpAnyH_done (by kernel_rfl) ?_ _
            have HF2 := Lib.hid (show Far (D.set q y) (j + 1) from by rw [HYE.out]; exact HF.out.set HYB.out)
            have HI5 := Lib.hid (show (Try.prog.info? 74).map (·.size) = some (svF (D.set q y)).size by rw [svFs HF2.out.all HF2.out.len]; exact four_info.out)
            go_wp2_with (first | (refine wpList_execg8 rfl (exec_load 74 (.tmp 14) rfl rfl XN34.out.1 Try.underlying74 rfl HI5.out) ?_) | (show wpList _ _ _ ({ dst := none, op := .store 74 (.tmp 13) (.tmp 84), type := _, pos := _, after := _, guard := _ } :: _) _ _; apply Classical.byContradiction; intro hneg))
            refine hneg ?_
            clear hneg
            refine wpList_store_row rfl 74 (.tmp 13) (.tmp 84) rfl bd (svF (D.set q y)) rfl rfl 74 (svF D) XD34.out.1 HI5.out (by rw [svFs HF2.out.all HF2.out.len, svFs HF.out.all HF.out.len]) (svFone _) ?_
            obtain ⟨w35, hw35⟩ : ∃ w35, w35 = w34.setRow bd (svF (D.set q y)) := ⟨_, rfl⟩
            have hbx : Blk w35 bd (svF (D.set q y)) 74 := by rw [hw35]; exact setRow_heap _ _ _ _ _ _ XD34.out.1
            have HBV := Lib.hid (show But (fun j => j = bd) w34 w35 by rw [hw35]; exact (But.refl _).setRow (S := fun j => j = bd) (.inl rfl) _)
            rw [← hw35]
            clear hw35
            have XD35 := Lib.hid (show Bx w1 w35 F34 bd (svF (D.set q y)) 74 from ⟨hbx, XD34.out.2⟩)
            have H35 := Lib.hid (lt_own H34.out HBV.out (fun j hj => by rw [hj]; exact XD34.out.2.1) (fun j hf hj => XD34.out.2.2 (hj ▸ hf)))
            have XN35 := Lib.hid (bx_but H34.out XN34.out HBV.out (fun e => HNE.out e.symm))
            clear hbx HBV H34 XD34 XN34 XS34 HI5
            go_wp2_with fail
            go_roundw
            case rel => exact ⟨j + 1, D.set q y, F34, _, HLT.out, by go_num, H35.out, HWK.out, HDN.out, HF2.out, XD35.out, XN35.out⟩
            case measure => (have := HLT.out; simp [intOf]; omega)
        · obtain rfl : j = N := by have := HJ.out; omega
          clear hlt
          go_wp2_with fail
          go_meet
          obtain ⟨c1, hc1⟩ := HU.out
          exact ⟨D, D, D, F, s, H.out, HF.out.found, by rw [hc1]; rfl, by rw [hc1]; rfl, XD.out, XN.out⟩
    case rest =>

      obtain ⟨D, Y, X, F, s, hlm, hfo, hs0, hs1, hbx, hby⟩ := hcut
      have H := Lib.hid hlm
      have HF := Lib.hid hfo
      have HS0 := Lib.hid hs0
      have HS1 := Lib.hid hs1
      have XD := Lib.hid hbx
      have XN := Lib.hid hby
      clear hlm hfo hs0 hs1 hbx hby H27 HK25 HU25 XD27 XN27 HZ4
      go_wp2_with fail
      refine (tm_dump0 H.out HS0.out HF.out.lenx).mono ?_
      rintro e w40 ⟨A0, e0, rfl, ho0, hx3, bw⟩
      have HX3 := Lib.hid hx3
      have H40 := Lib.hid (H.out.below bw)
      have XD40 := Lib.hid (XD.out.below bw)
      have XN40 := Lib.hid (XN.out.below bw)
      obtain ⟨qa, rfl⟩ : ∃ qa, A0 = some ⟨qa, 0, none⟩ := by
        rcases own_addr8 ho0 with ⟨_, h0, _⟩ | h0
        · omega
        · exact h0
      have R40 := Lib.hid (show Rd w40.heap.size w40 (some ⟨qa, 0, none⟩) (svs X) from Rd.ownN ho0)
      clear bw ho0 hx3 H XD XN
      go_wp2_with fail
      refine (tm_dump1 H40.out HS1.out HF.out.len).mono ?_
      rintro e w41 ⟨A1, e1, rfl, ho1, _, bw⟩
      have H41 := Lib.hid (H40.out.below bw)
      have XD41 := Lib.hid (XD40.out.below bw)
      have XN41 := Lib.hid (XN40.out.below bw)
      have RX41 := Lib.hid (R40.out.below bw)
      obtain ⟨qb, rfl⟩ : ∃ qb, A1 = some ⟨qb, 0, none⟩ := by
        rcases own_addr8 ho1 with ⟨_, h0, _⟩ | h0
        · omega
        · exact h0
      have RY41 := Lib.hid (show Rd w41.heap.size w41 (some ⟨qb, 0, none⟩) (svs D) from Rd.ownN ho1)
      have HWW := Lib.hid (show w40.heap.size ≤ w41.heap.size from bw.size)
      clear bw ho1 H40 XD40 XN40 R40
      go_wp2_with fail
      go_loopw [19] (fun i wr => ∃ n : Nat, n ≤ 4 ∧ i = .int .i64 n ∧ Below w41.heap.size w41 wr) (fun i _ => 4 - (intOf i).toNat)
      case atStart => exact ⟨0, by omega, rfl, Below.refl _ _⟩
      case round =>
        obtain ⟨n, hn, rfl, hbw⟩ := hrel
        have HN := Lib.hid hn
        have HB := Lib.hid hbw
        clear hn hbw
        by_cases hlt : n < 4
        · have HLT := Lib.hid hlt
          have n0 : (0 : Int) ≤ (n : Int) := by omega
          have n1 : (n : Int) < (4 : Int) := by omega
          have wn : IntKind.i64.wrap ((n : Int) + 1) = ((n + 1 : Nat) : Int) := IntWalk.i64_in _ (by omega)
          clear hlt
          obtain ⟨xn, hxn⟩ : ∃ xn, xn = X.getD n zeroS := ⟨_, rfl⟩
          obtain ⟨dn, hdn⟩ : ∃ dn, dn = D.getD n zeroS := ⟨_, rfl⟩
          obtain ⟨yn, hyn⟩ : ∃ yn, yn = Y.getD n zeroS := ⟨_, rfl⟩
          have HXL := Lib.hid (show xn.length = 128 by rw [hxn]; exact getD_ok HX3.out n)
          have HDL := Lib.hid (show dn.length = 128 by rw [hdn]; exact getD_ok HF.out.d3 n)
          have HYL := Lib.hid (show yn.length = 128 by rw [hyn]; exact getD_ok HF.out.y3 n)
          have HIX := Lib.hid (show (Try.prog.info? 38).map (·.size) = some (bva xn).size by rw [bva_size, HXL.out]; exact info_sec)
          have HID := Lib.hid (show (Try.prog.info? 38).map (·.size) = some (bva dn).size by rw [bva_size, HDL.out]; exact info_sec)
          have HIN := Lib.hid (show (Try.prog.info? 38).map (·.size) = some (bva yn).size by rw [bva_size, HYL.out]; exact info_sec)
          have HCX := Lib.hid (show ∀ w', Below w41.heap.size w41 w' → ∀ i v, (bv xn)[i]? = some v → w'.cell? ((⟨qa, n * 128, none⟩ : Addr).add i) = some v from fun w' hb i v hv => by
            rw [hxn] at hv
            exact sec_row (RX41.out.below (hb.mono HWW.out)) HX3.out (show n < X.length by rw [HF.out.lenx]; exact HLT.out) i v hv)
          have HCY := Lib.hid (show ∀ w', Below w41.heap.size w41 w' → ∀ i v, (bv dn)[i]? = some v → w'.cell? ((⟨qb, n * 128, none⟩ : Addr).add i) = some v from fun w' hb i v hv => by
            rw [hdn] at hv
            exact sec_row (RY41.out.below hb) HF.out.d3 (show n < D.length by rw [HF.out.len]; exact HLT.out) i v hv)
          have HCD := Lib.hid (show ∀ w', Below w41.heap.size w41 w' → ∀ i v, (bv dn)[i]? = some v → w'.cell? ((⟨bd, n * 128, none⟩ : Addr).add i) = some v from fun w' hb => by
            rw [hdn]
            exact four_cells (XD41.out.1.below hb) HF.out.d3 (show n < D.length by rw [HF.out.len]; exact HLT.out))
          have HCN := Lib.hid (show ∀ w', Below w41.heap.size w41 w' → ∀ i v, (bv yn)[i]? = some v → w'.cell? ((⟨bn, n * 128, none⟩ : Addr).add i) = some v from fun w' hb => by
            rw [hyn]
            exact four_cells (XN41.out.1.below hb) HF.out.y3 (show n < Y.length by rw [HF.out.leny]; exact HLT.out))
          have HOK := Lib.hid (show xn ≠ dn → yn ≠ dn from by rw [hxn, hdn, hyn]; exact HF.out.ok n HLT.out)
          have hQ0 := eq_sec dn dn HDL.out HDL.out
          rw [decide_eq_true (rfl : dn = dn)] at hQ0
          clear hxn hdn hyn
          go_upto_region 23 with fail
          by_cases e0 : xn = dn
          · replace e0 := e0.symm
            subst e0
            refine wp_region_held_drew (S := fun w' => Below w41.heap.size w41 w') (by kernel_rfl) HB.out.drew (fun hh => ?_)
            have HH := Lib.hid hh
            clear hh
            refine wpAnyH_take (i := 0) (v := ?vD0) rfl (by kernel_rfl) (by kernel_rfl) (by kernel_rfl) (fun _ _ _ h => h) (Or.inl ⟨by rfl, fun w' _ => ?yD0⟩) HH.out ?_
            case yD0 => (go_simp; try with_reducible rfl)
            refine wpAnyH_take (i := 1) (v := ?vD1) rfl (by kernel_rfl) (by kernel_rfl) (by kernel_rfl) (fun _ _ _ h => h) (Or.inl ⟨by rfl, fun w' _ => ?yD1⟩) HH.out ?_
            case yD1 => (go_simp; try with_reducible rfl)
            try simp only [List.getElem_toArray, List.getElem_cons_succ, List.getElem_cons_zero, Act.put, List.setIfInBounds_toArray, List.set_cons_zero, List.set_cons_succ]
            refine wpAnyH_take (i := 2) (v := ?vD2) rfl (by kernel_rfl) (by kernel_rfl) (by kernel_rfl) (fun _ _ _ h => h) (Or.inl ⟨by rfl, fun w' _ => ?yD2⟩) HH.out ?_
            case yD2 => (go_simp; try with_reducible rfl)
            refine wpAnyH_take (i := 3) (v := .agg (bva dn)) rfl (by kernel_rfl) (by kernel_rfl) (by kernel_rfl) (fun _ _ _ h => h) (Or.inl ⟨by rfl, fun w' hw' => ?yD3⟩) HH.out ?_
            case yD3 => exact exec_load_at 38 (.tmp 95) rfl ⟨qa, n * 128, none⟩ rfl (HCX.out w' hw') Try.underlying38 rfl HID.out
            refine wpAnyH_take (i := 4) (v := ?vD4) rfl (by kernel_rfl) (by kernel_rfl) (by kernel_rfl) (fun _ _ _ h => h) (Or.inl ⟨by rfl, fun w' _ => ?yD4⟩) HH.out ?_
            case yD4 => (go_simp; try with_reducible rfl)
            try simp only [List.getElem_toArray, List.getElem_cons_succ, List.getElem_cons_zero, Act.put, List.setIfInBounds_toArray, List.set_cons_zero, List.set_cons_succ]
            refine wpAnyH_take (i := 5) (v := ?vD5) rfl (by kernel_rfl) (by kernel_rfl) (by kernel_rfl) (fun _ _ _ h => h) (Or.inl ⟨by rfl, fun w' _ => ?yD5⟩) HH.out ?_
            case yD5 => (go_simp; try with_reducible rfl)
            refine wpAnyH_take (i := 6) (v := .agg (bva dn)) rfl (by kernel_rfl) (by kernel_rfl) (by kernel_rfl) (fun _ _ _ h => h) (Or.inl ⟨by rfl, fun w' hw' => ?yD6⟩) HH.out ?_
            case yD6 => exact exec_load_at 38 (.tmp 98) rfl ⟨bd, n * 128, none⟩ rfl (HCD.out w' hw') Try.underlying38 rfl HID.out
            refine wpAnyH_take (i := 7) (v := .bool false) rfl (by kernel_rfl) (by kernel_rfl) (by kernel_rfl) (fun _ _ _ h => h) (Or.inl ⟨by rfl, fun w' hw' => ?yD7⟩) HH.out ?_
            case yD7 => (go_simp; try rfl)
            try simp only [List.getElem_toArray, List.getElem_cons_succ, List.getElem_cons_zero, Act.put, List.setIfInBounds_toArray, List.set_cons_zero, List.set_cons_succ]
            refine wpAnyH_take (i := 8) (v := ?vD8) rfl (by kernel_rfl) (by kernel_rfl) (by kernel_rfl) (fun _ _ _ h => h) (Or.inl ⟨by rfl, fun w' _ => ?yD8⟩) HH.out ?_
            case yD8 => (go_simp; try with_reducible rfl)
            refine wpAnyH_take (i := 9) (v := undef) rfl (by kernel_rfl) (by kernel_rfl) (by kernel_rfl) (fun _ _ _ h => h) (Or.inr ⟨by rfl, rfl⟩) HH.out ?_
            refine wpAnyH_take (i := 10) (v := undef) rfl (by kernel_rfl) (by kernel_rfl) (by kernel_rfl) (fun _ _ _ h => h) (Or.inr ⟨by rfl, rfl⟩) HH.out ?_
            try simp only [List.getElem_toArray, List.getElem_cons_succ, List.getElem_cons_zero, Act.put, List.setIfInBounds_toArray, List.set_cons_zero, List.set_cons_succ]
            refine wpAnyH_take (i := 11) (v := undef) rfl (by kernel_rfl) (by kernel_rfl) (by kernel_rfl) (fun _ _ _ h => h) (Or.inr ⟨by rfl, rfl⟩) HH.out ?_
            refine wpAnyH_take (i := 12) (v := undef) rfl (by kernel_rfl) (by kernel_rfl) (by kernel_rfl) (fun _ _ _ h => h) (Or.inr ⟨by rfl, rfl⟩) HH.out ?_
            refine wpAnyH_take (i := 13) (v := undef) rfl (by kernel_rfl) (by kernel_rfl) (by kernel_rfl) (fun _ _ _ h => h) (Or.inr ⟨by rfl, rfl⟩) HH.out ?_
            try simp only [List.getElem_toArray, List.getElem_cons_succ, List.getElem_cons_zero, Act.put, List.setIfInBounds_toArray, List.set_cons_zero, List.set_cons_succ]
            refine wpAnyH_take (i := 14) (v := undef) rfl (by kernel_rfl) (by kernel_rfl) (by kernel_rfl) (fun _ _ _ h => h) (Or.inr ⟨by rfl, rfl⟩) HH.out ?_
            refine wpAnyH_take (i := 15) (v := undef) rfl (by kernel_rfl) (by kernel_rfl) (by kernel_rfl) (fun _ _ _ h => h) (Or.inr ⟨by rfl, rfl⟩) HH.out ?_
            refine wpAnyH_take (i := 16) (v := ?vD16) rfl (by kernel_rfl) (by kernel_rfl) (by kernel_rfl) (fun _ _ _ h => h) (Or.inl ⟨by rfl, fun w' _ => ?yD16⟩) HH.out ?_
            case yD16 => (go_simp; try with_reducible rfl)
            try simp only [List.getElem_toArray, List.getElem_cons_succ, List.getElem_cons_zero, Act.put, List.setIfInBounds_toArray, List.set_cons_zero, List.set_cons_succ]
            refine wpAnyH_take (i := 17) (v := ?vD17) rfl (by kernel_rfl) (by kernel_rfl) (by kernel_rfl) (fun _ _ _ h => h) (Or.inl ⟨by rfl, fun w' _ => ?yD17⟩) HH.out ?_
            case yD17 => (go_simp; try with_reducible rfl)
            refine wpAnyH_take (i := 18) (v := ?vD18) rfl (by kernel_rfl) (by kernel_rfl) (by kernel_rfl) (fun _ _ _ h => h) (Or.inl ⟨by rfl, fun w' _ => ?yD18⟩) HH.out ?_
            case yD18 => (go_simp; try with_reducible rfl)
            refine wpAnyH_take (i := 19) (v := ?vD19) rfl (by kernel_rfl) (by kernel_rfl) (by kernel_rfl) (fun _ _ _ h => h) (Or.inl ⟨by rfl, fun w' _ => ?yD19⟩) HH.out ?_
            case yD19 => (go_simp; try with_reducible rfl)
            try simp only [List.getElem_toArray, List.getElem_cons_succ, List.getElem_cons_zero, Act.put, List.setIfInBounds_toArray, List.set_cons_zero, List.set_cons_succ]
            refine wpAnyH_take (i := 20) (v := ?vD20) rfl (by kernel_rfl) (by kernel_rfl) (by kernel_rfl) (fun _ _ _ h => h) (Or.inl ⟨by rfl, fun w' _ => ?yD20⟩) HH.out ?_
            case yD20 => (go_simp; try with_reducible rfl)
            refine wpAnyH_take (i := 21) (v := .agg (bva dn)) rfl (by kernel_rfl) (by kernel_rfl) (by kernel_rfl) (fun _ _ _ h => h) (Or.inl ⟨by rfl, fun w' hw' => ?yD21⟩) HH.out ?_
            case yD21 => exact exec_load_at 38 (.tmp 113) rfl ⟨qb, n * 128, none⟩ rfl (HCY.out w' hw') Try.underlying38 rfl HID.out
            refine wpAnyH_take (i := 22) (v := ?vD22) rfl (by kernel_rfl) (by kernel_rfl) (by kernel_rfl) (fun _ _ _ h => h) (Or.inl ⟨by rfl, fun w' _ => ?yD22⟩) HH.out ?_
            case yD22 => (go_simp; try with_reducible rfl)
            try simp only [List.getElem_toArray, List.getElem_cons_succ, List.getElem_cons_zero, Act.put, List.setIfInBounds_toArray, List.set_cons_zero, List.set_cons_succ]
            refine wpAnyH_take (i := 23) (v := ?vD23) rfl (by kernel_rfl) (by kernel_rfl) (by kernel_rfl) (fun _ _ _ h => h) (Or.inl ⟨by rfl, fun w' _ => ?yD23⟩) HH.out ?_
            case yD23 => (go_simp; try with_reducible rfl)
            refine wpAnyH_take (i := 24) (v := .agg (bva dn)) rfl (by kernel_rfl) (by kernel_rfl) (by kernel_rfl) (fun _ _ _ h => h) (Or.inl ⟨by rfl, fun w' hw' => ?yD24⟩) HH.out ?_
            case yD24 => exact exec_load_at 38 (.tmp 116) rfl ⟨bd, n * 128, none⟩ rfl (HCD.out w' hw') Try.underlying38 rfl HID.out
            refine wpAnyH_take (i := 25) (v := .bool false) rfl (by kernel_rfl) (by kernel_rfl) (by kernel_rfl) (fun _ _ _ h => h) (Or.inl ⟨by rfl, fun w' hw' => ?yD25⟩) HH.out ?_
            case yD25 => (go_simp; try rfl)
            try simp only [List.getElem_toArray, List.getElem_cons_succ, List.getElem_cons_zero, Act.put, List.setIfInBounds_toArray, List.set_cons_zero, List.set_cons_succ]
            refine wpAnyH_take (i := 26) (v := ?vD26) rfl (by kernel_rfl) (by kernel_rfl) (by kernel_rfl) (fun _ _ _ h => h) (Or.inl ⟨by rfl, fun w' _ => ?yD26⟩) HH.out ?_
            case yD26 => (go_simp; try with_reducible rfl)
            refine wpAnyH_take (i := 27) (v := undef) rfl (by kernel_rfl) (by kernel_rfl) (by kernel_rfl) (fun _ _ _ h => h) (Or.inr ⟨by rfl, rfl⟩) HH.out ?_
            refine wpAnyH_take (i := 28) (v := undef) rfl (by kernel_rfl) (by kernel_rfl) (by kernel_rfl) (fun _ _ _ h => h) (Or.inr ⟨by rfl, rfl⟩) HH.out ?_
            try simp only [List.getElem_toArray, List.getElem_cons_succ, List.getElem_cons_zero, Act.put, List.setIfInBounds_toArray, List.set_cons_zero, List.set_cons_succ]
            refine wpAnyH_take (i := 29) (v := undef) rfl (by kernel_rfl) (by kernel_rfl) (by kernel_rfl) (fun _ _ _ h => h) (Or.inr ⟨by rfl, rfl⟩) HH.out ?_
            refine wpAnyH_take (i := 30) (v := undef) rfl (by kernel_rfl) (by kernel_rfl) (by kernel_rfl) (fun _ _ _ h => h) (Or.inr ⟨by rfl, rfl⟩) HH.out ?_
            refine wpAnyH_take (i := 31) (v := undef) rfl (by kernel_rfl) (by kernel_rfl) (by kernel_rfl) (fun _ _ _ h => h) (Or.inr ⟨by rfl, rfl⟩) HH.out ?_
            try simp only [List.getElem_toArray, List.getElem_cons_succ, List.getElem_cons_zero, Act.put, List.setIfInBounds_toArray, List.set_cons_zero, List.set_cons_succ]
            refine wpAnyH_take (i := 32) (v := undef) rfl (by kernel_rfl) (by kernel_rfl) (by kernel_rfl) (fun _ _ _ h => h) (Or.inr ⟨by rfl, rfl⟩) HH.out ?_
            refine wpAnyH_take (i := 33) (v := undef) rfl (by kernel_rfl) (by kernel_rfl) (by kernel_rfl) (fun _ _ _ h => h) (Or.inr ⟨by rfl, rfl⟩) HH.out ?_
            refine wpAnyH_take (i := 34) (v := undef) rfl (by kernel_rfl) (by kernel_rfl) (by kernel_rfl) (fun _ _ _ h => h) (Or.inr ⟨by rfl, rfl⟩) HH.out ?_
            try simp only [List.getElem_toArray, List.getElem_cons_succ, List.getElem_cons_zero, Act.put, List.setIfInBounds_toArray, List.set_cons_zero, List.set_cons_succ]
            refine wpAnyH_take (i := 35) (v := ?vD35) rfl (by kernel_rfl) (by kernel_rfl) (by kernel_rfl) (fun _ _ _ h => h) (Or.inl ⟨by rfl, fun w' _ => ?yD35⟩) HH.out ?_
            case yD35 => (go_simp; try with_reducible rfl)
            refine wpAnyH_take (i := 36) (v := ?vD36) rfl (by kernel_rfl) (by kernel_rfl) (by kernel_rfl) (fun _ _ _ h => h) (Or.inl ⟨by rfl, fun w' _ => ?yD36⟩) HH.out ?_
            case yD36 => (go_simp; try with_reducible rfl)
            try simp only [List.getElem_toArray, List.getElem_cons_succ, List.getElem_cons_zero, Act.put, List.setIfInBounds_toArray, List.set_cons_zero, List.set_cons_succ]
            refine wpAnyH_done (by kernel_rfl) ?_ _
            go_wp2_with fail
            go_roundw
            case rel => exact ⟨n + 1, HLT.out, by go_num, HH.out⟩
            case measure => (have := HLT.out; simp [intOf]; omega)
          · have hQ1 := eq_sec xn dn HXL.out HDL.out
            rw [decide_eq_false e0] at hQ1
            have hQ2 := eq_sec yn dn HYL.out HDL.out
            rw [decide_eq_false (HOK.out e0)] at hQ2
            clear e0
            refine wp_region_held_drew (S := fun w' => Below w41.heap.size w41 w') (by kernel_rfl) HB.out.drew (fun hh => ?_)
            have HH := Lib.hid hh
            clear hh
            refine wpAnyH_take (i := 0) (v := ?vE0) rfl (by kernel_rfl) (by kernel_rfl) (by kernel_rfl) (fun _ _ _ h => h) (Or.inl ⟨by rfl, fun w' _ => ?yE0⟩) HH.out ?_
            case yE0 => (go_simp; try with_reducible rfl)
            refine wpAnyH_take (i := 1) (v := ?vE1) rfl (by kernel_rfl) (by kernel_rfl) (by kernel_rfl) (fun _ _ _ h => h) (Or.inl ⟨by rfl, fun w' _ => ?yE1⟩) HH.out ?_
            case yE1 => (go_simp; try with_reducible rfl)
            try simp only [List.getElem_toArray, List.getElem_cons_succ, List.getElem_cons_zero, Act.put, List.setIfInBounds_toArray, List.set_cons_zero, List.set_cons_succ]
            refine wpAnyH_take (i := 2) (v := ?vE2) rfl (by kernel_rfl) (by kernel_rfl) (by kernel_rfl) (fun _ _ _ h => h) (Or.inl ⟨by rfl, fun w' _ => ?yE2⟩) HH.out ?_
            case yE2 => (go_simp; try with_reducible rfl)
            refine wpAnyH_take (i := 3) (v := .agg (bva xn)) rfl (by kernel_rfl) (by kernel_rfl) (by kernel_rfl) (fun _ _ _ h => h) (Or.inl ⟨by rfl, fun w' hw' => ?yE3⟩) HH.out ?_
            case yE3 => exact exec_load_at 38 (.tmp 95) rfl ⟨qa, n * 128, none⟩ rfl (HCX.out w' hw') Try.underlying38 rfl HIX.out
            refine wpAnyH_take (i := 4) (v := ?vE4) rfl (by kernel_rfl) (by kernel_rfl) (by kernel_rfl) (fun _ _ _ h => h) (Or.inl ⟨by rfl, fun w' _ => ?yE4⟩) HH.out ?_
            case yE4 => (go_simp; try with_reducible rfl)
            try simp only [List.getElem_toArray, List.getElem_cons_succ, List.getElem_cons_zero, Act.put, List.setIfInBounds_toArray, List.set_cons_zero, List.set_cons_succ]
            refine wpAnyH_take (i := 5) (v := ?vE5) rfl (by kernel_rfl) (by kernel_rfl) (by kernel_rfl) (fun _ _ _ h => h) (Or.inl ⟨by rfl, fun w' _ => ?yE5⟩) HH.out ?_
            case yE5 => (go_simp; try with_reducible rfl)
            refine wpAnyH_take (i := 6) (v := .agg (bva dn)) rfl (by kernel_rfl) (by kernel_rfl) (by kernel_rfl) (fun _ _ _ h => h) (Or.inl ⟨by rfl, fun w' hw' => ?yE6⟩) HH.out ?_
            case yE6 => exact exec_load_at 38 (.tmp 98) rfl ⟨bd, n * 128, none⟩ rfl (HCD.out w' hw') Try.underlying38 rfl HID.out
            refine wpAnyH_take (i := 7) (v := .bool true) rfl (by kernel_rfl) (by kernel_rfl) (by kernel_rfl) (fun _ _ _ h => h) (Or.inl ⟨by rfl, fun w' hw' => ?yE7⟩) HH.out ?_
            case yE7 => (go_simp; try rfl)
            try simp only [List.getElem_toArray, List.getElem_cons_succ, List.getElem_cons_zero, Act.put, List.setIfInBounds_toArray, List.set_cons_zero, List.set_cons_succ]
            refine wpAnyH_take (i := 8) (v := ?vE8) rfl (by kernel_rfl) (by kernel_rfl) (by kernel_rfl) (fun _ _ _ h => h) (Or.inl ⟨by rfl, fun w' _ => ?yE8⟩) HH.out ?_
            case yE8 => (go_simp; try with_reducible rfl)
            refine wpAnyH_take (i := 9) (v := ?vE9) rfl (by kernel_rfl) (by kernel_rfl) (by kernel_rfl) (fun _ _ _ h => h) (Or.inl ⟨by rfl, fun w' _ => ?yE9⟩) HH.out ?_
            case yE9 => (go_simp; try with_reducible rfl)
            refine wpAnyH_take (i := 10) (v := ?vE10) rfl (by kernel_rfl) (by kernel_rfl) (by kernel_rfl) (fun _ _ _ h => h) (Or.inl ⟨by rfl, fun w' _ => ?yE10⟩) HH.out ?_
            case yE10 => (go_simp; try with_reducible rfl)
            try simp only [List.getElem_toArray, List.getElem_cons_succ, List.getElem_cons_zero, Act.put, List.setIfInBounds_toArray, List.set_cons_zero, List.set_cons_succ]
            refine wpAnyH_take (i := 11) (v := .agg (bva yn)) rfl (by kernel_rfl) (by kernel_rfl) (by kernel_rfl) (fun _ _ _ h => h) (Or.inl ⟨by rfl, fun w' hw' => ?yE11⟩) HH.out ?_
            case yE11 => exact exec_load_at 38 (.tmp 103) rfl ⟨bn, n * 128, none⟩ rfl (HCN.out w' hw') Try.underlying38 rfl HIN.out
            refine wpAnyH_take (i := 12) (v := ?vE12) rfl (by kernel_rfl) (by kernel_rfl) (by kernel_rfl) (fun _ _ _ h => h) (Or.inl ⟨by rfl, fun w' _ => ?yE12⟩) HH.out ?_
            case yE12 => (go_simp; try with_reducible rfl)
            refine wpAnyH_take (i := 13) (v := ?vE13) rfl (by kernel_rfl) (by kernel_rfl) (by kernel_rfl) (fun _ _ _ h => h) (Or.inl ⟨by rfl, fun w' _ => ?yE13⟩) HH.out ?_
            case yE13 => (go_simp; try with_reducible rfl)
            try simp only [List.getElem_toArray, List.getElem_cons_succ, List.getElem_cons_zero, Act.put, List.setIfInBounds_toArray, List.set_cons_zero, List.set_cons_succ]
            refine wpAnyH_take (i := 14) (v := .agg (bva dn)) rfl (by kernel_rfl) (by kernel_rfl) (by kernel_rfl) (fun _ _ _ h => h) (Or.inl ⟨by rfl, fun w' hw' => ?yE14⟩) HH.out ?_
            case yE14 => exact exec_load_at 38 (.tmp 106) rfl ⟨bd, n * 128, none⟩ rfl (HCD.out w' hw') Try.underlying38 rfl HID.out
            refine wpAnyH_take (i := 15) (v := .bool false) rfl (by kernel_rfl) (by kernel_rfl) (by kernel_rfl) (fun _ _ _ h => h) (Or.inl ⟨by rfl, fun w' hw' => ?yE15⟩) HH.out ?_
            case yE15 => (go_simp; try rfl)
            refine wpAnyH_take (i := 16) (v := ?vE16) rfl (by kernel_rfl) (by kernel_rfl) (by kernel_rfl) (fun _ _ _ h => h) (Or.inl ⟨by rfl, fun w' _ => ?yE16⟩) HH.out ?_
            case yE16 => (go_simp; try with_reducible rfl)
            try simp only [List.getElem_toArray, List.getElem_cons_succ, List.getElem_cons_zero, Act.put, List.setIfInBounds_toArray, List.set_cons_zero, List.set_cons_succ]
            refine wpAnyH_take (i := 17) (v := ?vE17) rfl (by kernel_rfl) (by kernel_rfl) (by kernel_rfl) (fun _ _ _ h => h) (Or.inl ⟨by rfl, fun w' _ => ?yE17⟩) HH.out ?_
            case yE17 => (go_simp; try with_reducible rfl)
            refine wpAnyH_take (i := 18) (v := ?vE18) rfl (by kernel_rfl) (by kernel_rfl) (by kernel_rfl) (fun _ _ _ h => h) (Or.inl ⟨by rfl, fun w' _ => ?yE18⟩) HH.out ?_
            case yE18 => (go_simp; try with_reducible rfl)
            refine wpAnyH_take (i := 19) (v := ?vE19) rfl (by kernel_rfl) (by kernel_rfl) (by kernel_rfl) (fun _ _ _ h => h) (Or.inl ⟨by rfl, fun w' _ => ?yE19⟩) HH.out ?_
            case yE19 => (go_simp; try with_reducible rfl)
            try simp only [List.getElem_toArray, List.getElem_cons_succ, List.getElem_cons_zero, Act.put, List.setIfInBounds_toArray, List.set_cons_zero, List.set_cons_succ]
            refine wpAnyH_take (i := 20) (v := ?vE20) rfl (by kernel_rfl) (by kernel_rfl) (by kernel_rfl) (fun _ _ _ h => h) (Or.inl ⟨by rfl, fun w' _ => ?yE20⟩) HH.out ?_
            case yE20 => (go_simp; try with_reducible rfl)
            refine wpAnyH_take (i := 21) (v := .agg (bva dn)) rfl (by kernel_rfl) (by kernel_rfl) (by kernel_rfl) (fun _ _ _ h => h) (Or.inl ⟨by rfl, fun w' hw' => ?yE21⟩) HH.out ?_
            case yE21 => exact exec_load_at 38 (.tmp 113) rfl ⟨qb, n * 128, none⟩ rfl (HCY.out w' hw') Try.underlying38 rfl HID.out
            refine wpAnyH_take (i := 22) (v := ?vE22) rfl (by kernel_rfl) (by kernel_rfl) (by kernel_rfl) (fun _ _ _ h => h) (Or.inl ⟨by rfl, fun w' _ => ?yE22⟩) HH.out ?_
            case yE22 => (go_simp; try with_reducible rfl)
            try simp only [List.getElem_toArray, List.getElem_cons_succ, List.getElem_cons_zero, Act.put, List.setIfInBounds_toArray, List.set_cons_zero, List.set_cons_succ]
            refine wpAnyH_take (i := 23) (v := ?vE23) rfl (by kernel_rfl) (by kernel_rfl) (by kernel_rfl) (fun _ _ _ h => h) (Or.inl ⟨by rfl, fun w' _ => ?yE23⟩) HH.out ?_
            case yE23 => (go_simp; try with_reducible rfl)
            refine wpAnyH_take (i := 24) (v := .agg (bva dn)) rfl (by kernel_rfl) (by kernel_rfl) (by kernel_rfl) (fun _ _ _ h => h) (Or.inl ⟨by rfl, fun w' hw' => ?yE24⟩) HH.out ?_
            case yE24 => exact exec_load_at 38 (.tmp 116) rfl ⟨bd, n * 128, none⟩ rfl (HCD.out w' hw') Try.underlying38 rfl HID.out
            refine wpAnyH_take (i := 25) (v := .bool false) rfl (by kernel_rfl) (by kernel_rfl) (by kernel_rfl) (fun _ _ _ h => h) (Or.inl ⟨by rfl, fun w' hw' => ?yE25⟩) HH.out ?_
            case yE25 => (go_simp; try rfl)
            try simp only [List.getElem_toArray, List.getElem_cons_succ, List.getElem_cons_zero, Act.put, List.setIfInBounds_toArray, List.set_cons_zero, List.set_cons_succ]
            refine wpAnyH_take (i := 26) (v := ?vE26) rfl (by kernel_rfl) (by kernel_rfl) (by kernel_rfl) (fun _ _ _ h => h) (Or.inl ⟨by rfl, fun w' _ => ?yE26⟩) HH.out ?_
            case yE26 => (go_simp; try with_reducible rfl)
            refine wpAnyH_take (i := 27) (v := undef) rfl (by kernel_rfl) (by kernel_rfl) (by kernel_rfl) (fun _ _ _ h => h) (Or.inr ⟨by rfl, rfl⟩) HH.out ?_
            refine wpAnyH_take (i := 28) (v := undef) rfl (by kernel_rfl) (by kernel_rfl) (by kernel_rfl) (fun _ _ _ h => h) (Or.inr ⟨by rfl, rfl⟩) HH.out ?_
            try simp only [List.getElem_toArray, List.getElem_cons_succ, List.getElem_cons_zero, Act.put, List.setIfInBounds_toArray, List.set_cons_zero, List.set_cons_succ]
            refine wpAnyH_take (i := 29) (v := undef) rfl (by kernel_rfl) (by kernel_rfl) (by kernel_rfl) (fun _ _ _ h => h) (Or.inr ⟨by rfl, rfl⟩) HH.out ?_
            refine wpAnyH_take (i := 30) (v := undef) rfl (by kernel_rfl) (by kernel_rfl) (by kernel_rfl) (fun _ _ _ h => h) (Or.inr ⟨by rfl, rfl⟩) HH.out ?_
            refine wpAnyH_take (i := 31) (v := undef) rfl (by kernel_rfl) (by kernel_rfl) (by kernel_rfl) (fun _ _ _ h => h) (Or.inr ⟨by rfl, rfl⟩) HH.out ?_
            try simp only [List.getElem_toArray, List.getElem_cons_succ, List.getElem_cons_zero, Act.put, List.setIfInBounds_toArray, List.set_cons_zero, List.set_cons_succ]
            refine wpAnyH_take (i := 32) (v := undef) rfl (by kernel_rfl) (by kernel_rfl) (by kernel_rfl) (fun _ _ _ h => h) (Or.inr ⟨by rfl, rfl⟩) HH.out ?_
            refine wpAnyH_take (i := 33) (v := undef) rfl (by kernel_rfl) (by kernel_rfl) (by kernel_rfl) (fun _ _ _ h => h) (Or.inr ⟨by rfl, rfl⟩) HH.out ?_
            refine wpAnyH_take (i := 34) (v := undef) rfl (by kernel_rfl) (by kernel_rfl) (by kernel_rfl) (fun _ _ _ h => h) (Or.inr ⟨by rfl, rfl⟩) HH.out ?_
            try simp only [List.getElem_toArray, List.getElem_cons_succ, List.getElem_cons_zero, Act.put, List.setIfInBounds_toArray, List.set_cons_zero, List.set_cons_succ]
            refine wpAnyH_take (i := 35) (v := ?vE35) rfl (by kernel_rfl) (by kernel_rfl) (by kernel_rfl) (fun _ _ _ h => h) (Or.inl ⟨by rfl, fun w' _ => ?yE35⟩) HH.out ?_
            case yE35 => (go_simp; try with_reducible rfl)
            refine wpAnyH_take (i := 36) (v := ?vE36) rfl (by kernel_rfl) (by kernel_rfl) (by kernel_rfl) (fun _ _ _ h => h) (Or.inl ⟨by rfl, fun w' _ => ?yE36⟩) HH.out ?_
            case yE36 => (go_simp; try with_reducible rfl)
            try simp only [List.getElem_toArray, List.getElem_cons_succ, List.getElem_cons_zero, Act.put, List.setIfInBounds_toArray, List.set_cons_zero, List.set_cons_succ]
            refine wpAnyH_done (by kernel_rfl) ?_ _
            go_wp2_with fail
            go_roundw
            case rel => exact ⟨n + 1, HLT.out, by go_num, HH.out⟩
            case measure => (have := HLT.out; simp [intOf]; omega)
        · obtain rfl : n = 4 := by have := HN.out; omega
          clear hlt
          go_wp2_with fail
          go_ret
          exact ⟨rfl, B1.out.trans ((H41.out.bel.mono B1.out.size).trans (HB.out.mono (Nat.le_trans B1.out.size H41.out.bel.size)))⟩
theorem mirrorFlush_own : ownKnob Try.prog.godebug = none := by kernel_rfl
theorem mirrorFlush_laid : laidOutB Try.prog = true := by kernel_rfl

set_option maxRecDepth 100000 in
theorem mirrorFlush_lifted (os : Os) (started : os.Started) (H : Type) (enc : TypeId × Value → H) :
    ReturnsInHanded {} Try.checked os 6 .any (Rows.mirrorFlushSpec.pre6 enc Try.prog Try.f6 Rows.mirrorFlushRow.domain false) (Rows.mirrorFlushSpec.post enc Try.prog Try.f6 false true false false) := by
  refine returnsInHanded_of_change (C := Try.checked) mirrorFlush_own started (by kernel_rfl) Try.func6
    (ChangeSpec.witness6 (enc := enc) (C := Try.checked) false ⟨#[], #[.slice none 0 0, .int .u8 0, .int .u8 0, .int .u8 0], []⟩ 8 (by kernel_rfl) (by kernel_rfl) (by kernel_rfl) (by kernel_rfl)) ?_
  intro W base args ds gs before hval0 hW _ _
  have hval : ∀ (j : Nat) t v, Try.f6.params[j]? = some t → args[j]? = some v → Value.okWide Try.prog W .any base t v := hval0
  have hW' := hW
  obtain ⟨p, q, hA0, hV, rfl, hfz, hnd⟩ := hW
  have hA : DataW.TrodAll enc Try.prog W 0 (fun _ => true) true Try.f6.params.toList args.toList ds p := hA0
  rw [Try.params6] at hA hval
  obtain ⟨v0, vs0, d0, ds0, p0, q0, hargs, rfl, rfl, h0, r0⟩ := trodAll_cons hA
  obtain ⟨v1, vs1, d1, ds1, p1, q1, rfl, rfl, rfl, h1, r1⟩ := trodAll_cons r0
  obtain ⟨v2, vs2, d2, ds2, p2, q2, rfl, rfl, rfl, h2, r2⟩ := trodAll_cons r1
  obtain ⟨v3, vs3, d3, ds3, p3, q3, rfl, rfl, rfl, h3, r3⟩ := trodAll_cons r2
  obtain ⟨rfl, rfl, rfl⟩ := trodAll_nil r3
  obtain rfl : args = #[v0, v1, v2, v3] := by cases args; simp_all
  obtain ⟨rfl, rfl⟩ := trodVars_none hV
  obtain ⟨a0, n0, c0, rfl⟩ := okWide_slice Try.underlying71 (hval 0 71 v0 rfl rfl)
  have lt0 : ∀ x ∈ p0, x.block < W.heap.size := by obtain ⟨m, hm⟩ := h0; exact DataW.trod_lt m _ _ _ hm
  obtain ⟨l0, hl0, hc0, hm0, hr0⟩ := open_bytes Try.underlying71 Try.underlying5 (by kernel_rfl) h0
  obtain ⟨a1, rfl, rfl, rfl, w1⟩ := open_int Try.underlying5 (hval 1 5 v1 rfl rfl) h1
  have b1 := bounds_u8 w1
  obtain ⟨a2, rfl, rfl, rfl, w2⟩ := open_int Try.underlying5 (hval 2 5 v2 rfl rfl) h2
  have b2 := bounds_u8 w2
  obtain ⟨a3, rfl, rfl, rfl, w3⟩ := open_int Try.underlying5 (hval 3 5 v3 rfl rfl) h3
  have b3 := bounds_u8 w3
  clear hA0 hval0
  refine (mirrorFlush_any W a0 n0 c0 l0 hl0 hc0 hm0 hr0 a1 b1 a2 b2 a3 b3).mono fun e W' ⟨he, bel⟩ => ?_
  subst he
  exact ⟨_, rfl, _, _, _, [], _, [], hW', trodAll_mk1 (shut_bool Try.underlying4 _), (trodAll_cons_mk (Below.trod mirrorFlush_laid (by kernel_rfl) (of_decide_eq_true (by kernel_rfl)) h0 bel lt0) (trodAll_cons_mk (shut_int Try.underlying5 w1) (trodAll_cons_mk (shut_int Try.underlying5 w2) (trodAll_cons_mk (shut_int Try.underlying5 w3) trodAll_mk0)))), rfl, bel.frame _, fun h => by cases h⟩

theorem mirrorFlush_holds : Rows.MirrorFlushSaid :=
  OpenClaim.holds_of_wide 6 Try.f6 rfl rfl rfl rfl rfl rfl rfl ⟨rfl, rfl, rfl, rfl, rfl⟩ rfl rfl rfl rfl rfl (by kernel_rfl) Try.func6 (by kernel_rfl)
    (of_decide_eq_true (by kernel_rfl)) (by unfold Func.isWrapper; rw [if_neg (of_decide_eq_false (by kernel_rfl))]; exact ⟨rfl, rfl⟩)
    (fun os started H enc _ => mirrorFlush_lifted os started H enc)

#print axioms mirrorFlush_holds

end Go.Proofs.Ytgfldfofiglefaa
