/-
  The law MirrorPlays holds: whatever comes, the mirror answers as the document's own does. For any acts.
-/
import Derived.Test.YtdjiagcnaogebaaMp5
import Derived.Deep.RegionHeld
import Derived.Test.YtdjiagcnaogebaaRows
import Derived.ProofKit
import Derived.OpenShut
import Derived.ShutString
import Derived.ChangeOld
namespace Go.Proofs.Ytdjiagcnaogebaa
open Go.RowKit Kd Mi Mr Go.ChangeShapes Go.WideShapes Go.ChangeAt
attribute [local go_sem ↓] Go.wp_at_zero Go.wp_at_succ
/-- Two truths that came in side by side. -/
theorem open_bools {H : Type} {enc : TypeId × Value → H} {P : Program} {w : World} {r : Reach} {b0 base : Nat} {spare : Nat → Bool} {held : Bool} {t e : Nat} {v : Value} {d : DataW H} {ps : List MemPlace} (ht : P.underlying t = some (.array 2 e)) (he : P.underlying e = some .bool) (hc : P.cellsOf e = 1) (hn : P.cellsOf t = 2)
    (hval : Value.okWide P w r b0 t v) (h : DataW.Trod enc P w base spare held t v d ps) : ∃ x y : Bool, v = .agg #[.bool x, .bool y] := by
  obtain ⟨cs, rfl, hsz⟩ : ∃ cs, v = .agg cs ∧ cs.size = 2 := by
    have h1 := hval
    simp only [Value.okWide, ht] at h1
    obtain ⟨cs, e1, e2, _⟩ := h1
    exact ⟨cs, e1, by rw [e2, hn]⟩
  obtain ⟨fuel, hf⟩ := h
  obtain ⟨xs, m, _, _, hl, hx, hel⟩ := DataW.trod_array ht hf
  have each : ∀ i (hi : i < cs.size), ∃ z, cs[i] = .bool z := by
    intro i hi
    have h1 := hel i (by omega)
    have hxi : i < xs.length := by omega
    rw [List.getElem?_eq_getElem hxi, hc, Nat.mul_one] at h1
    have e2 : ((Value.agg cs).cells.toList.drop i).take 1 = [cs[i]] := by
      show (cs.toList.drop i).take 1 = [cs[i]]
      rw [List.drop_eq_getElem_cons (by simpa using hi)]
      simp
    rw [e2] at h1
    obtain ⟨z, e1, _⟩ := DataW.trod_bool he h1
    injection e1 with e1
    exact ⟨z, e1⟩
  obtain ⟨x, hx⟩ := each 0 (by omega)
  obtain ⟨y, hy⟩ := each 1 (by omega)
  refine ⟨x, y, ?_⟩
  congr 1
  apply Array.ext
  · simpa using hsz
  · intro i h1 h2
    match i, h2 with
    | 0, _ => simpa using hx
    | 1, _ => simpa using hy
section
variable {p1 g1 p2 g2 : Nat} {w0 w : World} {d : (Two p1 g1 p2 g2).L.St} {F : Nat → Prop} {L0 L1 : List (List UInt8)} {o0 o1 : Bool}
theorem ld_out0 (h : LD p1 g1 p2 g2 w0 w d F L0 L1 o0 o1 0) (on : Bool) : Calls Try.prog 20 #[.pointer (some ⟨g1, 0, none⟩), .bool on] w (fun e w' => e = .returned (.tuple #[]) ∧ ∃ d' F', LD p1 g1 p2 g2 w0 w' d' F' L0 L1 on o1 0 ∧ (∀ q, F' q → F q ∨ w.heap.size ≤ q) ∧ But F w w') := by
  obtain ⟨F1, h1, hl⟩ := pair_fst h.live.at_
  exact (out_sys h1.1 0 (by rw [h1.2]; omega) on).mono fun e w' hr => by
    obtain ⟨rfl, F', hm⟩ := hl (RetS.reta ((len_put _).trans h1.2) hr)
    exact ⟨rfl, _, F', ⟨h.live.step hm, h.d0.out on, h.d1⟩, hm.new, hm.but⟩
theorem ld_out1 (h : LD p1 g1 p2 g2 w0 w d F L0 L1 o0 o1 0) (on : Bool) : Calls Try.prog 20 #[.pointer (some ⟨g2, 0, none⟩), .bool on] w (fun e w' => e = .returned (.tuple #[]) ∧ ∃ d' F', LD p1 g1 p2 g2 w0 w' d' F' L0 L1 o0 on 0 ∧ (∀ q, F' q → F q ∨ w.heap.size ≤ q) ∧ But F w w') := by
  obtain ⟨F1, h1, hl⟩ := pair_snd h.live.at_
  exact (out_sys h1.1 0 (by rw [h1.2]; omega) on).mono fun e w' hr => by
    obtain ⟨rfl, F', hm⟩ := hl (RetS.reta ((len_put _).trans h1.2) hr)
    exact ⟨rfl, _, F', ⟨h.live.step hm, h.d0, h.d1.out on⟩, hm.new, hm.but⟩
theorem bx_go {w' : World} {F' : Nat → Prop} {b : Nat} {cs : Array Value} {t : TypeId} (h : Bx w0 w F b cs t) (hn : ∀ q, F' q → F q ∨ w.heap.size ≤ q) (hb : But F w w') : Bx w0 w' F' b cs t :=
  ⟨h.1.but hb h.2.2, h.2.1, fun hf => (hn b hf).elim h.2.2 (fun h1 => by have := h.1.lt; omega)⟩
end
set_option maxRecDepth 100000 in
set_option maxHeartbeats 51200000 in
theorem mirrorPlays_any (w : World) (sz : Int) (bsz : 0 ≤ sz ∧ sz ≤ 255) (a b : Bool) (A : Option Addr) (N c : Nat) (l : List Ac) (hl : l.length = N) (_ : N ≤ c) (_ : c ≤ maxLen) (hr : Rd w.heap.size w A (acs l)) (hzz : ∀ y ∈ l, y.ok) : Calls Try.prog 4 #[.int .u8 sz, .agg #[.bool a, .bool b], .slice A N c] w (RetB (.bool true) w) := by
  obtain ⟨zN, rfl⟩ : ∃ z : Nat, sz = (z : Int) := ⟨sz.toNat, by omega⟩
  have z1 : (0 : Int) ≤ (zN : Int) := bsz.1
  have z2 : (zN : Int) ≤ 255 := bsz.2
  clear bsz
  obtain ⟨n, hn⟩ : ∃ n, n = zN % 13 := ⟨_, rfl⟩
  have hn12 : n ≤ 12 := by omega
  have HN12 := Lib.hid hn12
  have km : Int.tmod (zN : Int) 13 = (n : Int) := by rw [hn]; exact (Int.ofNat_tmod zN 13).symm
  have kw : IntKind.i64.wrap (n : Int) = (n : Int) := IntWalk.i64_in _ (by omega)
  have kb : IntKind.i64.wrap (zN : Int) = (zN : Int) := IntWalk.i64_in _ (by omega)
  have HL := Lib.hid hl
  have HRD := Lib.hid hr
  have HZZ := Lib.hid hzz
  obtain ⟨w0, hw0⟩ : ∃ w0, w0 = w.alloc (.cells #[.bool a, .bool b] 50) := ⟨_, rfl⟩
  have B0 := Lib.hid (show Below w.heap.size w w0 from by rw [hw0]; exact (Below.refl _ _).alloc (Nat.le_refl _) _)
  have XB := Lib.hid (show Blk w0 w.heap.size #[.bool a, .bool b] 50 from by rw [hw0]; exact heap_alloc_new _ _)
  clear hl hr hzz hn
  go_enter Try.func4, Try.ntmps4
  go_upto_region 1 with fail
  rw [← hw0]
  clear hw0
  go_wp2_with fail
  have hc := awake_any w0
  refine hc.mono ?_
  clear hc
  rintro e w1 ⟨rfl, bw⟩
  have B1 := Lib.hid (B0.out.trans (bw.mono B0.out.size))
  have XB1 := Lib.hid (XB.out.below bw)
  clear bw B0 XB
  by_cases hbig : 40 < N
  · have n1 : (40 : Int) < (N : Int) := by omega
    go_wp2_with fail
    go_ret
    exact ⟨rfl, B1.out⟩
  have n1 : ¬ (40 : Int) < (N : Int) := by omega
  have HNB := Lib.hid (show N ≤ 40 by omega)
  clear hbig
  go_wp2_with fail
  refine (live_new0 n).mono ?_
  rintro e w2 ⟨p1, g1, rfl, F2, h⟩
  have H2 := Lib.hid h
  clear h
  go_wp2_with fail
  refine (live_new0 n).mono ?_
  rintro e w3 ⟨p2, g2, rfl, F3, h⟩
  have HD3 := Lib.hid (ld_new H2.out h (see_new n (by omega)) (see_new n (by omega)))
  clear h H2
  go_wp2_with (show wpList _ _ _ ({ dst := none, op := .store 52 (.tmp 8) (.tmp 24), type := _, pos := _, after := _, guard := _ } :: _) _ _; apply Classical.byContradiction; intro hneg)
  refine hneg ?_
  clear hneg
  refine wpList_store_row rfl 52 (.tmp 8) (.tmp 24) rfl w3.heap.size #[.pointer (some ⟨g1, 0, none⟩), .pointer (some ⟨g2, 0, none⟩)] rfl rfl 52 #[.pointer none, .pointer none] (heap_alloc_new _ _) (by kernel_rfl) (by rfl) (by simp [Value.oneCell']) ?_
  obtain ⟨w40, hw40⟩ : ∃ w40, w40 = (w3.alloc (.cells #[.pointer none, .pointer none] 52)).setRow w3.heap.size #[.pointer (some ⟨g1, 0, none⟩), .pointer (some ⟨g2, 0, none⟩)] := ⟨_, rfl⟩
  have bw : Below w3.heap.size w3 w40 := by rw [hw40]; exact below_setRow ((Below.refl _ _).alloc (Nat.le_refl _) _) (Nat.le_refl _) _
  have hx : Blk w40 w3.heap.size #[.pointer (some ⟨g1, 0, none⟩), .pointer (some ⟨g2, 0, none⟩)] 52 := by rw [hw40]; exact setRow_heap _ _ _ _ _ _ (heap_alloc_new _ _)
  rw [← hw40]
  clear hw40
  obtain ⟨b8, hb8⟩ : ∃ b8, b8 = w3.heap.size := ⟨_, rfl⟩
  rw [← hb8] at hx
  rw [← hb8]
  have HD40 := Lib.hid (HD3.out.below bw)
  have X40 := Lib.hid (show Bx w1 w40 (fun q => F2 q ∨ F3 q) b8 #[.pointer (some ⟨g1, 0, none⟩), .pointer (some ⟨g2, 0, none⟩)] 52 from ⟨hx, by rw [hb8]; exact HD3.out.live.bel.size, fun hf => by have := (Two p1 g1 p2 g2).L.lt HD3.out.live.at_ b8 hf; omega⟩)
  clear hb8 hx bw HD3 n1 km kw kb z1 z2
  have q0 := X40.out.1.cell 0
  have q1 := X40.out.1.cell 1
  have r0 := (XB1.out.below HD40.out.live.bel).cell 0
  have r1 := (XB1.out.below HD40.out.live.bel).cell 1
  go_wp2_with fail
  refine (ld_out0 HD40.out a).mono ?_
  rintro e w41 ⟨rfl, d41, F41, h, hn, hb⟩
  have X41 := Lib.hid (bx_go X40.out hn hb)
  have HD41 := Lib.hid h
  clear h hn hb HD40 X40 q0 q1 r0 r1
  have q0 := X41.out.1.cell 0
  have q1 := X41.out.1.cell 1
  have r0 := (XB1.out.below HD41.out.live.bel).cell 0
  have r1 := (XB1.out.below HD41.out.live.bel).cell 1
  go_wp2_with fail
  refine (ld_out1 HD41.out b).mono ?_
  rintro e w42 ⟨rfl, d42, F42, h, hn, hb⟩
  have X42 := Lib.hid (bx_go X41.out hn hb)
  have HD42 := Lib.hid h
  clear h hn hb HD41 X41 q0 q1 r0 r1
  have q0 := X42.out.1.cell 0
  have q1 := X42.out.1.cell 1
  go_wp2_with fail
  refine (lm_new (G := gG) (fun _ _ _ _ _ _ => trivial) HD42.out (n := n) List.length_replicate List.length_replicate).mono ?_
  rintro e w43 ⟨g, s43, F43, rfl, h, hn, hb⟩
  have X43 := Lib.hid (bx_go X42.out hn hb)
  have H43 := Lib.hid (show LM p1 g1 p2 g2 gG g w1 w43 s43 F43 (newR n a b) 0 from h)
  clear h hn hb HD42 X42 q0 q1
  have r0 := (XB1.out.below H43.out.live.bel).cell 0
  have r1 := (XB1.out.below H43.out.live.bel).cell 1
  go_wp2_with fail
  refine (rnew_any w43 n HN12.out a b).mono ?_
  rintro e w44 ⟨gr, rfl, hrm, bw⟩
  obtain ⟨x0, hx0⟩ : ∃ x, x = newR n a b := ⟨_, rfl⟩
  have hxl : x0.a.length = n := by rw [hx0]; exact List.length_replicate
  rw [← hx0] at hrm H43
  obtain ⟨R, hR⟩ : ∃ R : Nat → Prop, R = (fun q => w43.heap.size ≤ q ∧ q < w44.heap.size) := ⟨_, rfl⟩
  rw [← hR] at hrm
  have HP := Lib.hid (show PB p1 g1 p2 g2 g gr w1 w44 s43 F43 R x0 x0 0 from ⟨H43.out.below bw, hrm, fun q hf hq => by
    rw [hR] at hq
    have h1 := (ML (Two p1 g1 p2 g2) gG g).lt H43.out.live.at_ q hf
    have h2 := hq.1
    omega, fun q hq => by rw [hR] at hq; exact Nat.le_trans H43.out.live.bel.size hq.1⟩)
  have XP := Lib.hid (show BP w1 w44 F43 R b8 #[.pointer (some ⟨g1, 0, none⟩), .pointer (some ⟨g2, 0, none⟩)] 52 from ⟨X43.out.1.below bw, X43.out.2.1, X43.out.2.2, fun hq => by
    rw [hR] at hq
    have h1 := X43.out.1.lt
    have h2 := hq.1
    omega⟩)
  have HXL := Lib.hid hxl
  clear hx0 hxl hR hrm bw H43 X43 r0 r1
  go_wp2_with fail
  have hc := lm_len HP.out.lm
  rw [HXL.out] at hc
  refine hc.mono ?_
  rintro e w45 ⟨rfl, bw⟩
  have HP5 := Lib.hid (HP.out.below bw)
  have XP5 := Lib.hid (XP.out.below bw)
  clear hc bw HP XP
  have nn : ((n : Int) != (n : Int)) = false := by simp
  go_wp2_with fail
  go_loopw [11] (fun i wr => ∃ (j : Nat) (x : Md) (s : Mr (Two p1 g1 p2 g2)) (F : Nat → Prop), j ≤ N ∧ i = .int .i64 j ∧ PB p1 g1 p2 g2 g gr w1 wr s F R x x 0 ∧ x.a.length = n ∧ BP w1 wr F R b8 #[.pointer (some ⟨g1, 0, none⟩), .pointer (some ⟨g2, 0, none⟩)] 52) (fun i _ => N - (intOf i).toNat)
  case atStart => exact ⟨0, x0, s43, F43, Nat.zero_le _, rfl, HP5.out, HXL.out, XP5.out⟩
  case round =>
    clear HP5 XP5
    obtain ⟨j, x, s, F, hj, rfl, hpb, hxl, hbp⟩ := hrel
    have HP := Lib.hid hpb
    have XP := Lib.hid hbp
    have HXN := Lib.hid hxl
    clear hpb hbp hxl
    by_cases hlt : j < N
    · have j0 : (0 : Int) ≤ (j : Int) := by omega
      have j1 : (j : Int) < (N : Int) := by omega
      have hjl : j < l.length := by rw [HL.out]; exact hlt
      obtain ⟨ac, ha⟩ : ∃ a, a = l[j] := ⟨_, rfl⟩
      have hok : ac.ok := by rw [ha]; exact HZZ.out _ (List.getElem_mem hjl)
      obtain ⟨ad, hA, hz1, hz2⟩ := rd_act HRD.out hjl
      subst hA
      have HCL := Lib.hid (show ∀ w', Below w.heap.size w w' → ∀ i v, (acV ac)[i]? = some v → w'.cell? ((ad.add (j * 5)).add i) = some v from fun w' hb i v hv => by
        obtain ⟨a2, h1, _, h2⟩ := rd_act (HRD.out.below hb) hjl
        injection h1 with h1; subst h1
        exact h2 i v (by rw [← ha]; exact hv))
      have hnb := HNB.out
      have HPd := Lib.hid (HP.out.below (Below.refl wr.heap.size wr).drew)
      have XPd := Lib.hid (XP.out.below (Below.refl wr.heap.size wr).drew)
      have HPL := Lib.hid (play_any HPd.out (by rw [HXN.out]; exact HN12.out) ac hok)
      obtain ⟨ca, hca⟩ : ∃ ca, ca = acR ac := ⟨_, rfl⟩
      have HCA := Lib.hid hca
      have HBW := Lib.hid (B1.out.trans (HPd.out.lm.live.bel.mono B1.out.size))
      rw [← hca] at HPL
      clear hlt hjl ha hz1 hz2 hok hca
      go_upto_region 16 with fail
      refine wp_region_held_drew (S := (fun w' => Below w.heap.size w w' ∧ Blk w' b8 #[.pointer (some ⟨g1, 0, none⟩), .pointer (some ⟨g2, 0, none⟩)] 52)) (by kernel_rfl) ⟨HBW.out, XPd.out.1⟩ (fun hh => ?_)
      have HH := Lib.hid hh
      clear hh
      refine wpAnyH_take (i := 0) (v := ?vP0) rfl (by kernel_rfl) (by kernel_rfl) (by kernel_rfl) (fun _ _ _ h => h) (Or.inl ⟨by rfl, fun w' _ => ?yP0⟩) HH.out ?_
      case yP0 => (go_simp; try with_reducible rfl)
      refine wpAnyH_take (i := 1) (v := ?vP1) rfl (by kernel_rfl) (by kernel_rfl) (by kernel_rfl) (fun _ _ _ h => h) (Or.inl ⟨by rfl, fun w' _ => ?yP1⟩) HH.out ?_
      case yP1 => (go_simp; try with_reducible rfl)
      try simp only [List.getElem_toArray, List.getElem_cons_succ, List.getElem_cons_zero, Act.put, List.setIfInBounds_toArray, List.set_cons_zero, List.set_cons_succ]
      refine wpAnyH_take (i := 2) (v := ?vP2) rfl (by kernel_rfl) (by kernel_rfl) (by kernel_rfl) (fun _ _ _ h => h) (Or.inl ⟨by rfl, fun w' _ => ?yP2⟩) HH.out ?_
      case yP2 => (go_simp; try with_reducible rfl)
      refine wpAnyH_take (i := 3) (v := .agg ca) rfl (by kernel_rfl) (by kernel_rfl) (by kernel_rfl) (fun _ _ _ h => h) (Or.inl ⟨by rfl, fun w' hw' => ?yP3⟩) HH.out ?_
      case yP3 => (rw [HCA.out]; exact exec_load_at 61 (.tmp 58) rfl (ad.add (j * 5)) rfl (HCL.out _ hw'.1) Try.underlying61 rfl (by kernel_rfl))
      refine wpAnyH_take (i := 4) (v := ?vP4) rfl (by kernel_rfl) (by kernel_rfl) (by kernel_rfl) (fun _ _ _ h => h) (Or.inl ⟨by rfl, fun w' _ => ?yP4⟩) HH.out ?_
      case yP4 => (go_simp; try with_reducible rfl)
      try simp only [List.getElem_toArray, List.getElem_cons_succ, List.getElem_cons_zero, Act.put, List.setIfInBounds_toArray, List.set_cons_zero, List.set_cons_succ]
      refine wpAnyH_take (i := 5) (v := .agg #[.pointer (some ⟨g1, 0, none⟩), .pointer (some ⟨g2, 0, none⟩)]) rfl (by kernel_rfl) (by kernel_rfl) (by kernel_rfl) (fun _ _ _ h => h) (Or.inl ⟨by rfl, fun w' hw' => ?yP5⟩) HH.out ?_
      case yP5 => exact exec_load 52 (.tmp 8) rfl rfl hw'.2 Try.underlying52 rfl (by kernel_rfl)
      refine wpAnyH_take (i := 6) (v := ?vP6) rfl (by kernel_rfl) (by kernel_rfl) (by kernel_rfl) (fun _ _ _ h => h) (Or.inl ⟨by rfl, fun w' _ => ?yP6⟩) HH.out ?_
      case yP6 => (go_simp; try with_reducible rfl)
      try simp only [List.getElem_toArray, List.getElem_cons_succ, List.getElem_cons_zero, Act.put, List.setIfInBounds_toArray, List.set_cons_zero, List.set_cons_succ]
      refine wpAnyH_ready (rs := [7]) (by kernel_rfl) (by simp) (AllReadyH.cons rfl (fun K hK => ?_) AllReadyH.nil)
      go_simp
      refine HPL.out.mono ?_
      rintro e w50 ⟨rfl, x', s', F', h1, h2, h3, h4⟩
      have HP' := Lib.hid h1
      have XP' := Lib.hid (XPd.out.step h3 h4)
      have HXN' := Lib.hid (h2.trans HXN.out)
      have hbw := B1.out.trans (h1.lm.live.bel.mono B1.out.size)
      go_simp
      refine hK.out _ _ ⟨hbw, XP'.out.1⟩ (fun hh => ?_)
      have HH' := Lib.hid hh
      clear hh hK K HH h1 h2 h3 h4 hbw
      have HH := Lib.hid HH'.out
      clear HH'
      try simp only [List.getElem_toArray, List.getElem_cons_succ, List.getElem_cons_zero, Act.put, List.setIfInBounds_toArray, List.set_cons_zero, List.set_cons_succ]
      refine wpAnyH_take (i := 8) (v := ?vP8) rfl (by kernel_rfl) (by kernel_rfl) (by kernel_rfl) (fun _ _ _ h => h) (Or.inl ⟨by rfl, fun w' _ => ?yP8⟩) HH.out ?_
      case yP8 => (go_simp; try with_reducible rfl)
      try simp only [List.getElem_toArray, List.getElem_cons_succ, List.getElem_cons_zero, Act.put, List.setIfInBounds_toArray, List.set_cons_zero, List.set_cons_succ]
      refine wpAnyH_done (by kernel_rfl) ?_ _
      go_wp2_with fail
      go_roundw
      case rel => exact ⟨j + 1, x', s', F', by omega, by go_num, HP'.out, HXN'.out, XP'.out⟩
      case measure => (simp [intOf]; try omega)
    · obtain rfl : N = j := by omega
      go_wp2_with fail
      go_ret
      exact ⟨rfl, B1.out.trans (HP.out.lm.live.bel.mono B1.out.size)⟩
theorem mirrorPlays_own : ownKnob Try.prog.godebug = none := by kernel_rfl
theorem mirrorPlays_laid : laidOutB Try.prog = true := by kernel_rfl

set_option maxRecDepth 100000 in
theorem mirrorPlays_lifted (os : Os) (started : os.Started) (H : Type) (enc : TypeId × Value → H) :
    ReturnsInHanded {} Try.checked os 4 .any (Rows.mirrorPlaysSpec.pre6 enc Try.prog Try.f4 Rows.mirrorPlaysRow.domain false) (Rows.mirrorPlaysSpec.post enc Try.prog Try.f4 false true false false) := by
  refine returnsInHanded_of_change (C := Try.checked) mirrorPlays_own started (by kernel_rfl) Try.func4
    (ChangeSpec.witness6 (enc := enc) (C := Try.checked) false ⟨#[], #[.int .u8 0, .agg #[.bool false, .bool false], .slice none 0 0], []⟩ 8 (by kernel_rfl) (by kernel_rfl) (by kernel_rfl) (by kernel_rfl)) ?_
  intro W base args ds gs before hval0 hW _ _
  have hval : ∀ (j : Nat) t v, Try.f4.params[j]? = some t → args[j]? = some v → Value.okWide Try.prog W .any base t v := hval0
  have hW' := hW
  obtain ⟨p, q, hA0, hV, rfl, hfz, hnd⟩ := hW
  have hA : DataW.TrodAll enc Try.prog W 0 (fun _ => true) true Try.f4.params.toList args.toList ds p := hA0
  rw [Try.params4] at hA hval
  obtain ⟨v0, vs0, d0, ds0, p0, q0, hargs, rfl, rfl, h0, r0⟩ := trodAll_cons hA
  obtain ⟨v1, vs1, d1, ds1, p1, q1, rfl, rfl, rfl, h1, r1⟩ := trodAll_cons r0
  obtain ⟨v2, vs2, d2, ds2, p2, q2, rfl, rfl, rfl, h2, r2⟩ := trodAll_cons r1
  obtain ⟨rfl, rfl, rfl⟩ := trodAll_nil r2
  obtain rfl : args = #[v0, v1, v2] := by cases args; simp_all
  obtain ⟨rfl, rfl⟩ := trodVars_none hV
  obtain ⟨a0, rfl, rfl, rfl, w0⟩ := open_int Try.underlying5 (hval 0 5 v0 rfl rfl) h0
  have b0 := bounds_u8 w0
  have lt1 : ∀ x ∈ p1, x.block < W.heap.size := by obtain ⟨m, hm⟩ := h1; exact DataW.trod_lt m _ _ _ hm
  obtain ⟨x1, y1, rfl⟩ := open_bools Try.underlying50 Try.underlying4 (by kernel_rfl) (by kernel_rfl) (hval 1 50 v1 rfl rfl) h1
  obtain ⟨a2, n2, c2, rfl⟩ := okWide_slice Try.underlying51 (hval 2 51 v2 rfl rfl)
  have lt2 : ∀ x ∈ p2, x.block < W.heap.size := by obtain ⟨m, hm⟩ := h2; exact DataW.trod_lt m _ _ _ hm
  obtain ⟨l2, hl2, hc2, hm2, hr2, hz2⟩ := Mi.open_acts h2
  clear hA0 hval0
  refine (mirrorPlays_any W a0 b0 x1 y1 a2 n2 c2 l2 hl2 hc2 hm2 hr2 hz2).mono fun e W' ⟨he, bel⟩ => ?_
  subst he
  exact ⟨_, rfl, _, _, _, [], _, [], hW', trodAll_mk1 (shut_bool Try.underlying4 _), (trodAll_cons_mk (shut_int Try.underlying5 w0) (trodAll_cons_mk (Below.trod mirrorPlays_laid (by kernel_rfl) (of_decide_eq_true (by kernel_rfl)) h1 bel lt1) (trodAll_cons_mk (Below.trod mirrorPlays_laid (by kernel_rfl) (of_decide_eq_true (by kernel_rfl)) h2 bel lt2) trodAll_mk0))), rfl, bel.frame _, fun h => by cases h⟩

theorem mirrorPlays_holds : Rows.MirrorPlaysSaid :=
  OpenClaim.holds_of_wide 4 Try.f4 rfl rfl rfl rfl rfl rfl rfl ⟨rfl, rfl, rfl, rfl, rfl⟩ rfl rfl rfl rfl rfl (by kernel_rfl) Try.func4 (by kernel_rfl)
    (of_decide_eq_true (by kernel_rfl)) (by unfold Func.isWrapper; rw [if_neg (of_decide_eq_false (by kernel_rfl))]; exact ⟨rfl, rfl⟩)
    (fun os started H enc _ => mirrorPlays_lifted os started H enc)

#print axioms mirrorPlays_holds

end Go.Proofs.Ytdjiagcnaogebaa
