/-
  The law MirrorHeals holds: whatever came, once both devices are there again and were brought up to date, a sector that is healed reads the same from both, and one that is lost is told so.
-/
import Derived.Test.YtdjiagcnaogebaaMp5
import Derived.Deep.RegionHeld
import Derived.Test.YtdjiagcnaogebaaRows
import Derived.ProofKit
import Derived.OpenShut
import Derived.ShutString
import Derived.ChangeOld
namespace Go.Proofs.Ytdjiagcnaogebaa
open Go.RowKit Kd Mi Mr Go.ChangeShapes Go.WideShapes Go.ChangeAt
attribute [local go_sem ↓] Go.wp_at_zero Go.wp_at_succ
theorem has_at {x : Md} {k : Nat} (hk : k < x.a.length) : x.has (k : Int) = true := by unfold Md.has; simp; omega
theorem settled {f : Int → List UInt8 → Bool} {y : Md} {k : Nat} (hk : k < y.a.length) (h0 : y.o0 = false) (h1 : y.o1 = false) (r0 : y.right f 0 k = true) (r1 : y.right f 1 k = true) (e : y.l0.getD k zeroS = y.l1.getD k zeroS) :
    y.heal f (k : Int) = ((0, 0), y) ∧ y.read f (k : Int) = (y.l0.getD k zeroS, 0) ∧ y.both f (k : Int) = [y.l0.getD k zeroS, y.l0.getD k zeroS] := by
  refine ⟨?_, ?_, ?_⟩
  · unfold Md.heal
    rw [has_at hk, if_pos rfl, h0, h1, Int.toNat_natCast, r0, r1, e]
    simp
  · unfold Md.read
    rw [has_at hk, if_pos rfl, Int.toNat_natCast, r0, if_pos rfl]
  · have f0 : f (k : Int) (y.l0.getD k zeroS) = true := by
      have h := r0
      unfold Md.right at h
      simp only [Bool.and_eq_true] at h
      exact h.2.2
    have f1 : f (k : Int) (y.l1.getD k zeroS) = true := by
      have h := r1
      unfold Md.right at h
      simp only [Bool.and_eq_true] at h
      exact h.2.2
    unfold Md.both
    rw [has_at hk, if_pos rfl, Int.toNat_natCast]
    rw [Md.bothTo, Md.bothTo, Md.bothTo, show y.o 0 = false from h0, show y.o 1 = false from h1, show y.l 0 = y.l0 from rfl, show y.l 1 = y.l1 from rfl, f0, f1, e]
    rfl
theorem getD_set {α : Type} {l : List α} {k : Nat} (hk : k < l.length) (v d : α) : (l.set k v).getD k d = v := by
  rw [List.getD_eq_getElem?_getD, List.getElem?_set_self hk]; rfl
theorem heal_two (f : Int → List UInt8 → Bool) (x : Md) (k : Nat) (hk : k < x.a.length) (h0 : x.o0 = false) (h1 : x.o1 = false) (n0 : x.l0.length = x.a.length) (n1 : x.l1.length = x.a.length) (nb : x.b.length = x.a.length) :
    (x.heal f (k : Int) = ((2, 0), x) ∧ x.read f (k : Int) = (zeroS, 9)) ∨
    ∃ (q : Int) (y : Md) (s : List UInt8), (q = 0 ∨ q = 1) ∧ x.heal f (k : Int) = ((q, 0), y) ∧ y.heal f (k : Int) = ((0, 0), y) ∧ y.read f (k : Int) = (s, 0) ∧ y.both f (k : Int) = [s, s] ∧ y.o0 = false ∧ y.o1 = false ∧ y.a.length = x.a.length := by
  have hh : x.heal f (k : Int) = if x.right f 0 k then (if x.right f 1 k && decide (x.l0.getD k zeroS = x.l1.getD k zeroS) then ((0, 0), x) else ((1, 0), x.mend 1 k (x.l0.getD k zeroS))) else if x.right f 1 k then ((1, 0), x.mend 0 k (x.l1.getD k zeroS)) else ((2, 0), x) := by
    unfold Md.heal
    rw [has_at hk, if_pos rfl, h0, h1, Int.toNat_natCast]
    rfl
  have fr : ∀ i, x.right f i k = true → f (k : Int) ((x.l i).getD k zeroS) = true := fun i h => by
    unfold Md.right at h
    simp only [Bool.and_eq_true] at h
    exact h.2.2
  by_cases r0 : x.right f 0 k = true
  · rw [if_pos r0] at hh
    by_cases c : (x.right f 1 k && decide (x.l0.getD k zeroS = x.l1.getD k zeroS)) = true
    · rw [if_pos c] at hh
      rw [Bool.and_eq_true, decide_eq_true_eq] at c
      obtain ⟨s1, s2, s3⟩ := settled hk h0 h1 r0 c.1 c.2
      exact .inr ⟨0, x, _, .inl rfl, hh, s1, s2, s3, h0, h1, rfl⟩
    · rw [if_neg c] at hh
      have e1 : (x.mend 1 k (x.l0.getD k zeroS)).l1.getD k zeroS = x.l0.getD k zeroS := getD_set (show k < x.l1.length by rw [n1]; exact hk) _ _
      have e2 : (x.mend 1 k (x.l0.getD k zeroS)).b.getD k false = false := getD_set (show k < x.b.length by rw [nb]; exact hk) _ _
      have r1 : (x.mend 1 k (x.l0.getD k zeroS)).right f 1 k = true := by
        unfold Md.right
        rw [show (x.mend 1 k (x.l0.getD k zeroS)).st 1 = (x.mend 1 k (x.l0.getD k zeroS)).b from rfl, e2, show (x.mend 1 k (x.l0.getD k zeroS)).o 1 = x.o1 from rfl, h1, show (x.mend 1 k (x.l0.getD k zeroS)).l 1 = (x.mend 1 k (x.l0.getD k zeroS)).l1 from rfl, e1, show f (k : Int) (x.l0.getD k zeroS) = true from fr 0 r0]
        rfl
      obtain ⟨s1, s2, s3⟩ := settled (y := x.mend 1 k (x.l0.getD k zeroS)) hk h0 h1 r0 r1 e1.symm
      exact .inr ⟨1, _, _, .inr rfl, hh, s1, s2, s3, h0, h1, rfl⟩
  · rw [if_neg r0] at hh
    by_cases r1 : x.right f 1 k = true
    · rw [if_pos r1] at hh
      have e1 : (x.mend 0 k (x.l1.getD k zeroS)).l0.getD k zeroS = x.l1.getD k zeroS := getD_set (show k < x.l0.length by rw [n0]; exact hk) _ _
      have e2 : (x.mend 0 k (x.l1.getD k zeroS)).a.getD k false = false := getD_set (show k < x.a.length from hk) _ _
      have hl : (x.mend 0 k (x.l1.getD k zeroS)).a.length = x.a.length := List.length_set
      have r2 : (x.mend 0 k (x.l1.getD k zeroS)).right f 0 k = true := by
        unfold Md.right
        rw [show (x.mend 0 k (x.l1.getD k zeroS)).st 0 = (x.mend 0 k (x.l1.getD k zeroS)).a from rfl, e2, show (x.mend 0 k (x.l1.getD k zeroS)).o 0 = x.o0 from rfl, h0, show (x.mend 0 k (x.l1.getD k zeroS)).l 0 = (x.mend 0 k (x.l1.getD k zeroS)).l0 from rfl, e1, show f (k : Int) (x.l1.getD k zeroS) = true from fr 1 r1]
        rfl
      obtain ⟨s1, s2, s3⟩ := settled (y := x.mend 0 k (x.l1.getD k zeroS)) (by rw [hl]; exact hk) h0 h1 r2 r1 e1
      exact .inr ⟨1, _, _, .inr rfl, hh, s1, s2, s3, h0, h1, hl⟩
    · rw [if_neg r1] at hh
      refine .inl ⟨hh, ?_⟩
      unfold Md.read
      rw [has_at hk, if_pos rfl, Int.toNat_natCast, if_neg r0, if_neg r1, h0]
      rfl
theorem sync_in {f : Int → List UInt8 → Bool} {x : Md} (h0 : x.o0 = false) (h1 : x.o1 = false) : (x.sync f).2.o0 = false ∧ (x.sync f).2.o1 = false := by
  unfold Md.sync
  rw [h0, h1]
  show (x.caught f).o0 = false ∧ (x.caught f).o1 = false
  unfold Md.caught
  rw [(catchTo_o f _ _ _).1, (catchTo_o f _ _ _).2.1, (catchTo_o f _ _ _).1, (catchTo_o f _ _ _).2.1]
  exact ⟨h0, h1⟩
theorem bx_go {w0 w w' : World} {F F' : Nat → Prop} {b : Nat} {cs : Array Value} {t : TypeId} (h : Bx w0 w F b cs t) (hn : ∀ q, F' q → F q ∨ w.heap.size ≤ q) (hb : But F w w') : Bx w0 w' F' b cs t :=
  ⟨h.1.but hb h.2.2, h.2.1, fun hf => (hn b hf).elim h.2.2 (fun h1 => by have := h.1.lt; omega)⟩
theorem lm_readlen {p1 g1 p2 g2 g m : Nat} {w0 w : World} {s : Mr (Two p1 g1 p2 g2)} {F : Nat → Prop} {x : Md} (h : LM p1 g1 p2 g2 gG g w0 w s F x m) (an : Int) : (x.read goodN an).1.length = 128 := by
  have hat := h.live.at_
  have := h.sees.read (G := gG) an
  rw [show x.read goodN an = x.read gG.f an from rfl, ← this, readM]
  split
  · split
    · exact ml_rdlen hat (i := 0) (by omega) an
    · split
      · exact ml_rdlen hat (i := 1) (by omega) an
      · exact zeroS_length
  · exact zeroS_length
set_option maxRecDepth 100000 in
set_option maxHeartbeats 51200000 in
theorem mirrorHeals_any (w : World) (sz : Int) (bsz : 0 ≤ sz ∧ sz ≤ 255) (A : Option Addr) (N c : Nat) (l : List Ac) (hl : l.length = N) (_ : N ≤ c) (_ : c ≤ maxLen) (hr : Rd w.heap.size w A (acs l)) (hzz : ∀ y ∈ l, y.ok) : Calls Try.prog 5 #[.int .u8 sz, .slice A N c] w (RetB (.bool true) w) := by
  obtain ⟨z, hz0⟩ : ∃ z : List UInt8, z = zeroS := ⟨_, rfl⟩
  have hz : ∀ W, (zeroValue 38).run Try.prog W = .ok (.agg (bva z)) W := fun _ => by rw [hz0]; kernel_rfl
  have HZ3 := Lib.hid (show z.length = 128 by rw [hz0]; exact zeroS_length)
  have HZ0 := Lib.hid hz0
  clear hz0
  obtain ⟨zN, rfl⟩ : ∃ z : Nat, sz = (z : Int) := ⟨sz.toNat, by omega⟩
  have z1 : (0 : Int) ≤ (zN : Int) := bsz.1
  have z2 : (zN : Int) ≤ 255 := bsz.2
  clear bsz
  obtain ⟨n, hn⟩ : ∃ n, n = zN % 13 := ⟨_, rfl⟩
  have hn12 : n ≤ 12 := by omega
  have HN12 := Lib.hid hn12
  have km : Int.tmod (zN : Int) 13 = (n : Int) := by rw [hn]; exact (Int.ofNat_tmod zN 13).symm
  have kw : IntKind.i64.wrap (n : Int) = (n : Int) := IntWalk.i64_in _ (by omega)
  have kb : IntKind.i64.wrap (zN : Int) = (zN : Int) := IntWalk.i64_in _ (by omega)
  have HL := Lib.hid hl
  have HRD := Lib.hid hr
  have HZZ := Lib.hid hzz
  have B0 := Lib.hid (Below.refl w.heap.size w)
  clear hl hr hzz hn
  go_enter Try.func5, Try.ntmps5
  go_wp2_with fail
  have hc := awake_any w
  refine hc.mono ?_
  clear hc
  rintro e w1 ⟨rfl, bw⟩
  have B1 := Lib.hid (B0.out.trans (bw.mono B0.out.size))
  clear bw B0
  by_cases hbig : 40 < N
  · have n1 : (40 : Int) < (N : Int) := by omega
    go_wp2_with fail
    go_ret
    exact ⟨rfl, B1.out⟩
  have n1 : ¬ (40 : Int) < (N : Int) := by omega
  have HNB := Lib.hid (show N ≤ 40 by omega)
  clear hbig
  go_wp2_with fail
  refine (live_new0 n).mono ?_
  rintro e w2 ⟨p1, g1, rfl, F2, h⟩
  have H2 := Lib.hid h
  clear h
  go_wp2_with fail
  refine (live_new0 n).mono ?_
  rintro e w3 ⟨p2, g2, rfl, F3, h⟩
  have HD3 := Lib.hid (ld_new H2.out h (see_new n (by omega)) (see_new n (by omega)))
  clear h H2
  go_wp2_with (show wpList _ _ _ ({ dst := none, op := .store 52 (.tmp 6) (.tmp 30), type := _, pos := _, after := _, guard := _ } :: _) _ _; apply Classical.byContradiction; intro hneg)
  refine hneg ?_
  clear hneg
  refine wpList_store_row rfl 52 (.tmp 6) (.tmp 30) rfl w3.heap.size #[.pointer (some ⟨g1, 0, none⟩), .pointer (some ⟨g2, 0, none⟩)] rfl rfl 52 #[.pointer none, .pointer none] (heap_alloc_new _ _) (by kernel_rfl) (by rfl) (by simp [Value.oneCell']) ?_
  obtain ⟨w40, hw40⟩ : ∃ w40, w40 = (w3.alloc (.cells #[.pointer none, .pointer none] 52)).setRow w3.heap.size #[.pointer (some ⟨g1, 0, none⟩), .pointer (some ⟨g2, 0, none⟩)] := ⟨_, rfl⟩
  have bw : Below w3.heap.size w3 w40 := by rw [hw40]; exact below_setRow ((Below.refl _ _).alloc (Nat.le_refl _) _) (Nat.le_refl _) _
  have hx : Blk w40 w3.heap.size #[.pointer (some ⟨g1, 0, none⟩), .pointer (some ⟨g2, 0, none⟩)] 52 := by rw [hw40]; exact setRow_heap _ _ _ _ _ _ (heap_alloc_new _ _)
  rw [← hw40]
  clear hw40
  obtain ⟨b8, hb8⟩ : ∃ b8, b8 = w3.heap.size := ⟨_, rfl⟩
  rw [← hb8] at hx
  rw [← hb8]
  have HD40 := Lib.hid (HD3.out.below bw)
  have X40 := Lib.hid (show Bx w1 w40 (fun q => F2 q ∨ F3 q) b8 #[.pointer (some ⟨g1, 0, none⟩), .pointer (some ⟨g2, 0, none⟩)] 52 from ⟨hx, by rw [hb8]; exact HD3.out.live.bel.size, fun hf => by have := (Two p1 g1 p2 g2).L.lt HD3.out.live.at_ b8 hf; omega⟩)
  clear hb8 hx bw HD3 n1 km kw kb z1 z2
  have q0 := X40.out.1.cell 0
  have q1 := X40.out.1.cell 1

  go_wp2_with fail
  refine (lm_new (G := gG) (fun _ _ _ _ _ _ => trivial) HD40.out (n := n) List.length_replicate List.length_replicate).mono ?_
  rintro e w43 ⟨g, s43, F43, rfl, h, hn, hb⟩
  have X43 := Lib.hid (bx_go X40.out hn hb)
  have H43 := Lib.hid (show LM p1 g1 p2 g2 gG g w1 w43 s43 F43 (newR n false false) 0 from h)
  clear h hn hb HD40 X40 q0 q1
  go_wp2_with fail
  refine (rnew_any w43 n HN12.out false false).mono ?_
  rintro e w44 ⟨gr, rfl, hrm, bw⟩
  obtain ⟨x0, hx0⟩ : ∃ x, x = newR n false false := ⟨_, rfl⟩
  have hxl : x0.a.length = n := by rw [hx0]; exact List.length_replicate
  rw [← hx0] at hrm H43
  obtain ⟨R, hR⟩ : ∃ R : Nat → Prop, R = (fun q => w43.heap.size ≤ q ∧ q < w44.heap.size) := ⟨_, rfl⟩
  rw [← hR] at hrm
  have HP := Lib.hid (show PB p1 g1 p2 g2 g gr w1 w44 s43 F43 R x0 x0 0 from ⟨H43.out.below bw, hrm, fun q hf hq => by
    rw [hR] at hq
    have h1 := (ML (Two p1 g1 p2 g2) gG g).lt H43.out.live.at_ q hf
    have h2 := hq.1
    omega, fun q hq => by rw [hR] at hq; exact Nat.le_trans H43.out.live.bel.size hq.1⟩)
  have XP := Lib.hid (show BP w1 w44 F43 R b8 #[.pointer (some ⟨g1, 0, none⟩), .pointer (some ⟨g2, 0, none⟩)] 52 from ⟨X43.out.1.below bw, X43.out.2.1, X43.out.2.2, fun hq => by
    rw [hR] at hq
    have h1 := X43.out.1.lt
    have h2 := hq.1
    omega⟩)

  have HXL := Lib.hid hxl
  clear hx0 hxl hR hrm bw H43 X43
  go_wp2_with fail
  go_loopw [9] (fun i wr => ∃ (j : Nat) (x : Md) (s : Mr (Two p1 g1 p2 g2)) (F : Nat → Prop), j ≤ N ∧ i = .int .i64 j ∧ PB p1 g1 p2 g2 g gr w1 wr s F R x x 0 ∧ x.a.length = n ∧ BP w1 wr F R b8 #[.pointer (some ⟨g1, 0, none⟩), .pointer (some ⟨g2, 0, none⟩)] 52) (fun i _ => N - (intOf i).toNat)
  case atStart => exact ⟨0, x0, s43, F43, Nat.zero_le _, rfl, HP.out, HXL.out, XP.out⟩
  case round =>
    clear HP XP
    obtain ⟨j, x, s, F, hj, rfl, hpb, hxl, hbp⟩ := hrel
    have HP := Lib.hid hpb
    have XP := Lib.hid hbp
    have HXN := Lib.hid hxl
    clear hpb hbp hxl
    by_cases hlt : j < N
    · have j0 : (0 : Int) ≤ (j : Int) := by omega
      have j1 : (j : Int) < (N : Int) := by omega
      have hjl : j < l.length := by rw [HL.out]; exact hlt
      obtain ⟨ac, ha⟩ : ∃ a, a = l[j] := ⟨_, rfl⟩
      have hok : ac.ok := by rw [ha]; exact HZZ.out _ (List.getElem_mem hjl)
      obtain ⟨ad, hA, hz1, hz2⟩ := rd_act HRD.out hjl
      subst hA
      have HCL := Lib.hid (show ∀ w', Below w.heap.size w w' → ∀ i v, (acV ac)[i]? = some v → w'.cell? ((ad.add (j * 5)).add i) = some v from fun w' hb i v hv => by
        obtain ⟨a2, h1, _, h2⟩ := rd_act (HRD.out.below hb) hjl
        injection h1 with h1; subst h1
        exact h2 i v (by rw [← ha]; exact hv))
      have hnb := HNB.out
      have HPd := Lib.hid (HP.out.below (Below.refl wr.heap.size wr).drew)
      have XPd := Lib.hid (XP.out.below (Below.refl wr.heap.size wr).drew)
      have HPL := Lib.hid (play_any HPd.out (by rw [HXN.out]; exact HN12.out) ac hok)
      obtain ⟨ca, hca⟩ : ∃ ca, ca = acR ac := ⟨_, rfl⟩
      have HCA := Lib.hid hca
      have HBW := Lib.hid (B1.out.trans (HPd.out.lm.live.bel.mono B1.out.size))
      rw [← hca] at HPL
      clear hlt hjl ha hz1 hz2 hok hca
      go_upto_region 12 with fail
      refine wp_region_held_drew (S := (fun w' => Below w.heap.size w w' ∧ Blk w' b8 #[.pointer (some ⟨g1, 0, none⟩), .pointer (some ⟨g2, 0, none⟩)] 52)) (by kernel_rfl) ⟨HBW.out, XPd.out.1⟩ (fun hh => ?_)
      have HH := Lib.hid hh
      clear hh
      refine wpAnyH_take (i := 0) (v := ?vP0) rfl (by kernel_rfl) (by kernel_rfl) (by kernel_rfl) (fun _ _ _ h => h) (Or.inl ⟨by rfl, fun w' _ => ?yP0⟩) HH.out ?_
      case yP0 => (go_simp; try with_reducible rfl)
      refine wpAnyH_take (i := 1) (v := ?vP1) rfl (by kernel_rfl) (by kernel_rfl) (by kernel_rfl) (fun _ _ _ h => h) (Or.inl ⟨by rfl, fun w' _ => ?yP1⟩) HH.out ?_
      case yP1 => (go_simp; try with_reducible rfl)
      try simp only [List.getElem_toArray, List.getElem_cons_succ, List.getElem_cons_zero, Act.put, List.setIfInBounds_toArray, List.set_cons_zero, List.set_cons_succ]
      refine wpAnyH_take (i := 2) (v := ?vP2) rfl (by kernel_rfl) (by kernel_rfl) (by kernel_rfl) (fun _ _ _ h => h) (Or.inl ⟨by rfl, fun w' _ => ?yP2⟩) HH.out ?_
      case yP2 => (go_simp; try with_reducible rfl)
      refine wpAnyH_take (i := 3) (v := .agg ca) rfl (by kernel_rfl) (by kernel_rfl) (by kernel_rfl) (fun _ _ _ h => h) (Or.inl ⟨by rfl, fun w' hw' => ?yP3⟩) HH.out ?_
      case yP3 => (rw [HCA.out]; exact exec_load_at 61 (.tmp 46) rfl (ad.add (j * 5)) rfl (HCL.out _ hw'.1) Try.underlying61 rfl (by kernel_rfl))
      refine wpAnyH_take (i := 4) (v := ?vP4) rfl (by kernel_rfl) (by kernel_rfl) (by kernel_rfl) (fun _ _ _ h => h) (Or.inl ⟨by rfl, fun w' _ => ?yP4⟩) HH.out ?_
      case yP4 => (go_simp; try with_reducible rfl)
      try simp only [List.getElem_toArray, List.getElem_cons_succ, List.getElem_cons_zero, Act.put, List.setIfInBounds_toArray, List.set_cons_zero, List.set_cons_succ]
      refine wpAnyH_take (i := 5) (v := .agg #[.pointer (some ⟨g1, 0, none⟩), .pointer (some ⟨g2, 0, none⟩)]) rfl (by kernel_rfl) (by kernel_rfl) (by kernel_rfl) (fun _ _ _ h => h) (Or.inl ⟨by rfl, fun w' hw' => ?yP5⟩) HH.out ?_
      case yP5 => exact exec_load 52 (.tmp 6) rfl rfl hw'.2 Try.underlying52 rfl (by kernel_rfl)
      refine wpAnyH_take (i := 6) (v := ?vP6) rfl (by kernel_rfl) (by kernel_rfl) (by kernel_rfl) (fun _ _ _ h => h) (Or.inl ⟨by rfl, fun w' _ => ?yP6⟩) HH.out ?_
      case yP6 => (go_simp; try with_reducible rfl)
      try simp only [List.getElem_toArray, List.getElem_cons_succ, List.getElem_cons_zero, Act.put, List.setIfInBounds_toArray, List.set_cons_zero, List.set_cons_succ]
      refine wpAnyH_ready (rs := [7]) (by kernel_rfl) (by simp) (AllReadyH.cons rfl (fun K hK => ?_) AllReadyH.nil)
      go_simp
      refine HPL.out.mono ?_
      rintro e w50 ⟨rfl, x', s', F', h1, h2, h3, h4⟩
      have HP' := Lib.hid h1
      have XP' := Lib.hid (XPd.out.step h3 h4)
      have HXN' := Lib.hid (h2.trans HXN.out)
      have hbw := B1.out.trans (h1.lm.live.bel.mono B1.out.size)
      go_simp
      refine hK.out _ _ ⟨hbw, XP'.out.1⟩ (fun hh => ?_)
      have HH' := Lib.hid hh
      clear hh hK K HH h1 h2 h3 h4 hbw
      have HH := Lib.hid HH'.out
      clear HH'
      try simp only [List.getElem_toArray, List.getElem_cons_succ, List.getElem_cons_zero, Act.put, List.setIfInBounds_toArray, List.set_cons_zero, List.set_cons_succ]
      refine wpAnyH_done (by kernel_rfl) ?_ _
      go_wp2_with fail
      go_roundw
      case rel => exact ⟨j + 1, x', s', F', by omega, by go_num, HP'.out, HXN'.out, XP'.out⟩
      case measure => (simp [intOf]; try omega)
    · obtain rfl : N = j := by omega
      obtain ⟨wo, hwo⟩ : ∃ v, v = wr := ⟨_, rfl⟩
      subst hwo
      have HM := Lib.hid HP.out.lm
      have XM := Lib.hid (show Bx w1 wo F b8 #[.pointer (some ⟨g1, 0, none⟩), .pointer (some ⟨g2, 0, none⟩)] 52 from ⟨XP.out.1, XP.out.2.1, XP.out.2.2.1⟩)
      clear HP XP hlt hj HRD HZZ HL HNB
      have q0 := XM.out.1.cell 0
      go_wp2_with fail
      have hc := lm_out0 HM.out false
      refine hc.mono ?_
      clear hc
      rintro e w4 ⟨rfl, s4, F4, h, hm4⟩
      have H4 := Lib.hid (show LM p1 g1 p2 g2 gG g w1 w4 s4 F4 (x.out 0 false) 0 from h)
      have X4 := Lib.hid (XM.out.step hm4)
      clear h hm4 HM XM
      clear q0
      have q1 := X4.out.1.cell 1
      go_wp2_with fail
      have hc := lm_out1 H4.out false
      refine hc.mono ?_
      clear hc
      rintro e w5 ⟨rfl, s5, F5, h, hm5⟩
      have H5 := Lib.hid (show LM p1 g1 p2 g2 gG g w1 w5 s5 F5 ((x.out 0 false).out 1 false) 0 from h)
      have X5 := Lib.hid (X4.out.step hm5)
      clear h hm5 H4 X4
      clear q1
      go_wp2_with fail
      have hc := lm_sync H5.out (show ((x.out 0 false).out 1 false).a.length ≤ 5000 from by show x.a.length ≤ 5000; rw [HXN.out]; have := HN12.out; omega)
      refine hc.mono ?_
      clear hc
      rintro e w6 ⟨rfl, s6, F6, h, hm6⟩
      have H6 := Lib.hid (show LM p1 g1 p2 g2 gG g w1 w6 s6 F6 (((x.out 0 false).out 1 false).sync goodN).2 0 from h)
      have X6 := Lib.hid (X5.out.step hm6)
      clear h hm6 H5 X5
      obtain ⟨xs, hxs⟩ : ∃ y, y = (((x.out 0 false).out 1 false).sync goodN).2 := ⟨_, rfl⟩
      have HY := Lib.hid (show xs.o0 = false ∧ xs.o1 = false ∧ xs.a.length = n from by
        have h1 := sync_in (f := goodN) (x := (x.out 0 false).out 1 false) rfl rfl
        rw [hxs]
        exact ⟨h1.1, h1.2, (sync_lenA _).trans HXN.out⟩)
      have HS := Lib.hid (show LM p1 g1 p2 g2 gG g w1 w6 s6 F6 xs 0 from by rw [hxs]; exact H6.out)
      clear hxs H6 X6
      go_wp2_with fail
      go_loopw [10, 11, 12, 13, 14, 15, 16, 17] (fun i _ _ _ _ _ _ _ wr => ∃ (j : Nat) (x : Md) (s : Mr (Two p1 g1 p2 g2)) (F : Nat → Prop), j ≤ n ∧ i = .int .i64 j ∧ LM p1 g1 p2 g2 gG g w1 wr s F x (2 * j) ∧ x.o0 = false ∧ x.o1 = false ∧ x.a.length = n) (fun i _ _ _ _ _ _ _ _ => n - (intOf i).toNat)
      case atStart => exact ⟨0, xs, s6, F6, Nat.zero_le _, rfl, HS.out, HY.out.1, HY.out.2.1, HY.out.2.2⟩
      case round =>
        clear HS HY
        obtain ⟨j, y, s, F, hj, rfl, hlm, h0, h1, hxl⟩ := hrel
        have HM := Lib.hid hlm
        by_cases hlt : j < n
        · have j0 : (0 : Int) ≤ (j : Int) := by omega
          have j1 : (j : Int) < (n : Int) := by omega
          have hn12 := HN12.out
          have HYL := Lib.hid hxl
          have HY0 := Lib.hid h0
          have HY1 := Lib.hid h1
          have h2 := heal_two goodN y j (by omega) h0 h1 hlm.sees.n0 hlm.sees.n1 (by have := hlm.sees.nb; omega)
          clear hlm h0 h1 hxl
          rcases h2 with ⟨he, hrd⟩ | ⟨q, y2, sv, hq, he1, he2, hrd, hbo, o0, o1, hyl⟩
          ·
            rw [← HZ0.out] at hrd
            have HE1 := Lib.hid he
            have HE2 := Lib.hid he
            have HRD := Lib.hid hrd
            clear he hrd
            go_wp2_with fail
            have hc := lm_heal HM.out (j : Int) (by omega)
            rw [show y.heal gG.f (j : Int) = ((2, 0), y) from HE1.out, show tup2 ((2 : Int), (0 : Int)) = .tuple #[.int .i64 2, .int .i64 0] from rfl] at hc
            refine hc.mono ?_
            clear hc
            rintro e w7 ⟨rfl, s7, F7, h, hm7⟩
            have H7 := Lib.hid (show LM p1 g1 p2 g2 gG g w1 w7 s7 F7 y (2 * j + 1) from h)
            clear h hm7 HM
            go_wp2_with fail
            have hc := lm_heal H7.out (j : Int) (by omega)
            rw [show y.heal gG.f (j : Int) = ((2, 0), y) from HE2.out, show tup2 ((2 : Int), (0 : Int)) = .tuple #[.int .i64 2, .int .i64 0] from rfl] at hc
            refine hc.mono ?_
            clear hc
            rintro e w8 ⟨rfl, s8, F8, h, hm8⟩
            have H8 := Lib.hid (show LM p1 g1 p2 g2 gG g w1 w8 s8 F8 y (2 * j + 1 + 1) from h)
            clear h hm8 H7
            have HV3 := Lib.hid (show z.length = 128 from by have h := lm_readlen H8.out (j : Int); rw [HRD.out] at h; exact h)
            have HIV := Lib.hid (show (Try.prog.info? 38).map (·.size) = some (bva z).size by rw [bva_size, HV3.out]; exact info_sec)
            go_wp2_with fail
            have hc := lm_read H8.out (j : Int)
            rw [show y.read gG.f (j : Int) = (z, 9) from HRD.out] at hc
            refine hc.mono ?_
            clear hc
            rintro e w9 ⟨rfl, s9, F9, h, hm9⟩
            have H9 := Lib.hid (show LM p1 g1 p2 g2 gG g w1 w9 s9 F9 y (2 * j + 1 + 1) from h)
            clear h hm9 H8
            go_wp2_with (show wpList _ _ _ ({ dst := none, op := .store 38 (.tmp 15) (.tmp 110), type := _, pos := _, after := _, guard := _ } :: _) _ _; apply Classical.byContradiction; intro hneg)
            refine hneg ?_
            clear hneg
            refine wpList_store_row rfl 38 (.tmp 15) (.tmp 110) rfl w9.heap.size (bva z) rfl rfl 38 (bva z) (heap_alloc_new _ _) HIV.out rfl (bva_one _) ?_
            obtain ⟨w10, hw10⟩ : ∃ w10, w10 = (w9.alloc (.cells (bva z) 38)).setRow w9.heap.size (bva z) := ⟨_, rfl⟩
            have bw : Below w9.heap.size w9 w10 := by rw [hw10]; exact below_setRow ((Below.refl _ _).alloc (Nat.le_refl _) _) (Nat.le_refl _) _
            have hbx : Blk w10 w9.heap.size (bva z) 38 := by rw [hw10]; exact setRow_heap _ _ _ _ _ _ (heap_alloc_new _ _)
            rw [← hw10]
            clear hw10
            obtain ⟨b10, hb10⟩ : ∃ b10, b10 = w9.heap.size := ⟨_, rfl⟩
            rw [← hb10] at hbx
            rw [← hb10]
            have S10 := Lib.hid (show Bx w1 w10 F9 b10 (bva z) 38 from ⟨hbx, by rw [hb10]; exact H9.out.live.bel.size, fun hf => by have := (ML (Two p1 g1 p2 g2) gG g).lt H9.out.live.at_ _ hf; omega⟩)
            clear hb10 hbx
            have H10 := Lib.hid (H9.out.below bw)
            clear bw H9
            go_wp2_with fail
            have hc := lm_both H10.out (j : Int)
            refine hc.mono ?_
            clear hc
            rintro e w11 ⟨A5, n5, c5, rfl, hlen, ho, bw⟩
            have H11 := Lib.hid (H10.out.below bw)
            have S11 := Lib.hid (S10.out.below bw)
            clear bw H10 S10
            clear hlen ho
            go_wp2_with fail
            go_roundw
            case rel => exact ⟨j + 1, y, s9, F9, by omega, by go_num, (show LM p1 g1 p2 g2 gG g w1 _ s9 F9 y (2 * (j + 1)) from H11.out), HY0.out, HY1.out, HYL.out⟩
            case measure => (simp [intOf]; try omega)
          · rcases hq with rfl | rfl
            ·
              have HE1 := Lib.hid he1
              have HE2 := Lib.hid he2
              have HRD := Lib.hid hrd
              have HBO := Lib.hid hbo
              have HO0 := Lib.hid o0
              have HO1 := Lib.hid o1
              have HYL2 := Lib.hid (hyl.trans HYL.out)
              clear he1 he2 hrd hbo o0 o1 hyl
              go_wp2_with fail
              have hc := lm_heal HM.out (j : Int) (by omega)
              rw [show y.heal gG.f (j : Int) = ((0, 0), y2) from HE1.out, show tup2 ((0 : Int), (0 : Int)) = .tuple #[.int .i64 0, .int .i64 0] from rfl] at hc
              refine hc.mono ?_
              clear hc
              rintro e w12 ⟨rfl, s12, F12, h, hm12⟩
              have H12 := Lib.hid (show LM p1 g1 p2 g2 gG g w1 w12 s12 F12 y2 (2 * j + 1) from h)
              clear h hm12 HM
              go_wp2_with fail
              have hc := lm_heal H12.out (j : Int) (by omega)
              rw [show y2.heal gG.f (j : Int) = ((0, 0), y2) from HE2.out, show tup2 ((0 : Int), (0 : Int)) = .tuple #[.int .i64 0, .int .i64 0] from rfl] at hc
              refine hc.mono ?_
              clear hc
              rintro e w13 ⟨rfl, s13, F13, h, hm13⟩
              have H13 := Lib.hid (show LM p1 g1 p2 g2 gG g w1 w13 s13 F13 y2 (2 * j + 1 + 1) from h)
              clear h hm13 H12
              have HV3 := Lib.hid (show sv.length = 128 from by have h := lm_readlen H13.out (j : Int); rw [HRD.out] at h; exact h)
              have HIV := Lib.hid (show (Try.prog.info? 38).map (·.size) = some (bva sv).size by rw [bva_size, HV3.out]; exact info_sec)
              go_wp2_with fail
              have hc := lm_read H13.out (j : Int)
              rw [show y2.read gG.f (j : Int) = (sv, 0) from HRD.out] at hc
              refine hc.mono ?_
              clear hc
              rintro e w14 ⟨rfl, s14, F14, h, hm14⟩
              have H14 := Lib.hid (show LM p1 g1 p2 g2 gG g w1 w14 s14 F14 y2 (2 * j + 1 + 1) from h)
              clear h hm14 H13
              go_wp2_with (show wpList _ _ _ ({ dst := none, op := .store 38 (.tmp 15) (.tmp 110), type := _, pos := _, after := _, guard := _ } :: _) _ _; apply Classical.byContradiction; intro hneg)
              refine hneg ?_
              clear hneg
              refine wpList_store_row rfl 38 (.tmp 15) (.tmp 110) rfl w14.heap.size (bva sv) rfl rfl 38 (bva z) (heap_alloc_new _ _) HIV.out (by rw [bva_size, bva_size, HV3.out, HZ3.out]) (bva_one _) ?_
              obtain ⟨w15, hw15⟩ : ∃ w15, w15 = (w14.alloc (.cells (bva z) 38)).setRow w14.heap.size (bva sv) := ⟨_, rfl⟩
              have bw : Below w14.heap.size w14 w15 := by rw [hw15]; exact below_setRow ((Below.refl _ _).alloc (Nat.le_refl _) _) (Nat.le_refl _) _
              have hbx : Blk w15 w14.heap.size (bva sv) 38 := by rw [hw15]; exact setRow_heap _ _ _ _ _ _ (heap_alloc_new _ _)
              rw [← hw15]
              clear hw15
              obtain ⟨b15, hb15⟩ : ∃ b15, b15 = w14.heap.size := ⟨_, rfl⟩
              rw [← hb15] at hbx
              rw [← hb15]
              have S15 := Lib.hid (show Bx w1 w15 F14 b15 (bva sv) 38 from ⟨hbx, by rw [hb15]; exact H14.out.live.bel.size, fun hf => by have := (ML (Two p1 g1 p2 g2) gG g).lt H14.out.live.at_ _ hf; omega⟩)
              clear hb15 hbx
              have H15 := Lib.hid (H14.out.below bw)
              clear bw H14
              go_wp2_with fail
              have hc := lm_both H15.out (j : Int)
              rw [show y2.both gG.f (j : Int) = [sv, sv] from HBO.out] at hc
              refine hc.mono ?_
              clear hc
              rintro e w16 ⟨A5, n5, c5, rfl, hlen, ho, bw⟩
              have H16 := Lib.hid (H15.out.below bw)
              have S16 := Lib.hid (S15.out.below bw)
              clear bw H15 S15
              obtain rfl : 2 = n5 := hlen
              have HROW := Lib.hid (Rd.ownN ho)
              clear ho
              go_upto_region 28 with fail
              obtain ⟨WB, hWB⟩ : ∃ v, v = w16 := ⟨_, rfl⟩
              have HWB := Lib.hid hWB
              obtain ⟨ad, hA, had0, had1⟩ := rd_sec HROW.out (fun x hx => by simp at hx; rw [hx]; exact HV3.out) (k := 0) (by simp)
              subst hA
              have C0 := Lib.hid (show ∀ w', Below w16.heap.size w16 w' → ∀ i v, (bv sv)[i]? = some v → w'.cell? ((ad.add (0 * 128)).add i) = some v from fun w' hb i v hv => by
                obtain ⟨a2, h1, _, h2⟩ := rd_sec (HROW.out.below hb) (fun x hx => by simp at hx; rw [hx]; exact HV3.out) (k := 0) (by simp)
                injection h1 with h1; subst h1
                exact h2 i v hv)
              have C1 := Lib.hid (show ∀ w', Below w16.heap.size w16 w' → ∀ i v, (bv sv)[i]? = some v → w'.cell? ((ad.add (1 * 128)).add i) = some v from fun w' hb i v hv => by
                obtain ⟨a2, h1, _, h2⟩ := rd_sec (HROW.out.below hb) (fun x hx => by simp at hx; rw [hx]; exact HV3.out) (k := 1) (by simp)
                injection h1 with h1; subst h1
                exact h2 i v hv)
              have hQ := eq_sec sv sv HV3.out HV3.out
              rw [decide_eq_true (rfl : sv = sv)] at hQ
              clear had0 had1 hWB
              have HL9 := Lib.hid H16.out
              refine wp_region_held_drew (S := (fun w' => Below w16.heap.size w16 w')) (by kernel_rfl) (Below.refl w16.heap.size w16).drew (fun hh => ?_)
              have HH := Lib.hid hh
              clear hh
              refine wpAnyH_take (i := 0) (v := ?vZ00) rfl (by kernel_rfl) (by kernel_rfl) (by kernel_rfl) (fun _ _ _ h => h) (Or.inl ⟨by rfl, fun w' _ => ?yZ00⟩) HH.out ?_
              case yZ00 => (go_simp; try with_reducible rfl)
              refine wpAnyH_take (i := 1) (v := ?vZ01) rfl (by kernel_rfl) (by kernel_rfl) (by kernel_rfl) (fun _ _ _ h => h) (Or.inl ⟨by rfl, fun w' _ => ?yZ01⟩) HH.out ?_
              case yZ01 => (go_simp; try with_reducible rfl)
              try simp only [List.getElem_toArray, List.getElem_cons_succ, List.getElem_cons_zero, Act.put, List.setIfInBounds_toArray, List.set_cons_zero, List.set_cons_succ]
              refine wpAnyH_take (i := 2) (v := ?vZ02) rfl (by kernel_rfl) (by kernel_rfl) (by kernel_rfl) (fun _ _ _ h => h) (Or.inl ⟨by rfl, fun w' _ => ?yZ02⟩) HH.out ?_
              case yZ02 => (go_simp; try with_reducible rfl)
              refine wpAnyH_take (i := 3) (v := ?vZ03) rfl (by kernel_rfl) (by kernel_rfl) (by kernel_rfl) (fun _ _ _ h => h) (Or.inl ⟨by rfl, fun w' _ => ?yZ03⟩) HH.out ?_
              case yZ03 => (go_simp; try with_reducible rfl)
              refine wpAnyH_take (i := 4) (v := ?vZ04) rfl (by kernel_rfl) (by kernel_rfl) (by kernel_rfl) (fun _ _ _ h => h) (Or.inl ⟨by rfl, fun w' _ => ?yZ04⟩) HH.out ?_
              case yZ04 => (go_simp; try with_reducible rfl)
              try simp only [List.getElem_toArray, List.getElem_cons_succ, List.getElem_cons_zero, Act.put, List.setIfInBounds_toArray, List.set_cons_zero, List.set_cons_succ]
              refine wpAnyH_take (i := 5) (v := ?vZ05) rfl (by kernel_rfl) (by kernel_rfl) (by kernel_rfl) (fun _ _ _ h => h) (Or.inl ⟨by rfl, fun w' _ => ?yZ05⟩) HH.out ?_
              case yZ05 => (go_simp; try with_reducible rfl)
              try simp only [List.getElem_toArray, List.getElem_cons_succ, List.getElem_cons_zero, Act.put, List.setIfInBounds_toArray, List.set_cons_zero, List.set_cons_succ]
              refine wpAnyH_take (i := 6) (v := ?vZ06) rfl (by kernel_rfl) (by kernel_rfl) (by kernel_rfl) (fun _ _ _ h => h) (Or.inl ⟨by rfl, fun w' _ => ?yZ06⟩) HH.out ?_
              case yZ06 => (go_simp; try with_reducible rfl)
              try simp only [List.getElem_toArray, List.getElem_cons_succ, List.getElem_cons_zero, Act.put, List.setIfInBounds_toArray, List.set_cons_zero, List.set_cons_succ]
              refine wpAnyH_take (i := 7) (v := ?vZ07) rfl (by kernel_rfl) (by kernel_rfl) (by kernel_rfl) (fun _ _ _ h => h) (Or.inl ⟨by rfl, fun w' _ => ?yZ07⟩) HH.out ?_
              case yZ07 => (go_simp; try with_reducible rfl)
              try simp only [List.getElem_toArray, List.getElem_cons_succ, List.getElem_cons_zero, Act.put, List.setIfInBounds_toArray, List.set_cons_zero, List.set_cons_succ]
              refine wpAnyH_take (i := 8) (v := ?vZ08) rfl (by kernel_rfl) (by kernel_rfl) (by kernel_rfl) (fun _ _ _ h => h) (Or.inl ⟨by rfl, fun w' _ => ?yZ08⟩) HH.out ?_
              case yZ08 => (go_simp; try with_reducible rfl)
              refine wpAnyH_take (i := 9) (v := ?vZ09) rfl (by kernel_rfl) (by kernel_rfl) (by kernel_rfl) (fun _ _ _ h => h) (Or.inl ⟨by rfl, fun w' _ => ?yZ09⟩) HH.out ?_
              case yZ09 => (go_simp; try with_reducible rfl)
              refine wpAnyH_take (i := 10) (v := .agg (bva sv)) rfl (by kernel_rfl) (by kernel_rfl) (by kernel_rfl) (fun _ _ _ h => h) (Or.inl ⟨by rfl, fun w' hw' => ?yZ010⟩) HH.out ?_
              case yZ010 => exact exec_load_at 38 (.tmp 128) rfl (ad.add (0 * 128)) rfl (C0.out _ hw') Try.underlying38 rfl (by rw [bv_length, HV3.out]; exact info_sec)
              try simp only [List.getElem_toArray, List.getElem_cons_succ, List.getElem_cons_zero, Act.put, List.setIfInBounds_toArray, List.set_cons_zero, List.set_cons_succ]
              refine wpAnyH_take (i := 11) (v := .agg (bva sv)) rfl (by kernel_rfl) (by kernel_rfl) (by kernel_rfl) (fun _ _ _ h => h) (Or.inl ⟨by rfl, fun w' hw' => ?yZ011⟩) HH.out ?_
              case yZ011 => exact exec_load 38 (.tmp 15) rfl rfl (S16.out.1.below hw') Try.underlying38 rfl HIV.out
              refine wpAnyH_take (i := 12) (v := ?vZ012) rfl (by kernel_rfl) (by kernel_rfl) (by kernel_rfl) (fun _ _ _ h => h) (Or.inl ⟨by rfl, fun w' _ => ?yZ012⟩) HH.out ?_
              case yZ012 => (go_simp; try with_reducible rfl)
              try simp only [List.getElem_toArray, List.getElem_cons_succ, List.getElem_cons_zero, Act.put, List.setIfInBounds_toArray, List.set_cons_zero, List.set_cons_succ]
              refine wpAnyH_take (i := 13) (v := ?vZ013) rfl (by kernel_rfl) (by kernel_rfl) (by kernel_rfl) (fun _ _ _ h => h) (Or.inl ⟨by rfl, fun w' _ => ?yZ013⟩) HH.out ?_
              case yZ013 => (go_simp; try with_reducible rfl)
              try simp only [List.getElem_toArray, List.getElem_cons_succ, List.getElem_cons_zero, Act.put, List.setIfInBounds_toArray, List.set_cons_zero, List.set_cons_succ]
              refine wpAnyH_take (i := 14) (v := ?vZ014) rfl (by kernel_rfl) (by kernel_rfl) (by kernel_rfl) (fun _ _ _ h => h) (Or.inl ⟨by rfl, fun w' _ => ?yZ014⟩) HH.out ?_
              case yZ014 => (go_simp; try with_reducible rfl)
              refine wpAnyH_take (i := 15) (v := ?vZ015) rfl (by kernel_rfl) (by kernel_rfl) (by kernel_rfl) (fun _ _ _ h => h) (Or.inl ⟨by rfl, fun w' _ => ?yZ015⟩) HH.out ?_
              case yZ015 => (go_simp; try with_reducible rfl)
              refine wpAnyH_take (i := 16) (v := ?vZ016) rfl (by kernel_rfl) (by kernel_rfl) (by kernel_rfl) (fun _ _ _ h => h) (Or.inl ⟨by rfl, fun w' _ => ?yZ016⟩) HH.out ?_
              case yZ016 => (go_simp; try with_reducible rfl)
              try simp only [List.getElem_toArray, List.getElem_cons_succ, List.getElem_cons_zero, Act.put, List.setIfInBounds_toArray, List.set_cons_zero, List.set_cons_succ]
              refine wpAnyH_take (i := 17) (v := .agg (bva sv)) rfl (by kernel_rfl) (by kernel_rfl) (by kernel_rfl) (fun _ _ _ h => h) (Or.inl ⟨by rfl, fun w' hw' => ?yZ017⟩) HH.out ?_
              case yZ017 => exact exec_load_at 38 (.tmp 135) rfl (ad.add (1 * 128)) rfl (C1.out _ hw') Try.underlying38 rfl (by rw [bv_length, HV3.out]; exact info_sec)
              refine wpAnyH_take (i := 18) (v := .agg (bva sv)) rfl (by kernel_rfl) (by kernel_rfl) (by kernel_rfl) (fun _ _ _ h => h) (Or.inl ⟨by rfl, fun w' hw' => ?yZ018⟩) HH.out ?_
              case yZ018 => exact exec_load 38 (.tmp 15) rfl rfl (S16.out.1.below hw') Try.underlying38 rfl HIV.out
              refine wpAnyH_take (i := 19) (v := ?vZ019) rfl (by kernel_rfl) (by kernel_rfl) (by kernel_rfl) (fun _ _ _ h => h) (Or.inl ⟨by rfl, fun w' _ => ?yZ019⟩) HH.out ?_
              case yZ019 => (go_simp; try with_reducible rfl)
              try simp only [List.getElem_toArray, List.getElem_cons_succ, List.getElem_cons_zero, Act.put, List.setIfInBounds_toArray, List.set_cons_zero, List.set_cons_succ]
              refine wpAnyH_take (i := 20) (v := ?vZ020) rfl (by kernel_rfl) (by kernel_rfl) (by kernel_rfl) (fun _ _ _ h => h) (Or.inl ⟨by rfl, fun w' _ => ?yZ020⟩) HH.out ?_
              case yZ020 => (go_simp; try with_reducible rfl)
              try simp only [List.getElem_toArray, List.getElem_cons_succ, List.getElem_cons_zero, Act.put, List.setIfInBounds_toArray, List.set_cons_zero, List.set_cons_succ]
              refine wpAnyH_done (by kernel_rfl) ?_ _
              have HEND := Lib.hid (HL9.out.below HH.out)
              go_wp2_with fail
              go_roundw
              case rel => exact ⟨j + 1, y2, s14, F14, by omega, by go_num, (show LM p1 g1 p2 g2 gG g w1 _ s14 F14 y2 (2 * (j + 1)) from HEND.out), HO0.out, HO1.out, HYL2.out⟩
              case measure => (simp [intOf]; try omega)
            ·
              have HE1 := Lib.hid he1
              have HE2 := Lib.hid he2
              have HRD := Lib.hid hrd
              have HBO := Lib.hid hbo
              have HO0 := Lib.hid o0
              have HO1 := Lib.hid o1
              have HYL2 := Lib.hid (hyl.trans HYL.out)
              clear he1 he2 hrd hbo o0 o1 hyl
              go_wp2_with fail
              have hc := lm_heal HM.out (j : Int) (by omega)
              rw [show y.heal gG.f (j : Int) = ((1, 0), y2) from HE1.out, show tup2 ((1 : Int), (0 : Int)) = .tuple #[.int .i64 1, .int .i64 0] from rfl] at hc
              refine hc.mono ?_
              clear hc
              rintro e w17 ⟨rfl, s17, F17, h, hm17⟩
              have H17 := Lib.hid (show LM p1 g1 p2 g2 gG g w1 w17 s17 F17 y2 (2 * j + 1) from h)
              clear h hm17 HM
              go_wp2_with fail
              have hc := lm_heal H17.out (j : Int) (by omega)
              rw [show y2.heal gG.f (j : Int) = ((0, 0), y2) from HE2.out, show tup2 ((0 : Int), (0 : Int)) = .tuple #[.int .i64 0, .int .i64 0] from rfl] at hc
              refine hc.mono ?_
              clear hc
              rintro e w18 ⟨rfl, s18, F18, h, hm18⟩
              have H18 := Lib.hid (show LM p1 g1 p2 g2 gG g w1 w18 s18 F18 y2 (2 * j + 1 + 1) from h)
              clear h hm18 H17
              have HV3 := Lib.hid (show sv.length = 128 from by have h := lm_readlen H18.out (j : Int); rw [HRD.out] at h; exact h)
              have HIV := Lib.hid (show (Try.prog.info? 38).map (·.size) = some (bva sv).size by rw [bva_size, HV3.out]; exact info_sec)
              go_wp2_with fail
              have hc := lm_read H18.out (j : Int)
              rw [show y2.read gG.f (j : Int) = (sv, 0) from HRD.out] at hc
              refine hc.mono ?_
              clear hc
              rintro e w19 ⟨rfl, s19, F19, h, hm19⟩
              have H19 := Lib.hid (show LM p1 g1 p2 g2 gG g w1 w19 s19 F19 y2 (2 * j + 1 + 1) from h)
              clear h hm19 H18
              go_wp2_with (show wpList _ _ _ ({ dst := none, op := .store 38 (.tmp 15) (.tmp 110), type := _, pos := _, after := _, guard := _ } :: _) _ _; apply Classical.byContradiction; intro hneg)
              refine hneg ?_
              clear hneg
              refine wpList_store_row rfl 38 (.tmp 15) (.tmp 110) rfl w19.heap.size (bva sv) rfl rfl 38 (bva z) (heap_alloc_new _ _) HIV.out (by rw [bva_size, bva_size, HV3.out, HZ3.out]) (bva_one _) ?_
              obtain ⟨w20, hw20⟩ : ∃ w20, w20 = (w19.alloc (.cells (bva z) 38)).setRow w19.heap.size (bva sv) := ⟨_, rfl⟩
              have bw : Below w19.heap.size w19 w20 := by rw [hw20]; exact below_setRow ((Below.refl _ _).alloc (Nat.le_refl _) _) (Nat.le_refl _) _
              have hbx : Blk w20 w19.heap.size (bva sv) 38 := by rw [hw20]; exact setRow_heap _ _ _ _ _ _ (heap_alloc_new _ _)
              rw [← hw20]
              clear hw20
              obtain ⟨b20, hb20⟩ : ∃ b20, b20 = w19.heap.size := ⟨_, rfl⟩
              rw [← hb20] at hbx
              rw [← hb20]
              have S20 := Lib.hid (show Bx w1 w20 F19 b20 (bva sv) 38 from ⟨hbx, by rw [hb20]; exact H19.out.live.bel.size, fun hf => by have := (ML (Two p1 g1 p2 g2) gG g).lt H19.out.live.at_ _ hf; omega⟩)
              clear hb20 hbx
              have H20 := Lib.hid (H19.out.below bw)
              clear bw H19
              go_wp2_with fail
              have hc := lm_both H20.out (j : Int)
              rw [show y2.both gG.f (j : Int) = [sv, sv] from HBO.out] at hc
              refine hc.mono ?_
              clear hc
              rintro e w21 ⟨A5, n5, c5, rfl, hlen, ho, bw⟩
              have H21 := Lib.hid (H20.out.below bw)
              have S21 := Lib.hid (S20.out.below bw)
              clear bw H20 S20
              obtain rfl : 2 = n5 := hlen
              have HROW := Lib.hid (Rd.ownN ho)
              clear ho
              go_upto_region 28 with fail
              obtain ⟨WB, hWB⟩ : ∃ v, v = w21 := ⟨_, rfl⟩
              have HWB := Lib.hid hWB
              obtain ⟨ad, hA, had0, had1⟩ := rd_sec HROW.out (fun x hx => by simp at hx; rw [hx]; exact HV3.out) (k := 0) (by simp)
              subst hA
              have C0 := Lib.hid (show ∀ w', Below w21.heap.size w21 w' → ∀ i v, (bv sv)[i]? = some v → w'.cell? ((ad.add (0 * 128)).add i) = some v from fun w' hb i v hv => by
                obtain ⟨a2, h1, _, h2⟩ := rd_sec (HROW.out.below hb) (fun x hx => by simp at hx; rw [hx]; exact HV3.out) (k := 0) (by simp)
                injection h1 with h1; subst h1
                exact h2 i v hv)
              have C1 := Lib.hid (show ∀ w', Below w21.heap.size w21 w' → ∀ i v, (bv sv)[i]? = some v → w'.cell? ((ad.add (1 * 128)).add i) = some v from fun w' hb i v hv => by
                obtain ⟨a2, h1, _, h2⟩ := rd_sec (HROW.out.below hb) (fun x hx => by simp at hx; rw [hx]; exact HV3.out) (k := 1) (by simp)
                injection h1 with h1; subst h1
                exact h2 i v hv)
              have hQ := eq_sec sv sv HV3.out HV3.out
              rw [decide_eq_true (rfl : sv = sv)] at hQ
              clear had0 had1 hWB
              have HL9 := Lib.hid H21.out
              refine wp_region_held_drew (S := (fun w' => Below w21.heap.size w21 w')) (by kernel_rfl) (Below.refl w21.heap.size w21).drew (fun hh => ?_)
              have HH := Lib.hid hh
              clear hh
              refine wpAnyH_take (i := 0) (v := ?vZ10) rfl (by kernel_rfl) (by kernel_rfl) (by kernel_rfl) (fun _ _ _ h => h) (Or.inl ⟨by rfl, fun w' _ => ?yZ10⟩) HH.out ?_
              case yZ10 => (go_simp; try with_reducible rfl)
              refine wpAnyH_take (i := 1) (v := ?vZ11) rfl (by kernel_rfl) (by kernel_rfl) (by kernel_rfl) (fun _ _ _ h => h) (Or.inl ⟨by rfl, fun w' _ => ?yZ11⟩) HH.out ?_
              case yZ11 => (go_simp; try with_reducible rfl)
              try simp only [List.getElem_toArray, List.getElem_cons_succ, List.getElem_cons_zero, Act.put, List.setIfInBounds_toArray, List.set_cons_zero, List.set_cons_succ]
              refine wpAnyH_take (i := 2) (v := ?vZ12) rfl (by kernel_rfl) (by kernel_rfl) (by kernel_rfl) (fun _ _ _ h => h) (Or.inl ⟨by rfl, fun w' _ => ?yZ12⟩) HH.out ?_
              case yZ12 => (go_simp; try with_reducible rfl)
              refine wpAnyH_take (i := 3) (v := ?vZ13) rfl (by kernel_rfl) (by kernel_rfl) (by kernel_rfl) (fun _ _ _ h => h) (Or.inl ⟨by rfl, fun w' _ => ?yZ13⟩) HH.out ?_
              case yZ13 => (go_simp; try with_reducible rfl)
              refine wpAnyH_take (i := 4) (v := ?vZ14) rfl (by kernel_rfl) (by kernel_rfl) (by kernel_rfl) (fun _ _ _ h => h) (Or.inl ⟨by rfl, fun w' _ => ?yZ14⟩) HH.out ?_
              case yZ14 => (go_simp; try with_reducible rfl)
              try simp only [List.getElem_toArray, List.getElem_cons_succ, List.getElem_cons_zero, Act.put, List.setIfInBounds_toArray, List.set_cons_zero, List.set_cons_succ]
              refine wpAnyH_take (i := 5) (v := ?vZ15) rfl (by kernel_rfl) (by kernel_rfl) (by kernel_rfl) (fun _ _ _ h => h) (Or.inl ⟨by rfl, fun w' _ => ?yZ15⟩) HH.out ?_
              case yZ15 => (go_simp; try with_reducible rfl)
              try simp only [List.getElem_toArray, List.getElem_cons_succ, List.getElem_cons_zero, Act.put, List.setIfInBounds_toArray, List.set_cons_zero, List.set_cons_succ]
              refine wpAnyH_take (i := 6) (v := ?vZ16) rfl (by kernel_rfl) (by kernel_rfl) (by kernel_rfl) (fun _ _ _ h => h) (Or.inl ⟨by rfl, fun w' _ => ?yZ16⟩) HH.out ?_
              case yZ16 => (go_simp; try with_reducible rfl)
              try simp only [List.getElem_toArray, List.getElem_cons_succ, List.getElem_cons_zero, Act.put, List.setIfInBounds_toArray, List.set_cons_zero, List.set_cons_succ]
              refine wpAnyH_take (i := 7) (v := ?vZ17) rfl (by kernel_rfl) (by kernel_rfl) (by kernel_rfl) (fun _ _ _ h => h) (Or.inl ⟨by rfl, fun w' _ => ?yZ17⟩) HH.out ?_
              case yZ17 => (go_simp; try with_reducible rfl)
              try simp only [List.getElem_toArray, List.getElem_cons_succ, List.getElem_cons_zero, Act.put, List.setIfInBounds_toArray, List.set_cons_zero, List.set_cons_succ]
              refine wpAnyH_take (i := 8) (v := ?vZ18) rfl (by kernel_rfl) (by kernel_rfl) (by kernel_rfl) (fun _ _ _ h => h) (Or.inl ⟨by rfl, fun w' _ => ?yZ18⟩) HH.out ?_
              case yZ18 => (go_simp; try with_reducible rfl)
              refine wpAnyH_take (i := 9) (v := ?vZ19) rfl (by kernel_rfl) (by kernel_rfl) (by kernel_rfl) (fun _ _ _ h => h) (Or.inl ⟨by rfl, fun w' _ => ?yZ19⟩) HH.out ?_
              case yZ19 => (go_simp; try with_reducible rfl)
              refine wpAnyH_take (i := 10) (v := .agg (bva sv)) rfl (by kernel_rfl) (by kernel_rfl) (by kernel_rfl) (fun _ _ _ h => h) (Or.inl ⟨by rfl, fun w' hw' => ?yZ110⟩) HH.out ?_
              case yZ110 => exact exec_load_at 38 (.tmp 128) rfl (ad.add (0 * 128)) rfl (C0.out _ hw') Try.underlying38 rfl (by rw [bv_length, HV3.out]; exact info_sec)
              try simp only [List.getElem_toArray, List.getElem_cons_succ, List.getElem_cons_zero, Act.put, List.setIfInBounds_toArray, List.set_cons_zero, List.set_cons_succ]
              refine wpAnyH_take (i := 11) (v := .agg (bva sv)) rfl (by kernel_rfl) (by kernel_rfl) (by kernel_rfl) (fun _ _ _ h => h) (Or.inl ⟨by rfl, fun w' hw' => ?yZ111⟩) HH.out ?_
              case yZ111 => exact exec_load 38 (.tmp 15) rfl rfl (S21.out.1.below hw') Try.underlying38 rfl HIV.out
              refine wpAnyH_take (i := 12) (v := ?vZ112) rfl (by kernel_rfl) (by kernel_rfl) (by kernel_rfl) (fun _ _ _ h => h) (Or.inl ⟨by rfl, fun w' _ => ?yZ112⟩) HH.out ?_
              case yZ112 => (go_simp; try with_reducible rfl)
              try simp only [List.getElem_toArray, List.getElem_cons_succ, List.getElem_cons_zero, Act.put, List.setIfInBounds_toArray, List.set_cons_zero, List.set_cons_succ]
              refine wpAnyH_take (i := 13) (v := ?vZ113) rfl (by kernel_rfl) (by kernel_rfl) (by kernel_rfl) (fun _ _ _ h => h) (Or.inl ⟨by rfl, fun w' _ => ?yZ113⟩) HH.out ?_
              case yZ113 => (go_simp; try with_reducible rfl)
              try simp only [List.getElem_toArray, List.getElem_cons_succ, List.getElem_cons_zero, Act.put, List.setIfInBounds_toArray, List.set_cons_zero, List.set_cons_succ]
              refine wpAnyH_take (i := 14) (v := ?vZ114) rfl (by kernel_rfl) (by kernel_rfl) (by kernel_rfl) (fun _ _ _ h => h) (Or.inl ⟨by rfl, fun w' _ => ?yZ114⟩) HH.out ?_
              case yZ114 => (go_simp; try with_reducible rfl)
              refine wpAnyH_take (i := 15) (v := ?vZ115) rfl (by kernel_rfl) (by kernel_rfl) (by kernel_rfl) (fun _ _ _ h => h) (Or.inl ⟨by rfl, fun w' _ => ?yZ115⟩) HH.out ?_
              case yZ115 => (go_simp; try with_reducible rfl)
              refine wpAnyH_take (i := 16) (v := ?vZ116) rfl (by kernel_rfl) (by kernel_rfl) (by kernel_rfl) (fun _ _ _ h => h) (Or.inl ⟨by rfl, fun w' _ => ?yZ116⟩) HH.out ?_
              case yZ116 => (go_simp; try with_reducible rfl)
              try simp only [List.getElem_toArray, List.getElem_cons_succ, List.getElem_cons_zero, Act.put, List.setIfInBounds_toArray, List.set_cons_zero, List.set_cons_succ]
              refine wpAnyH_take (i := 17) (v := .agg (bva sv)) rfl (by kernel_rfl) (by kernel_rfl) (by kernel_rfl) (fun _ _ _ h => h) (Or.inl ⟨by rfl, fun w' hw' => ?yZ117⟩) HH.out ?_
              case yZ117 => exact exec_load_at 38 (.tmp 135) rfl (ad.add (1 * 128)) rfl (C1.out _ hw') Try.underlying38 rfl (by rw [bv_length, HV3.out]; exact info_sec)
              refine wpAnyH_take (i := 18) (v := .agg (bva sv)) rfl (by kernel_rfl) (by kernel_rfl) (by kernel_rfl) (fun _ _ _ h => h) (Or.inl ⟨by rfl, fun w' hw' => ?yZ118⟩) HH.out ?_
              case yZ118 => exact exec_load 38 (.tmp 15) rfl rfl (S21.out.1.below hw') Try.underlying38 rfl HIV.out
              refine wpAnyH_take (i := 19) (v := ?vZ119) rfl (by kernel_rfl) (by kernel_rfl) (by kernel_rfl) (fun _ _ _ h => h) (Or.inl ⟨by rfl, fun w' _ => ?yZ119⟩) HH.out ?_
              case yZ119 => (go_simp; try with_reducible rfl)
              try simp only [List.getElem_toArray, List.getElem_cons_succ, List.getElem_cons_zero, Act.put, List.setIfInBounds_toArray, List.set_cons_zero, List.set_cons_succ]
              refine wpAnyH_take (i := 20) (v := ?vZ120) rfl (by kernel_rfl) (by kernel_rfl) (by kernel_rfl) (fun _ _ _ h => h) (Or.inl ⟨by rfl, fun w' _ => ?yZ120⟩) HH.out ?_
              case yZ120 => (go_simp; try with_reducible rfl)
              try simp only [List.getElem_toArray, List.getElem_cons_succ, List.getElem_cons_zero, Act.put, List.setIfInBounds_toArray, List.set_cons_zero, List.set_cons_succ]
              refine wpAnyH_done (by kernel_rfl) ?_ _
              have HEND := Lib.hid (HL9.out.below HH.out)
              go_wp2_with fail
              go_roundw
              case rel => exact ⟨j + 1, y2, s19, F19, by omega, by go_num, (show LM p1 g1 p2 g2 gG g w1 _ s19 F19 y2 (2 * (j + 1)) from HEND.out), HO0.out, HO1.out, HYL2.out⟩
              case measure => (simp [intOf]; try omega)
        · obtain rfl : n = j := by omega
          go_wp2_with fail
          go_ret
          exact ⟨rfl, B1.out.trans (HM.out.live.bel.mono B1.out.size)⟩
theorem mirrorHeals_own : ownKnob Try.prog.godebug = none := by kernel_rfl
theorem mirrorHeals_laid : laidOutB Try.prog = true := by kernel_rfl

set_option maxRecDepth 100000 in
theorem mirrorHeals_lifted (os : Os) (started : os.Started) (H : Type) (enc : TypeId × Value → H) :
    ReturnsInHanded {} Try.checked os 5 .any (Rows.mirrorHealsSpec.pre6 enc Try.prog Try.f5 Rows.mirrorHealsRow.domain false) (Rows.mirrorHealsSpec.post enc Try.prog Try.f5 false true false false) := by
  refine returnsInHanded_of_change (C := Try.checked) mirrorHeals_own started (by kernel_rfl) Try.func5
    (ChangeSpec.witness6 (enc := enc) (C := Try.checked) false ⟨#[], #[.int .u8 0, .slice none 0 0], []⟩ 8 (by kernel_rfl) (by kernel_rfl) (by kernel_rfl) (by kernel_rfl)) ?_
  intro W base args ds gs before hval0 hW _ _
  have hval : ∀ (j : Nat) t v, Try.f5.params[j]? = some t → args[j]? = some v → Value.okWide Try.prog W .any base t v := hval0
  have hW' := hW
  obtain ⟨p, q, hA0, hV, rfl, hfz, hnd⟩ := hW
  have hA : DataW.TrodAll enc Try.prog W 0 (fun _ => true) true Try.f5.params.toList args.toList ds p := hA0
  rw [Try.params5] at hA hval
  obtain ⟨v0, vs0, d0, ds0, p0, q0, hargs, rfl, rfl, h0, r0⟩ := trodAll_cons hA
  obtain ⟨v1, vs1, d1, ds1, p1, q1, rfl, rfl, rfl, h1, r1⟩ := trodAll_cons r0
  obtain ⟨rfl, rfl, rfl⟩ := trodAll_nil r1
  obtain rfl : args = #[v0, v1] := by cases args; simp_all
  obtain ⟨rfl, rfl⟩ := trodVars_none hV
  obtain ⟨a0, rfl, rfl, rfl, w0⟩ := open_int Try.underlying5 (hval 0 5 v0 rfl rfl) h0
  have b0 := bounds_u8 w0
  obtain ⟨a1, n1, c1, rfl⟩ := okWide_slice Try.underlying51 (hval 1 51 v1 rfl rfl)
  have lt1 : ∀ x ∈ p1, x.block < W.heap.size := by obtain ⟨m, hm⟩ := h1; exact DataW.trod_lt m _ _ _ hm
  obtain ⟨l1, hl1, hc1, hm1, hr1, hz1⟩ := Mi.open_acts h1
  clear hA0 hval0
  refine (mirrorHeals_any W a0 b0 a1 n1 c1 l1 hl1 hc1 hm1 hr1 hz1).mono fun e W' ⟨he, bel⟩ => ?_
  subst he
  exact ⟨_, rfl, _, _, _, [], _, [], hW', trodAll_mk1 (shut_bool Try.underlying4 _), (trodAll_cons_mk (shut_int Try.underlying5 w0) (trodAll_cons_mk (Below.trod mirrorHeals_laid (by kernel_rfl) (of_decide_eq_true (by kernel_rfl)) h1 bel lt1) trodAll_mk0)), rfl, bel.frame _, fun h => by cases h⟩

theorem mirrorHeals_holds : Rows.MirrorHealsSaid :=
  OpenClaim.holds_of_wide 5 Try.f5 rfl rfl rfl rfl rfl rfl rfl ⟨rfl, rfl, rfl, rfl, rfl⟩ rfl rfl rfl rfl rfl (by kernel_rfl) Try.func5 (by kernel_rfl)
    (of_decide_eq_true (by kernel_rfl)) (by unfold Func.isWrapper; rw [if_neg (of_decide_eq_false (by kernel_rfl))]; exact ⟨rfl, rfl⟩)
    (fun os started H enc _ => mirrorHeals_lifted os started H enc)

#print axioms mirrorHeals_holds

end Go.Proofs.Ytdjiagcnaogebaa
