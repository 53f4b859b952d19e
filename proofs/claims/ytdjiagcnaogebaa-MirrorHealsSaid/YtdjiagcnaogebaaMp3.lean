/-
  Texts of this seat, one behind the other: MiSync, Open, KdDeed, KdLieP, MiBoth, MiRead, MiRepeat, MiNew, MiMd, MiMd2, MiMd3, MiLaw, MrRef, MrSet, MrWrite, MiGood.
-/
import Derived.Deep.Slices
import Derived.OpenShut
import Derived.Laws.Bits64b
import Derived.OrdersHeld
import Derived.Deep.RegionHeld
import Derived.Test.YtdjiagcnaogebaaMp2
/-
  The contracts of catchUp and Sync.
-/
namespace Go.Proofs.Ytdjiagcnaogebaa.Mi
open Go.RowKit Kd
attribute [local go_sem ↓] Go.wp_at_zero Go.wp_at_succ
section
variable {C : Duo} {G : Gd} {g : Nat} {w : World} {s : Mr C} {F : Nat → Prop}
/-- One place of a device catches up. -/
def Mr.catch1 (G : Gd) (s : Mr C) (i n : Nat) : Mr C := if (s.st i).getD n false && right C G s (1 - i) n then (s.mend i n (rightV C G s (1 - i) n)).2 else s
def Mr.catchTo (G : Gd) (s : Mr C) (i : Nat) : Nat → Mr C
  | 0 => s
  | n + 1 => (s.catchTo G i n).catch1 G i n
theorem mend_ok {k i n : Nat} {x : List UInt8} (h : s.ok k) : (s.mend i n x).2.ok k := by
  unfold Mr.mend; dsimp only; split
  · exact Mr.ok.put h
  · exact h
theorem mend_most {i n : Nat} {x : List UInt8} (hi : i < 2) : C.most (s.mend i n x).2.d ≤ C.most s.d + 1 := by
  unfold Mr.mend; dsimp only; split
  · rw [put_d]; exact C.wr_most hi
  · exact C.wr_most hi
theorem catch1_ok {k i n : Nat} (h : s.ok k) : (s.catch1 G i n).ok k := by
  unfold Mr.catch1; split
  · exact mend_ok h
  · exact h
theorem catch1_most {i n : Nat} (hi : i < 2) : C.most (s.catch1 G i n).d ≤ C.most s.d + 1 := by
  unfold Mr.catch1; split
  · exact mend_most hi
  · exact Nat.le_succ _
theorem catchTo_ok {k i : Nat} (h : s.ok k) : ∀ n, (s.catchTo G i n).ok k
  | 0 => h
  | n + 1 => catch1_ok (catchTo_ok h n)
theorem catchTo_most {i : Nat} (hi : i < 2) : ∀ n, C.most (s.catchTo G i n).d ≤ C.most s.d + n
  | 0 => Nat.le_refl _
  | n + 1 => Nat.le_trans (catch1_most hi) (by have := catchTo_most hi n; omega)
theorem pin_cell {A B : Option Addr} {n c m e : Nat} {w : World} {s : Mr C} (h : (ML C (G.at A n c B m e) g).At w s F) {i : Nat} (hi : i < 2) :
    w.cell? ⟨g, 2 + i, none⟩ = some (if i = 0 then .slice A n c else .slice B m e) ∧ (s.st i).length = (if i = 0 then n else m) := by
  obtain ⟨A', n', c', B', m', e', F1, h, _⟩ := h
  obtain ⟨rfl, rfl, rfl, rfl, rfl, rfl⟩ := h.pin
  rcases two hi with rfl | rfl
  · exact ⟨h.blk.cell 2, h.an⟩
  · exact ⟨h.blk.cell 3, h.bn⟩
set_option maxRecDepth 100000 in
set_option maxHeartbeats 12800000 in
theorem catch_any (h : (ML C G g).At w s F) {k : Nat} (hk : s.ok k) (hkm : k ≤ 5000) {i : Nat} (hi : i < 2) (hm : C.most s.d < 800000) : Calls Try.prog 73 #[.pointer (some ⟨g, 0, none⟩), .int .i64 i] w (RetA (ML C G g) (.tuple #[]) (s.catchTo G i k) F w) := by
  obtain ⟨A, n, c, B, m, e, hR, hp⟩ := ml_pin h
  obtain ⟨G', hG'⟩ : ∃ G', G' = G.at A n c B m e := ⟨_, rfl⟩
  have HUN := Lib.hid (show ∀ w' s' F', Mv (ML C G' g) w F w' s' F' → Mv (ML C G g) w F w' s' F' from fun _ _ _ h => mv_unpin hR (by rw [← hG']; exact h))
  have HCT := Lib.hid (show ∀ s n, Mr.catchTo (C := C) G' s i n = Mr.catchTo G s i n from fun s n => by rw [hG']; induction n with
    | zero => rfl
    | succ n ih => rw [Mr.catchTo, Mr.catchTo, ih]; rfl)
  obtain ⟨V, hV⟩ : ∃ V : Option Addr × Nat × Nat, V = if i = 0 then (A, n, c) else (B, m, e) := ⟨_, rfl⟩
  have HPC := Lib.hid (show ∀ w' s' F', (ML C G' g).At w' s' F' → w'.cell? ⟨g, 2 + i, none⟩ = some (.slice V.1 V.2.1 V.2.2) ∧ (s'.st i).length = V.2.1 from fun w' s' F' h => by
    rw [hG'] at h
    obtain ⟨h1, h2⟩ := pin_cell h hi
    rw [h1, h2, hV]
    rcases two hi with rfl | rfl
    · exact ⟨rfl, rfl⟩
    · exact ⟨rfl, rfl⟩)
  rw [← hG'] at hp
  obtain ⟨D, N, j⟩ := V
  have hc2 := (HPC.out _ _ _ hp).1
  obtain rfl : k = N := by rw [← hk.st (i := i)]; exact (HPC.out _ _ _ hp).2
  have HK := Lib.hid hk
  have HI := Lib.hid hi
  have HM := Lib.hid hm
  have HKM := Lib.hid hkm
  have M0 := Lib.hid (Mv.start hp)
  have i0 : (0 : Int) ≤ (i : Int) := by omega
  have i1 : (i : Int) < 2 := by omega
  have w1i : IntKind.i64.wrap (1 - (i : Int)) = ((1 - i : Nat) : Int) := by rw [show (1 : Int) - (i : Int) = ((1 - i : Nat) : Int) by omega]; exact IntWalk.i64_in _ (by omega)
  obtain ⟨z, hz0⟩ : ∃ z : List UInt8, z = zeroS := ⟨_, rfl⟩
  have hz : ∀ W, (zeroValue 38).run Try.prog W = .ok (.agg (bva z)) W := fun _ => by rw [hz0]; kernel_rfl
  have HZ3 := Lib.hid (show z.length = 128 by rw [hz0]; exact zeroS_length)
  clear hz0 hk hkm hm hi h hp hR hG' hV
  go_enter Try.func73, Try.ntmps73
  go_wp2_with fail
  go_loopw [15] (fun x wr => ∃ (p : Nat) (F' : Nat → Prop), p ≤ k ∧ x = .int .i64 p ∧ Mv (ML C G' g) w F wr (s.catchTo G' i p) F') (fun x _ => k - (intOf x).toNat)
  case atStart => exact ⟨0, F, Nat.zero_le _, rfl, M0.out⟩
  case round =>
    clear M0 hc2
    obtain ⟨p, F', hpk, rfl, hmv⟩ := hrel
    have M := Lib.hid hmv
    have HP := Lib.hid hpk
    clear hmv hpk
    by_cases hlt : p < k
    · have HPL := Lib.hid hlt
      obtain ⟨s1, hs1⟩ : ∃ s1, s1 = s.catchTo G' i p := ⟨_, rfl⟩
      have HO1 := Lib.hid (show s1.ok k by rw [hs1]; exact catchTo_ok HK.out p)
      have HM1 := Lib.hid (show C.most s1.d < 900000 by rw [hs1]; have := catchTo_most (G := G') (s := s) HI.out p; have := HM.out; have := HKM.out; omega)
      have HS1 := Lib.hid (show s.catchTo G' i (p + 1) = s1.catch1 G' i p by rw [hs1]; rfl)
      rw [← hs1] at M
      obtain ⟨q, k', j', hc, hk', hkj', hj', hq, _, _⟩ := ml_stale M.out.at_ HI.out (show p < (s1.st i).length by rw [HO1.out.st]; exact hlt)
      have hsl := (HPC.out _ _ _ M.out.at_).1
      rw [hc] at hsl
      injection hsl with hsl
      injection hsl with e1 e2 e3
      replace e1 : D = some ⟨q, 0, none⟩ := e1.symm
      replace e2 : k' = k := e2
      replace e3 : j' = j := e3
      subst e1 e2 e3
      have p0 : (0 : Int) ≤ (p : Int) := by omega
      have p1 : (p : Int) < (k' : Int) := by omega
      have wp1 : IntKind.i64.wrap ((p : Int) + 1) = ((p + 1 : Nat) : Int) := IntWalk.i64_in _ (by have := HKM.out; omega)
      obtain ⟨t, ht⟩ : ∃ t, t = (s1.st i).getD p false := ⟨_, rfl⟩
      rw [← ht] at hq
      have HT := Lib.hid ht
      clear hs1 hc hk' hkj' hj' hlt ht
      cases t
      · have HE := Lib.hid (show s.catchTo G' i (p + 1) = s1 by rw [HS1.out, Mr.catch1, ← HT.out, Bool.false_and, if_neg (by simp)])
        go_wp2_with fail
        go_roundw
        case rel => exact ⟨p + 1, F', HPL.out, by go_num, by rw [HE.out]; exact M.out⟩
        case measure => (have := HPL.out; simp [intOf]; omega)
      · have HR := Lib.hid (right_any M.out.at_ (i := 1 - i) (n := p) (by omega) (by rw [HO1.out.st]; exact HPL.out))
        obtain ⟨y, hy⟩ : ∃ y, y = rightV C G' s1 (1 - i) p := ⟨_, rfl⟩
        obtain ⟨o, ho⟩ : ∃ o, o = right C G' s1 (1 - i) p := ⟨_, rfl⟩
        have HY3 := Lib.hid (show y.length = 128 by rw [hy]; exact rightV_len M.out.at_ (by omega) p)
        have HIY : Hid ((Try.prog.info? 38).map (·.size) = some (bva y).size) := by rw [bva_size, HY3.out]; exact info_sec
        have HE0 := Lib.hid (show s.catchTo G' i (p + 1) = if o then (s1.mend i p y).2 else s1 by rw [HS1.out, Mr.catch1, ← HT.out, Bool.true_and, ho, hy])
        rw [← hy, ← ho] at HR
        clear hy ho HS1 HT
        go_wp2_with fail
        refine HR.out.mono ?_
        rintro e w2 ⟨rfl, bw⟩
        have M2 := Lib.hid (M.out.below bw)
        clear bw M HR hq
        go_wp2_with (show wpList _ _ _ ({ dst := none, op := .store 38 (.tmp 6) (.tmp 28), type := _, pos := _, after := _, guard := _ } :: _) _ _; apply Classical.byContradiction; intro hneg)
        refine hneg ?_
        clear hneg
        refine wpList_store_row rfl 38 (.tmp 6) (.tmp 28) rfl w2.heap.size (bva y) rfl rfl 38 (bva z) (heap_alloc_new _ _) HIY.out (by rw [bva_size, bva_size, HY3.out, HZ3.out]) (bva_one _) ?_
        obtain ⟨w3, hw3⟩ : ∃ w3, w3 = (w2.alloc (.cells (bva z) 38)).setRow w2.heap.size (bva y) := ⟨_, rfl⟩
        have hbw3 : Below w2.heap.size w2 w3 := by rw [hw3]; exact below_setRow ((Below.refl _ _).alloc (Nat.le_refl _) _) (Nat.le_refl _) _
        have BXw3 := Lib.hid (show Blk w3 w2.heap.size (bva y) 38 from by rw [hw3]; exact setRow_heap _ _ _ _ _ _ (heap_alloc_new _ _))
        rw [← hw3]
        clear hw3
        have M3 := Lib.hid (M2.out.below hbw3)
        clear hbw3 M2
        cases o
        · have HE := Lib.hid (show s.catchTo G' i (p + 1) = s1 by rw [HE0.out, if_neg (by simp)])
          go_wp2_with fail
          go_roundw
          case rel => exact ⟨p + 1, F', HPL.out, by go_num, by rw [HE.out]; exact M3.out⟩
          case measure => (have := HPL.out; simp [intOf]; omega)
        · have HE := Lib.hid (show s.catchTo G' i (p + 1) = (s1.mend i p y).2 by rw [HE0.out, if_pos rfl])
          have HME := Lib.hid (mend_any M3.out.at_ HI.out (n := p) (by rw [HO1.out.st]; exact HPL.out) y HY3.out (by have := HM1.out; omega))
          go_wp2_with (refine wpList_load_row rfl 38 (.tmp 6) rfl w2.heap.size rfl 38 (bva y) (0, 0) _ BXw3.out Try.underlying38 rfl HIY.out ?_)
          refine HME.out.mono ?_
          rintro e w4 ⟨rfl, F4, hm4⟩
          have M4 := Lib.hid (M3.out.trans hm4)
          clear hm4 M3 HME BXw3
          go_wp2_with fail
          go_roundw
          case rel => exact ⟨p + 1, F4, HPL.out, by go_num, by rw [HE.out]; exact M4.out⟩
          case measure => (have := HPL.out; simp [intOf]; omega)
    · obtain rfl : p = k := by have := HP.out; omega
      clear hlt
      go_wp2_with fail
      exact bodyPost_end (results_none Try.results73 _ _ _) rfl ⟨rfl, F', HUN.out _ _ _ (by rw [← HCT.out]; exact M.out)⟩
/-- What Sync makes of a mirror, and tells. -/
def Mr.caught (G : Gd) (s : Mr C) (k : Nat) : Mr C := (s.catchTo G 0 k).catchTo G 1 k
def Mr.sync (G : Gd) (s : Mr C) (k : Nat) : Int × Mr C :=
  if C.there s.d 0 && C.there s.d 1 then
    (if (s.caught G k).flushed = (true, true) then (if cnt (((s.caught G k).fl0 0).fl0 1).a = 0 ∧ cnt (((s.caught G k).fl0 0).fl0 1).b = 0 then 0 else 9) else 13, ((s.caught G k).fl0 0).fl0 1)
  else (13, s)
theorem sync_nil (w : World) : Calls Try.prog 26 #[.pointer none] w (RetB (.int .i64 13) w) := by
  go_enter Try.func26, Try.ntmps26
  go_wp2_with fail
  go_ret
  exact ⟨rfl, Below.refl _ _⟩
set_option maxRecDepth 100000 in
set_option maxHeartbeats 12800000 in
theorem sync_any (h : (ML C G g).At w s F) {k : Nat} (hk : s.ok k) (hkm : k ≤ 5000) (hm : C.most s.d < 700000) : Calls Try.prog 26 #[.pointer (some ⟨g, 0, none⟩)] w (RetA (ML C G g) (.int .i64 (s.sync G k).1) (s.sync G k).2 F w) := by
  have HK := Lib.hid hk
  have HM := Lib.hid hm
  have HKM := Lib.hid hkm
  obtain ⟨tt, htt⟩ : ∃ tt, tt = (C.there s.d 0 && C.there s.d 1) := ⟨_, rfl⟩
  have HW := Lib.hid (whole_any h)
  rw [← htt] at HW
  have M0 := Lib.hid (Mv.start h)
  obtain ⟨RV, hRV⟩ : ∃ RV, RV = s.sync G k := ⟨_, rfl⟩
  rw [← hRV]
  rw [Mr.sync, ← htt] at hRV
  have HRV := Lib.hid hRV
  clear hk hm hkm htt hRV h
  go_enter Try.func26, Try.ntmps26
  go_wp2_with fail
  refine HW.out.mono ?_
  rintro e w1 ⟨rfl, F1, hm1⟩
  have M1 := Lib.hid (M0.out.trans hm1)
  clear hm1 M0 HW
  cases tt with
  | false =>
    have HE := Lib.hid (show RV = (13, s) by rw [HRV.out, if_neg (by simp)])
    go_wp2_with fail
    go_ret
    exact ⟨by rw [HE.out]; rfl, F1, by rw [HE.out]; exact M1.out⟩
  | true =>
    have HRV2 := Lib.hid (show RV = _ from by rw [HRV.out, if_pos rfl])
    clear HRV
    go_wp2_with fail
    go_loopw [13] (fun x wr => ∃ (p : Nat) (F' : Nat → Prop) (s' : Mr C), x = .int .i64 p ∧ Mv (ML C G g) w F wr s' F' ∧ ((p = 0 ∧ s' = s) ∨ (p = 1 ∧ s' = s.catchTo G 0 k) ∨ (p = 2 ∧ s' = s.caught G k))) (fun x _ => 2 - (intOf x).toNat)
    case atStart => exact ⟨0, F1, s, rfl, M1.out, .inl ⟨rfl, rfl⟩⟩
    case round =>
      clear M1
      obtain ⟨p, F', s', rfl, hmv, hp⟩ := hrel
      have M := Lib.hid hmv
      clear hmv
      rcases hp with ⟨rfl, hs⟩ | ⟨rfl, hs⟩ | ⟨rfl, hs⟩
      · have HS := Lib.hid hs
        have HCA := Lib.hid (catch_any M.out.at_ (k := k) (by rw [hs]; exact HK.out) HKM.out (i := 0) (by omega) (by rw [hs]; have := HM.out; omega))
        clear hs
        go_wp2_with fail
        refine HCA.out.mono ?_
        rintro e w2 ⟨rfl, F2, hm2⟩
        have M2 := Lib.hid (M.out.trans hm2)
        clear hm2 M HCA
        go_wp2_with fail
        go_roundw
        case rel => exact ⟨1, F2, s'.catchTo G 0 k, rfl, M2.out, .inr (.inl ⟨rfl, by rw [HS.out]⟩)⟩
        case measure => simp [intOf]
      · have HS := Lib.hid hs
        have HCA := Lib.hid (catch_any M.out.at_ (k := k) (by rw [hs]; exact catchTo_ok HK.out k) HKM.out (i := 1) (by omega) (by rw [hs]; have := HM.out; have := HKM.out; have := catchTo_most (G := G) (s := s) (i := 0) (by omega) k; omega))
        clear hs
        go_wp2_with fail
        refine HCA.out.mono ?_
        rintro e w2 ⟨rfl, F2, hm2⟩
        have M2 := Lib.hid (M.out.trans hm2)
        clear hm2 M HCA
        go_wp2_with fail
        go_roundw
        case rel => exact ⟨2, F2, s'.catchTo G 1 k, rfl, M2.out, .inr (.inr ⟨rfl, by rw [HS.out]; rfl⟩)⟩
        case measure => simp [intOf]
      · subst hs
        obtain ⟨s2, hs2⟩ : ∃ s2, s2 = s.caught G k := ⟨_, rfl⟩
        obtain ⟨s3, hs3⟩ : ∃ s3, s3 = (s2.fl0 0).fl0 1 := ⟨_, rfl⟩
        obtain ⟨a, ha⟩ : ∃ a, a = s2.flushed.1 := ⟨_, rfl⟩
        obtain ⟨b, hb⟩ : ∃ b, b = s2.flushed.2 := ⟨_, rfl⟩
        rw [← hs2] at M HRV2
        have HEF := Lib.hid (each_flush M.out.at_)
        rw [← hs3] at HEF HRV2
        rw [← ha, ← hb] at HEF
        rw [show s2.flushed = (a, b) by rw [ha, hb]] at HRV2
        have hE : ∀ W, (Op.equalIn 10000 50 (.agg (two2 a b)) (.agg #[.bool true, .bool true])).run Try.prog W = .ok (a && b) W := fun W => by
          have h := eq_two a b true true W
          rwa [show ((a == true) && (b == true)) = (a && b) by cases a <;> cases b <;> rfl] at h
        obtain ⟨o, ho⟩ : ∃ o, o = (a && b) := ⟨_, rfl⟩
        rw [← ho] at hE
        have HRV3 := Lib.hid (show RV = (if o then (if cnt s3.a = 0 ∧ cnt s3.b = 0 then 0 else 9) else 13, s3) by rw [HRV2.out, ho]; cases a <;> cases b <;> rfl)
        clear hs2 hs3 ha hb ho HRV2
        go_wp2_with fail
        refine HEF.out.mono ?_
        rintro e w2 ⟨rfl, F2, hm2⟩
        have M2 := Lib.hid (M.out.trans hm2)
        clear hm2 M HEF
        cases o
        · have HE := Lib.hid (show RV = (13, s3) by rw [HRV3.out, if_neg (by simp)])
          go_wp2_with fail
          go_ret
          exact ⟨by rw [HE.out]; rfl, F2, by rw [HE.out]; exact M2.out⟩
        · have HST := Lib.hid (stale_any M2.out.at_)
          obtain ⟨x, hx⟩ : ∃ x, x = cnt s3.a := ⟨_, rfl⟩
          obtain ⟨y, hy⟩ : ∃ y, y = cnt s3.b := ⟨_, rfl⟩
          rw [← hx, ← hy] at HST HRV3
          clear hx hy
          go_wp2_with fail
          refine HST.out.mono ?_
          rintro e w3 ⟨rfl, bw⟩
          have M3 := Lib.hid (M2.out.below bw)
          clear bw M2 HST
          by_cases hx : x = 0
          · subst hx
            by_cases hy : y = 0
            · subst hy
              have HE := Lib.hid (show RV = (0, s3) by rw [HRV3.out, if_pos trivial, if_pos ⟨rfl, rfl⟩])
              go_wp2_with fail
              go_ret
              exact ⟨by rw [HE.out]; rfl, F2, by rw [HE.out]; exact M3.out⟩
            · have HE := Lib.hid (show RV = (9, s3) by rw [HRV3.out, if_pos trivial, if_neg (fun h => hy h.2)])
              have hyp : (0 : Int) < (y : Int) := by omega
              clear hy
              go_wp2_with fail
              go_ret
              exact ⟨by rw [HE.out]; rfl, F2, by rw [HE.out]; exact M3.out⟩
          · have HE := Lib.hid (show RV = (9, s3) by rw [HRV3.out, if_pos trivial, if_neg (fun h => hx h.1)])
            have hxp : (0 : Int) < (x : Int) := by omega
            clear hx
            go_wp2_with fail
            go_ret
            exact ⟨by rw [HE.out]; rfl, F2, by rw [HE.out]; exact M3.out⟩
end
end Go.Proofs.Ytdjiagcnaogebaa.Mi
/-
  How arguments that came in are opened: a []byte, a slice of them, and so on, as what my words say of them.
-/
namespace Go.Proofs.Ytdjiagcnaogebaa
open Go.RowKit Go.ChangeShapes Go.WideShapes

/-- The byte of a number. -/
def byteOf (n : Int) : UInt8 := UInt8.ofNat n.toNat
theorem byteOf_val {n : Int} (h : (Lit.int .u8 n).wf = true) : ((byteOf n).toNat : Int) = n := by
  have hb := bounds_u8 h
  unfold byteOf
  rw [UInt8.toNat_ofNat']
  omega

section
variable {H : Type} {enc : TypeId × Value → H} {P : Program} {w : World} {base : Nat} {spare : Nat → Bool} {held : Bool}

theorem isB_of_trod {t e fuel : Nat} {v : Value} {x : DataW H × List MemPlace} (ht : P.underlying t = some (.slice e)) (he : P.underlying e = some (.int .u8)) (hc : P.cellsOf e = 1)
    (h : DataW.trod enc P w base spare held fuel t [v] = some x) : ∃ l, IsB w.heap.size w v l := by
  rcases open_ints ht he hc h with ⟨hcs, _⟩ | ⟨a, len, cap, zs, hcs, _, hl, hm, hz, _, hcell, hwz⟩
  · simp only [List.cons.injEq, and_true] at hcs
    subst hcs
    exact ⟨[], none, 0, rfl, Nat.le_refl _, Nat.zero_le _, Rd.none⟩
  · simp only [List.cons.injEq, and_true] at hcs
    subst hcs
    have hlz : len ≤ zs.length := by rw [hz]; split <;> omega
    have hlen : ((zs.take len).map byteOf).length = len := by simp; omega
    refine ⟨(zs.take len).map byteOf, some a, cap, by rw [hlen], by omega, hm, fun k u hu => ?_⟩
    have hk : k < len := by
      have := (List.getElem?_eq_some_iff.1 hu).1
      rw [bv_length, hlen] at this
      exact this
    have hkz : k < zs.length := by omega
    have hg := hcell k hkz
    have hd : zs.getD k 0 = zs[k] := by simp [List.getD, hkz]
    have hw := hwz _ (List.getElem_mem hkz)
    have hb := World.block_lt_of_cell? _ _ hg
    rw [add_block] at hb
    refine ⟨a, rfl, hb, ?_⟩
    rw [hg, hd]
    have e2 : (bv ((zs.take len).map byteOf))[k]? = some (.int .u8 zs[k]) := by
      rw [bv_get (by rw [hlen]; exact hk)]
      simp only [List.getElem_map, List.getElem_take]
      rw [byteOf_val hw]
    rw [← hu, e2]

theorem isL_of_trod {α : Type} {R : Value → α → Prop} {t e fuel : Nat} {v : Value} {x : DataW H × List MemPlace} (ht : P.underlying t = some (.slice e)) (hc : P.cellsOf e = 1)
    (each : ∀ (n : Nat) (u : Value) (y : DataW H × List MemPlace), DataW.trod enc P w base spare held n e [u] = some y → ∃ l, R u l)
    (h : DataW.trod enc P w base spare held fuel t [v] = some x) : ∃ ls, IsL w.heap.size w R v ls := by
  rcases Go.Deep.open_slice1 ht hc h with ⟨hcs, _⟩ | ⟨a, len, cap, m, n, V, D, Pl, hcs, _, hl, hm, hmm, _, hx⟩
  · simp only [List.cons.injEq, and_true] at hcs
    subst hcs
    exact ⟨[], none, 0, rfl, Nat.le_refl _, Nat.zero_le _, RdL.none⟩
  · simp only [List.cons.injEq, and_true] at hcs
    subst hcs
    have hlm : len ≤ m := by rw [hmm]; split <;> omega
    have hall : ∀ j, j ≤ len → ∃ ls : List α, ls.length = j ∧ ∀ (k : Nat) (l : α), ls[k]? = some l → R (V k) l := by
      intro j
      induction j with
      | zero => exact fun _ => ⟨[], rfl, fun k l hk => by simp at hk⟩
      | succ j ih =>
        intro hj
        obtain ⟨ls, hls, hR⟩ := ih (by omega)
        obtain ⟨l, hl'⟩ := each n (V j) _ (hx j (by omega)).2
        refine ⟨ls ++ [l], by simp [hls], fun k l' hk => ?_⟩
        rcases Nat.lt_trichotomy k j with hlt | rfl | hgt
        · rw [List.getElem?_append_left (by omega)] at hk
          exact hR k l' hk
        · rw [List.getElem?_append_right (by omega), hls, Nat.sub_self] at hk
          injection hk with hk
          subst hk
          exact hl'
        · rw [List.getElem?_eq_none (by simp; omega)] at hk
          cases hk
    obtain ⟨ls, hls, hR⟩ := hall len (Nat.le_refl _)
    refine ⟨ls, some a, cap, by rw [hls], by omega, hm, (List.range len).map V, by simp [hls], fun k u hu => ?_, fun k u l hu hl' => ?_⟩
    · have hk : k < len := by have := (List.getElem?_eq_some_iff.1 hu).1; simpa using this
      have hg := (hx k (by omega)).1
      have hb := World.block_lt_of_cell? _ _ hg
      rw [add_block] at hb
      have e2 : ((List.range len).map V)[k]? = some (V k) := by simp [hk]
      exact ⟨a, rfl, hb, by rw [hg, ← hu, e2]⟩
    · have hk : k < len := by have := (List.getElem?_eq_some_iff.1 hu).1; simpa using this
      have e2 : ((List.range len).map V)[k]? = some (V k) := by simp [hk]
      rw [e2] at hu
      injection hu with hu
      subst hu
      exact hR k l hl'

/-- A []byte that came in. -/
theorem open_bytes {t e : Nat} {a : Option Addr} {len cap : Nat} {d : DataW H} {ps : List MemPlace} (ht : P.underlying t = some (.slice e)) (he : P.underlying e = some (.int .u8)) (hc : P.cellsOf e = 1)
    (h : DataW.Trod enc P w base spare held t (.slice a len cap) d ps) : ∃ l : List UInt8, l.length = len ∧ len ≤ cap ∧ cap ≤ maxLen ∧ Rd w.heap.size w a (bv l) := by
  obtain ⟨fuel, hf⟩ := h
  obtain ⟨l, A, c, hv, h1, h2, h3⟩ := isB_of_trod ht he hc hf
  injection hv with e1 e2 e3
  subst e1; subst e2; subst e3
  exact ⟨l, rfl, h1, h2, h3⟩
/-- A [][]byte that came in. -/
theorem open_rows {t s e : Nat} {a : Option Addr} {len cap : Nat} {d : DataW H} {ps : List MemPlace} (ht : P.underlying t = some (.slice s)) (hs : P.underlying s = some (.slice e)) (he : P.underlying e = some (.int .u8))
    (hcs : P.cellsOf s = 1) (hc : P.cellsOf e = 1)
    (h : DataW.Trod enc P w base spare held t (.slice a len cap) d ps) : ∃ ls : List (List UInt8), ls.length = len ∧ len ≤ cap ∧ cap ≤ maxLen ∧ RdB w.heap.size w a ls := by
  obtain ⟨fuel, hf⟩ := h
  obtain ⟨ls, A, c, hv, h1, h2, h3⟩ := isL_of_trod (R := IsB w.heap.size w) ht hcs (fun _ _ _ hy => isB_of_trod hs he hc hy) hf
  injection hv with e1 e2 e3
  subst e1; subst e2; subst e3
  exact ⟨ls, rfl, h1, h2, h3⟩
/-- A [][][]byte that came in. -/
theorem open_rows3 {t r s e : Nat} {a : Option Addr} {len cap : Nat} {d : DataW H} {ps : List MemPlace} (ht : P.underlying t = some (.slice r)) (hr : P.underlying r = some (.slice s)) (hs : P.underlying s = some (.slice e)) (he : P.underlying e = some (.int .u8))
    (hcr : P.cellsOf r = 1) (hcs : P.cellsOf s = 1) (hc : P.cellsOf e = 1)
    (h : DataW.Trod enc P w base spare held t (.slice a len cap) d ps) : ∃ ls : List (List (List UInt8)), ls.length = len ∧ len ≤ cap ∧ cap ≤ maxLen ∧ RdL w.heap.size w (IsL w.heap.size w (IsB w.heap.size w)) a ls := by
  obtain ⟨fuel, hf⟩ := h
  obtain ⟨ls, A, c, hv, h1, h2, h3⟩ := isL_of_trod (R := IsL w.heap.size w (IsB w.heap.size w)) ht hcr (fun _ _ _ hy => isL_of_trod hr hcs (fun _ _ _ hz => isB_of_trod hs he hc hz) hy) hf
  injection hv with e1 e2 e3
  subst e1; subst e2; subst e3
  exact ⟨ls, rfl, h1, h2, h3⟩
end

end Go.Proofs.Ytdjiagcnaogebaa
/-
  Deeds: how a row of them that came in is opened, and how one is read.
-/
namespace Go.Proofs.Ytdjiagcnaogebaa.Kd
open Go.RowKit
/-- A deed: On, Kind, N, M, C. -/
structure Dd where
  on : Int
  kind : Int
  n : Int
  m : Int
  c : UInt8
def ddV (x : Dd) : List Value := [.int .i64 x.on, .int .i64 x.kind, .int .i64 x.n, .int .i64 x.m, .int .u8 (x.c.toNat : Int)]
def ddN : Dd := ⟨0, 0, 0, 0, 0⟩
def dds : List Dd → List Value
  | [] => []
  | x :: l => ddV x ++ dds l
theorem dds_append (a b : List Dd) : dds (a ++ b) = dds a ++ dds b := by
  induction a with
  | nil => rfl
  | cons x l ih => simp [dds, ih]
theorem ddV_length (x : Dd) : (ddV x).length = 5 := rfl
theorem dds_length (l : List Dd) : (dds l).length = l.length * 5 := by
  induction l with
  | nil => rfl
  | cons x l ih => rw [dds, List.length_append, ddV_length, ih, List.length_cons]; omega
theorem dds_get {l : List Dd} {k : Nat} (hk : k < l.length) {j : Nat} {v : Value} (hv : (ddV l[k])[j]? = some v) : (dds l)[5 * k + j]? = some v := by
  induction l generalizing k with
  | nil => simp at hk
  | cons x l ih =>
    cases k with
    | zero =>
      have hj : j < 5 := (List.getElem?_eq_some_iff.1 hv).1
      rw [dds, Nat.mul_zero, Nat.zero_add, List.getElem?_append_left (by rw [ddV_length]; omega)]
      exact hv
    | succ k =>
      rw [dds, List.getElem?_append_right (by rw [ddV_length]; omega), ddV_length, show 5 * (k + 1) + j - 5 = 5 * k + j by omega]
      exact ih (by simpa using hk) (by simpa using hv)
/-- All of a deed's numbers are numbers. -/
def Dd.ok (x : Dd) : Prop := (-9223372036854775808 ≤ x.on ∧ x.on ≤ 9223372036854775807) ∧ (-9223372036854775808 ≤ x.kind ∧ x.kind ≤ 9223372036854775807) ∧ (-9223372036854775808 ≤ x.n ∧ x.n ≤ 9223372036854775807) ∧ (-9223372036854775808 ≤ x.m ∧ x.m ≤ 9223372036854775807)
/-- A deed of a row, read. -/
theorem rd_deed {B : Nat} {w : World} {A : Option Addr} {l : List Dd} (h : Rd B w A (dds l)) {k : Nat} (hk : k < l.length) :
    ∃ ad, A = some ad ∧ ad.block < B ∧ ∀ j v, (ddV l[k])[j]? = some v → w.cell? ((ad.add (k * 5)).add j) = some v := by
  obtain ⟨ad, hA, hb, _⟩ := h _ _ (dds_get hk (j := 0) (v := .int .i64 l[k].on) rfl)
  refine ⟨ad, hA, hb, fun j v hv => ?_⟩
  obtain ⟨ad', hA', _, hc⟩ := h _ _ (dds_get hk hv)
  rw [hA] at hA'; injection hA' with hA'
  rw [hA', add_twice8, Nat.mul_comm k 5]
  exact hc
section
open Go.ChangeShapes Go.WideShapes
variable {H : Type} {enc : TypeId × Value → H} {w : World} {base : Nat} {spare : Nat → Bool} {held : Bool}
theorem deed_fields : (Try.prog.fieldsOf 36).toList.map (fun f => (f.name == "_", f.type, f.offset)) = [(false, 3, 0), (false, 3, 1), (false, 3, 2), (false, 3, 3), (false, 5, 4)] := by kernel_rfl
theorem deed_under : Try.prog.underlying 36 = some (.struct (Try.prog.fieldsOf 36)) := by kernel_rfl
set_option maxRecDepth 100000 in
theorem deed_of_trod {fuel : Nat} {cs : List Value} {x : DataW H × List MemPlace} (h : DataW.trod enc Try.prog w base spare held fuel 36 cs = some x) :
    ∃ y : Dd, cs = ddV y ∧ y.ok := by
  obtain ⟨xs, n, _, _, hl, hlen, hf⟩ := DataW.trod_struct deed_under h
  have hfs := deed_fields
  have hcn : Try.prog.cellsOf 36 = 5 := by kernel_rfl
  have hci : Try.prog.cellsOf 3 = 1 := by kernel_rfl
  have hcb : Try.prog.cellsOf 5 = 1 := by kernel_rfl
  generalize Try.prog.fieldsOf 36 = fs at hfs hlen hf
  rw [hcn] at hl
  obtain ⟨L⟩ := fs
  have hL5 : L.length = 5 := by simpa using congrArg List.length hfs
  match L, hL5, hfs, hf, hlen with
  | [f0, f1, f2, f3, f4], _, hfs, hf, hlen =>
    simp only [List.map_cons, List.map_nil, List.cons.injEq, Prod.mk.injEq, and_true] at hfs
    obtain ⟨⟨_, t0, o0⟩, ⟨_, t1, o1⟩, ⟨_, t2, o2⟩, ⟨_, t3, o3⟩, ⟨_, t4, o4⟩⟩ := hfs
    have h5 : xs.length = 5 := hlen
    have g0 := hf 0 f0 rfl
    have g1 := hf 1 f1 rfl
    have g2 := hf 2 f2 rfl
    have g3 := hf 3 f3 rfl
    have g4 := hf 4 f4 rfl
    rw [t0, o0, hci, List.getElem?_eq_getElem (by omega)] at g0
    rw [t1, o1, hci, List.getElem?_eq_getElem (by omega)] at g1
    rw [t2, o2, hci, List.getElem?_eq_getElem (by omega)] at g2
    rw [t3, o3, hci, List.getElem?_eq_getElem (by omega)] at g3
    rw [t4, o4, hcb, List.getElem?_eq_getElem (by omega)] at g4
    obtain ⟨a0, e0, _, w0⟩ := DataW.trod_int Try.underlying3 g0
    obtain ⟨a1, e1, _, w1⟩ := DataW.trod_int Try.underlying3 g1
    obtain ⟨a2, e2, _, w2⟩ := DataW.trod_int Try.underlying3 g2
    obtain ⟨a3, e3, _, w3⟩ := DataW.trod_int Try.underlying3 g3
    obtain ⟨a4, e4, _, w4⟩ := DataW.trod_int Try.underlying5 g4
    match cs, hl with
    | [u0, u1, u2, u3, u4], _ =>
      simp at e0 e1 e2 e3 e4
      exact ⟨⟨a0, a1, a2, a3, byteOf a4⟩, by rw [e0, e1, e2, e3, e4]; unfold ddV; rw [byteOf_val w4], bounds_i64 w0, bounds_i64 w1, bounds_i64 w2, bounds_i64 w3⟩
/-- A row of deeds that came in. -/
theorem open_deeds {a : Option Addr} {len cap : Nat} {d : DataW H} {ps : List MemPlace} (h : DataW.Trod enc Try.prog w base spare held 22 (.slice a len cap) d ps) :
    ∃ l : List Dd, l.length = len ∧ len ≤ cap ∧ cap ≤ maxLen ∧ Rd w.heap.size w a (dds l) ∧ ∀ y ∈ l, y.ok := by
  obtain ⟨fuel, hf⟩ := h
  have hf' : DataW.trod enc Try.prog w base spare held fuel 22 [Value.slice a len cap] = some (d, ps) := hf
  have hcn : Try.prog.cellsOf 36 = 5 := by kernel_rfl
  rcases Go.Deep.open_slice Try.underlying22 hf' with ⟨hcs, _⟩ | ⟨a', len', cap', m, n, D, Pl, hcs, _, hl, hm, hmm, _, hx⟩
  · simp only [List.cons.injEq, and_true] at hcs
    injection hcs with e1 e2 e3
    subst e1; subst e2; subst e3
    exact ⟨[], rfl, Nat.le_refl _, Nat.zero_le _, Rd.none, fun y hy => by simp at hy⟩
  · simp only [List.cons.injEq, and_true] at hcs
    injection hcs with e1 e2 e3
    subst e1; subst e2; subst e3
    have hlm : len ≤ m := by rw [hmm]; split <;> omega
    rw [hcn] at hx
    have hall : ∀ j, j ≤ len → ∃ l : List Dd, l.length = j ∧ (∀ y ∈ l, y.ok) ∧ ∀ k u, (dds l)[k]? = some u → w.cell? (a'.add k) = some u := by
      intro j
      induction j with
      | zero => exact fun _ => ⟨[], rfl, fun y hy => by simp at hy, fun k u hu => by simp [dds] at hu⟩
      | succ j ih =>
        intro hj
        obtain ⟨l, hl', hb, hc⟩ := ih (by omega)
        obtain ⟨cs', h1, h2⟩ := hx j (by omega)
        obtain ⟨y, hy, hyb⟩ := deed_of_trod h2
        obtain ⟨_, _, hcl⟩ := World.cells?_some h1
        have hnl : (dds l).length = j * 5 := by rw [dds_length, hl']
        refine ⟨l ++ [y], by simp [hl'], fun z hz => ?_, fun k u hu => ?_⟩
        · rcases List.mem_append.1 hz with hz | hz
          · exact hb z hz
          · rw [List.mem_singleton] at hz; rw [hz]; exact hyb
        · rw [dds_append] at hu
          rcases Nat.lt_or_ge k (dds l).length with hk | hk
          · rw [List.getElem?_append_left hk] at hu
            exact hc k u hu
          · rw [List.getElem?_append_right hk, dds, dds, List.append_nil, ← hy, hnl] at hu
            have hk5 : k - j * 5 < 5 := by
              have := (List.getElem?_eq_some_iff.1 hu).1
              rw [hy, ddV_length] at this; exact this
            have h3 := hcl (k - j * 5) hk5
            rw [add_twice8, show j * 5 + (k - j * 5) = k by omega, hu] at h3
            exact h3
    obtain ⟨l, hl', hb, hc⟩ := hall len (Nat.le_refl _)
    refine ⟨l, hl', hl, hm, fun k u hu => ⟨a', rfl, ?_, hc k u hu⟩, hb⟩
    have := World.block_lt_of_cell? _ _ (hc k u hu)
    rw [add_block] at this
    exact this
end
end Go.Proofs.Ytdjiagcnaogebaa.Kd
/-
  A device that lies; a row of sectors that is appended to. The rows of deeds in the laws.
-/
namespace Go.Proofs.Ytdjiagcnaogebaa.Kd
open Go.RowKit Go.Maps
/-- One device of L empty sectors, of which these writes wait; does it lie? -/
def lieS (L : Nat) (b : Bool) (wt : List (Nat × List UInt8)) : Sy := ⟨⟨false, -1⟩, [⟨List.replicate L zeroS, wt, 0, 0, b, false⟩]⟩
variable {L : Nat} {b : Bool} {wt : List (Nat × List UInt8)} {i : Int} {s : List UInt8}
theorem lie_refuse (h : 0 ≤ i ∧ i < (L : Int)) : refuseN (lieS L b wt).p ((lieS L b wt).at 0) i = 0 := by
  show (if (false || false) = true then (13 : Int) else if i < 0 ∨ ((List.replicate L zeroS).length : Int) ≤ i then 2 else 0) = 0
  rw [if_neg (by simp), if_neg (by rw [List.length_replicate]; omega)]
theorem lie_wy (h : 0 ≤ i ∧ i < (L : Int)) : (lieS L b wt).write 0 i s = (0, lieS L b (wt ++ [(i.toNat, s)])) := by
  obtain ⟨n, rfl⟩ := Int.eq_ofNat_of_zero_le h.1
  rw [write_yes (lie_refuse h)]; rfl
theorem lie_wn (h : ¬ (0 ≤ i ∧ i < (L : Int))) : (lieS L b wt).write 0 i s = (2, lieS L b wt) := by
  have hr : refuseN (lieS L b wt).p ((lieS L b wt).at 0) i = 2 := by
    show (if (false || false) = true then (13 : Int) else if i < 0 ∨ ((List.replicate L zeroS).length : Int) ≤ i then 2 else 0) = 2
    rw [if_neg (by simp), if_pos (by rw [List.length_replicate]; omega)]
  rw [write_no (by rw [hr]; decide), hr]
theorem lie_f : (lieS L true wt).flush 0 = (0, lieS L true wt) := rfl
theorem lie_off : (lieS L true wt).put 0 (((lieS L true wt).at 0).lie false) = lieS L false wt := rfl
theorem lie_on : (S0.new (20 : Int)).put 0 (((S0.new 20).at 0).lie true) = lieS 20 true [] := by kernel_rfl
/-- .. when all is flushed. -/
def lieE (L : Nat) (wt : List (Nat × List UInt8)) : Sy := ⟨⟨false, -1⟩, [⟨flushL (List.replicate L zeroS) wt, [], 0, 0, false, false⟩]⟩
theorem lie_e : (lieS L false wt).flush 0 = (0, lieE L wt) := rfl
theorem lie_len : ((lieS L b wt).at 0).st.length = L := by show (List.replicate L zeroS).length = L; rw [List.length_replicate]
theorem lie_secs : ∀ x ∈ List.replicate L zeroS, x.length = 128 := fun x hx => by rw [List.eq_of_mem_replicate hx]; exact zeroS_length
theorem lie_wait : (((lieS L b wt).at 0).wt.length : Int) = (wt.length : Int) := rfl
theorem lieE_st : ((lieE L wt).at 0).st = (List.range L).map (nowL (List.replicate L zeroS) wt) := by
  show flushL (List.replicate L zeroS) wt = _
  rw [flush_now, List.length_replicate]
theorem lieE_wait : (((lieE L wt).at 0).wt.length : Int) = 0 := rfl
theorem lie_read {k : Nat} (h : k < L) : readV (lieS L b wt).p ((lieS L b wt).at 0) (k : Int) = .tuple #[.agg (bva (nowL (List.replicate L zeroS) wt k)), .int .i64 0] := by
  rw [readV_yes (lie_refuse (by omega))]; rfl
/-- A row of sectors in new memory that is none of the devices'. -/
def RowN (w0 w : World) (F : Nat → Prop) (v : Value) (n : Nat) (l : List (List UInt8)) : Prop := w.ownsRow w0.heap.size 38 128 v n (svs l) ∧ ∀ q, v.ownBlock = some q → ¬ F q
section
variable {w0 w w' : World} {F F' : Nat → Prop} {v : Value} {n : Nat} {l : List (List UInt8)}
theorem RowN.step (h : RowN w0 w F v n l) (h1 : ∀ q, F' q → F q ∨ w.heap.size ≤ q) (h2 : But F w w') : RowN w0 w' F' v n l :=
  ⟨Own.but h.1 h2 h.2, fun q hq hf => by
    rcases h1 q hf with h3 | h3
    · exact h.2 q hq h3
    · have := (h.1.lt q hq).2; omega⟩
theorem RowN.below (h : RowN w0 w F v n l) (hb : Below w.heap.size w w') : RowN w0 w' F v n l := ⟨own_belowN h.1 hb, h.2⟩
theorem RowN.app {A' : Option Addr} {m c' : Nat} {y : List UInt8} (h : RowN w0 w F v n l) (hF : ∀ q, F q → q < w.heap.size) (ho : w'.ownsRow w0.heap.size 38 128 (.slice A' m c') m (svs l ++ bv y))
    (hor : (Value.slice A' m c').ownBlock = v.ownBlock ∨ (Value.slice A' m c').ownBlock = some w.heap.size) : RowN w0 w' F (.slice A' m c') m (l ++ [y]) :=
  ⟨by rw [svs_append, svs, svs, List.append_nil]; exact ho, fun q hq hf => by
    rcases hor with h1 | h1
    · exact h.2 q (h1 ▸ hq) hf
    · rw [h1] at hq; injection hq with hq; have := hF q hf; omega⟩
theorem rowN_nil : RowN w0 w F (.slice none 0 0) 0 [] := ⟨World.ownsRow_nil _ _ _ _, fun q hq => by cases hq⟩
/-- The devices behind an append to such a row. -/
theorem Live.app8 {p : Nat} {gs : List Nat} {S : Sy} (h : Live w0 w p gs S F) (hr : RowN w0 w F v n l) (hg : w.grownBy w' v.ownBlock) : Live w0 w' p gs S F :=
  h.but8 (T := fun q => v.ownBlock = some q) ((But.refl w).grown hg (fun _ hq => .inl hq)) (fun q hf hq => hr.2 q hq hf) (fun q hq => (hr.1.lt q hq).1)
end
end Go.Proofs.Ytdjiagcnaogebaa.Kd
/-
  The contract of the mirror's Both.
-/
namespace Go.Proofs.Ytdjiagcnaogebaa.Mi
open Go.RowKit Kd
attribute [local go_sem ↓] Go.wp_at_zero Go.wp_at_succ
section
variable {C : Duo} {G : Gd} {g : Nat} {w : World} {s : Mr C} {F : Nat → Prop}
/-- What the first p devices read of a place, as far as it may stand. -/
def bothTo (C : Duo) (G : Gd) (d : C.L.St) (n : Int) : Nat → List (List UInt8)
  | 0 => []
  | p + 1 => bothTo C G d n p ++ if rdOk C G d p n then [(C.rd d p n).2] else []
def bothL (G : Gd) (s : Mr C) (n : Int) : List (List UInt8) := if has s n then bothTo C G s.d n 2 else []
theorem bothTo_len (h : (ML C G g).At w s F) (n : Int) : ∀ p, p ≤ 2 → ∀ x ∈ bothTo C G s.d n p, x.length = 128
  | 0, _ => fun x hx => by cases hx
  | p + 1, hp => fun x hx => by
    rw [bothTo, List.mem_append] at hx
    rcases hx with hx | hx
    · exact bothTo_len h n p (by omega) x hx
    · split at hx
      · rw [List.mem_singleton] at hx
        subst hx
        obtain ⟨F1, hd, _⟩ := ml_dev h
        exact C.rd_len hd (by omega)
      · cases hx
theorem bothTo_few (d : C.L.St) (n : Int) : ∀ p, (bothTo C G d n p).length ≤ p
  | 0 => Nat.le_refl _
  | p + 1 => by
    rw [bothTo, List.length_append]
    have := bothTo_few d n p
    split <;> simp <;> omega
/-- It returns a new row of sectors. -/
def RetSec (l : List (List UInt8)) (w : World) (e : Ending) (w' : World) : Prop :=
  ∃ A n c, e = .returned (.slice A n c) ∧ l.length = n ∧ w'.ownsRow w.heap.size 38 128 (.slice A n c) n (svs l) ∧ Below w.heap.size w w'
set_option maxRecDepth 100000 in
set_option maxHeartbeats 3200000 in
theorem both_no {p : Option Addr} {n : Int} (hc : Calls Try.prog 75 #[.pointer p, .int .i64 n] w (RetB (.bool false) w)) : Calls Try.prog 29 #[.pointer p, .int .i64 n] w (RetSec [] w) := by
  have HC := Lib.hid hc
  clear hc
  go_enter Try.func29, Try.ntmps29
  go_wp2_with fail
  refine HC.out.mono ?_
  rintro e w1 ⟨rfl, bw⟩
  have B1 := Lib.hid bw
  clear bw
  go_wp2_with fail
  go_ret
  exact ⟨none, 0, 0, rfl, rfl, World.ownsRow_nil _ _ _ _, B1.out⟩
theorem both_nil (n : Int) : Calls Try.prog 29 #[.pointer none, .int .i64 n] w (RetSec [] w) := both_no (has_nil w n)
set_option maxRecDepth 100000 in
set_option maxHeartbeats 12800000 in
theorem both_any (h : (ML C G g).At w s F) (n : Int) : Calls Try.prog 29 #[.pointer (some ⟨g, 0, none⟩), .int .i64 n] w (RetSec (bothL G s n) w) := by
  cases hh : has s n with
  | false =>
    rw [bothL, hh, if_neg (by simp)]
    have := has_any h n
    rw [hh] at this
    exact both_no this
  | true =>
    obtain ⟨z, hz0⟩ : ∃ z : List UInt8, z = zeroS := ⟨_, rfl⟩
    have hz : ∀ W, (zeroValue 38).run Try.prog W = .ok (.agg (bva z)) W := fun _ => by rw [hz0]; kernel_rfl
    have HZ3 := Lib.hid (show z.length = 128 by rw [hz0]; exact zeroS_length)
    have hcc := has_any h n
    rw [hh] at hcc
    have HC := Lib.hid hcc
    have H := Lib.hid h
    rw [bothL, hh, if_pos rfl]
    clear hz0 hcc hh h
    go_enter Try.func29, Try.ntmps29
    go_wp2_with fail
    refine HC.out.mono ?_
    rintro e w1 ⟨rfl, bw⟩
    have B1 := Lib.hid bw
    clear bw HC
    go_wp2_with fail
    go_loopw [4, 12] (fun l x wr => ∃ (p : Nat) (A : Option Addr) (k c : Nat), p ≤ 2 ∧ x = .int .i64 p ∧ l = .slice A k c ∧ (bothTo C G s.d n p).length = k ∧ wr.ownsRow w.heap.size 38 128 (.slice A k c) k (svs (bothTo C G s.d n p)) ∧ Below w.heap.size w wr) (fun _ x _ => 2 - (intOf x).toNat)
    case atStart => exact ⟨0, none, 0, 0, by omega, rfl, rfl, rfl, World.ownsRow_nil _ _ _ _, B1.out⟩
    case round =>
      clear B1
      obtain ⟨p, A, k, c, hp, rfl, rfl, hk, ho, hb⟩ := hrel
      have HP := Lib.hid hp
      have HK := Lib.hid hk
      have O := Lib.hid ho
      have B := Lib.hid hb
      clear hp hk ho hb
      by_cases hlt : p < 2
      · have HPL := Lib.hid hlt
        have HR := Lib.hid (reads_any ((ML C G g).below H.out B.out) hlt n)
        have HS := Lib.hid (show bothTo C G s.d n (p + 1) = bothTo C G s.d n p ++ if rdOk C G s.d p n then [rdVal C G s.d p n] else [] by rw [bothTo, rdVal]; split <;> rfl)
        obtain ⟨y, hy⟩ : ∃ y, y = rdVal C G s.d p n := ⟨_, rfl⟩
        have HY3 := Lib.hid (show y.length = 128 by rw [hy, rdVal]; split; exact (ml_dev H.out).elim (fun F1 h => C.rd_len h.1 hlt); exact zeroS_length)
        have HIY : Hid ((Try.prog.info? 38).map (·.size) = some (bva y).size) := by rw [bva_size, HY3.out]; exact info_sec
        obtain ⟨o, ho⟩ : ∃ o, o = rdOk C G s.d p n := ⟨_, rfl⟩
        have HF := Lib.hid (bothTo_few (G := G) s.d n p)
        rw [← hy, ← ho] at HR HS
        have p0 : (0 : Int) ≤ (p : Int) := by omega
        have p1 : (p : Int) < 2 := by omega
        clear hy ho hlt
        go_wp2_with fail
        refine HR.out.mono ?_
        rintro e w2 ⟨rfl, bw⟩
        have O2 := Lib.hid (own_belowN O.out bw)
        have B2 := Lib.hid (B.out.trans (bw.mono B.out.size))
        clear bw O B HR
        go_wp2_with (show wpList _ _ _ ({ dst := none, op := .store 38 (.tmp 6) (.tmp 20), type := _, pos := _, after := _, guard := _ } :: _) _ _; apply Classical.byContradiction; intro hneg)
        refine hneg ?_
        clear hneg
        refine wpList_store_row rfl 38 (.tmp 6) (.tmp 20) rfl w2.heap.size (bva y) rfl rfl 38 (bva z) (heap_alloc_new _ _) HIY.out (by rw [bva_size, bva_size, HY3.out, HZ3.out]) (bva_one _) ?_
        obtain ⟨w3, hw3⟩ : ∃ w3, w3 = (w2.alloc (.cells (bva z) 38)).setRow w2.heap.size (bva y) := ⟨_, rfl⟩
        have hbw3 : Below w2.heap.size w2 w3 := by rw [hw3]; exact below_setRow ((Below.refl _ _).alloc (Nat.le_refl _) _) (Nat.le_refl _) _
        have BXw3 := Lib.hid (show Blk w3 w2.heap.size (bva y) 38 from by rw [hw3]; exact setRow_heap _ _ _ _ _ _ (heap_alloc_new _ _))
        rw [← hw3]
        clear hw3
        have O3 := Lib.hid (own_belowN O2.out hbw3)
        have B3 := Lib.hid (B2.out.trans (hbw3.mono B2.out.size))
        clear hbw3 O2 B2
        cases o
        · have HE := Lib.hid (show bothTo C G s.d n (p + 1) = bothTo C G s.d n p by rw [HS.out, if_neg (by simp), List.append_nil])
          go_wp2_with fail
          go_roundw
          case rel => exact ⟨p + 1, A, k, c, HPL.out, by go_num, rfl, by rw [HE.out]; exact HK.out, by rw [HE.out]; exact O3.out, B3.out⟩
          case measure => (have := HPL.out; simp [intOf]; omega)
        · have HE := Lib.hid (show bothTo C G s.d n (p + 1) = bothTo C G s.d n p ++ [y] by rw [HS.out, if_pos rfl])
          obtain ⟨L, hL⟩ : ∃ L, L = bothTo C G s.d n p := ⟨_, rfl⟩
          rw [← hL] at HE HK O3 HF
          have BA := Lib.hid (show Below w3.heap.size w3 (w3.alloc (.cells (bva y) 38)) from (Below.refl _ _).alloc (Nat.le_refl _) _)
          have RA := Lib.hid (show Rd (w3.alloc (.cells (bva y) 38)).heap.size (w3.alloc (.cells (bva y) 38)) (some ⟨w3.heap.size, 0, none⟩) (bv y) from by
            have hb5 : Blk (w3.alloc (.cells (bva y) 38)) w3.heap.size (bva y) 38 := heap_alloc_new _ _
            intro j v hv
            exact ⟨_, rfl, hb5.lt, by rw [Addr.add_mid, hb5.cell, Nat.zero_add]; simpa [bva] using hv⟩)
          clear hL HS
          go_wp2_with (show wpList _ _ _ ({ dst := some 24, op := .load 38 (.tmp 6), type := _, pos := _, after := _, guard := _ } :: _) _ _; apply Classical.byContradiction; intro hneg)
          refine hneg ?_
          clear hneg
          refine wpList_load_row rfl 38 (.tmp 6) rfl w2.heap.size rfl 38 (bva y) (0, 0) _ BXw3.out Try.underlying38 rfl HIY.out ?_
          go_wp2_with (show wpList _ _ _ ({ dst := some 25, op := .buildSlice 43 1 #[(0, .tmp 24)], type := _, pos := _, after := _, guard := _ } :: _) _ _; apply Classical.byContradiction; intro hneg)
          refine hneg ?_
          clear hneg
          refine wpList_execg8 (v := .slice (some ⟨w3.heap.size, 0, none⟩) 1 1) (w' := w3.alloc (.cells (bva y) 38)) rfl (exec_buildSlice 43 1 #[(0, .tmp 24)] rfl ?hbld) ?_
          case hbld =>
            simp only [List.map_toArray, List.map_cons, List.map_nil]
            exact run_oneN secsElt _ (.agg (bva y)) (by show (bva y).size = 128; rw [bva_size, HY3.out]) (by omega)
          go_wp2_with (at_builtin; apply Classical.byContradiction; intro hneg)
          refine hneg ?_
          clear hneg
          refine wpList_appN _ rfl (.tmp 23) (.tmp 25) 43 rfl secsElt (base := w.heap.size) (v := .slice A k c) (n := k) (xs := svs L) rfl (own_belowN O3.out BA.out) (m := 1) rfl RA.out (by rw [bv_length, HY3.out]) (bv_one _) (by have := HF.out; have := HK.out; omega) (Nat.le_trans B3.out.size BA.out.size) ?_
          intro A6 c6 w6 ho6 hg6 hl6
          have B6 := Lib.hid (app_belowN (B3.out.trans (BA.out.mono B3.out.size)) (own_belowN O3.out BA.out) hg6 (Nat.le_refl _) (Nat.le_trans B3.out.size BA.out.size))
          have O6 := Lib.hid (show World.ownsRow w6 w.heap.size 38 128 (.slice A6 (k + 1) c6) (k + 1) (svs (L ++ [y])) from by rw [svs_append, svs, svs, List.append_nil]; exact ho6)
          clear ho6 hg6 hl6 BXw3 O3 B3 BA RA
          go_wp2_with fail
          go_roundw
          case rel => exact ⟨p + 1, A6, k + 1, c6, HPL.out, by go_num, rfl, by rw [HE.out, List.length_append, HK.out]; rfl, by rw [HE.out]; exact O6.out, B6.out⟩
          case measure => (have := HPL.out; simp [intOf]; omega)
      · obtain rfl : p = 2 := by have := HP.out; omega
        clear hlt
        go_wp2_with fail
        go_ret
        exact ⟨A, k, c, rfl, HK.out, O.out, B.out⟩
end
end Go.Proofs.Ytdjiagcnaogebaa.Mi
/-
  The contract of the mirror's Read.
-/
namespace Go.Proofs.Ytdjiagcnaogebaa.Mi
open Go.RowKit Kd
attribute [local go_sem ↓] Go.wp_at_zero Go.wp_at_succ
section
variable {C : Duo} {G : Gd} {g : Nat} {w : World} {s : Mr C} {F1 F : Nat → Prop}
/-- What Read tells of a place: the sector; how it went. -/
def readM (C : Duo) (G : Gd) (s : Mr C) (n : Int) : List UInt8 × Int :=
  if has s n then
    (if right C G s 0 n.toNat then ((C.rd s.d 0 n).2, 0) else if right C G s 1 n.toNat then ((C.rd s.d 1 n).2, 0)
     else (zeroS, if C.there s.d 0 || C.there s.d 1 then 9 else 13))
  else (zeroS, 2)
set_option maxRecDepth 100000 in
set_option maxHeartbeats 3200000 in
theorem mread_no {P : Value} {n : Int} (hc : ∀ w', Below w.heap.size w w' → Calls Try.prog 75 #[P, .int .i64 n] w' (RetB (.bool false) w')) : Calls Try.prog 28 #[P, .int .i64 n] w (RetB (.tuple #[.agg (bva zeroS), .int .i64 2]) w) := by
  obtain ⟨z, hz0⟩ : ∃ z : List UInt8, z = zeroS := ⟨_, rfl⟩
  rw [← hz0]
  have hz : ∀ W, (zeroValue 38).run Try.prog W = .ok (.agg (bva z)) W := fun _ => by rw [hz0]; kernel_rfl
  have HBZ := Lib.hid (show ∀ W, (Instr.build 38 #[]).run Try.prog W = .ok (.agg (bva z)) W from fun _ => by rw [hz0]; kernel_rfl)
  have HIZ : Hid ((Try.prog.info? 38).map (·.size) = some (bva z).size) := by rw [bva_size, hz0, zeroS_length]; exact info_sec
  have R0 := Lib.hid (show Blk (w.alloc (.cells (bva z) 38)) w.heap.size (bva z) 38 from heap_alloc_new _ _)
  have HC := Lib.hid (hc _ ((Below.refl _ _).alloc (Nat.le_refl _) (.cells (bva z) 38)))
  clear hz0 hc
  go_enter Try.func28, Try.ntmps28
  go_wp2_with fail
  refine HC.out.mono ?_
  rintro e w1 ⟨rfl, bw⟩
  rw [World.size_alloc] at bw
  have R1 := Lib.hid (R0.out.below (by rw [World.size_alloc]; exact bw))
  have B1 := Lib.hid (show Below w.heap.size w w1 from ((Below.refl _ _).alloc (Nat.le_refl _) _).trans (bw.mono (Nat.le_succ _)))
  clear bw R0
  go_wp2_with (first
    | (refine wpList_build rfl 38 #[] rfl (v := .agg (bva z)) ?hbld ?_; case hbld => exact HBZ.out _)
    | (refine wpList_store_row rfl 38 (.tmp 4) (.tmp 13) rfl w.heap.size (bva z) rfl rfl 38 (bva z) R1.out HIZ.out (by rfl) (bva_one _) ?_))
  exact bodyPost_ret (v := .tuple #[.agg (bva z), .int .i64 2]) (results_ct8 Try.results28 _ _ w.heap.size 38 (bva z) _ rfl (setRow_heap _ _ _ _ _ _ R1.out) Try.underlying38 rfl HIZ.out) rfl ⟨rfl, below_setRow B1.out (Nat.le_refl _) _⟩
theorem mread_nil (n : Int) : Calls Try.prog 28 #[.pointer none, .int .i64 n] w (RetB (.tuple #[.agg (bva zeroS), .int .i64 2]) w) := mread_no (fun w' _ => has_nil w' n)
set_option maxRecDepth 100000 in
set_option maxHeartbeats 6400000 in
theorem mread_any (h : (ML C G g).At w s F) (hab : s.b.length = s.a.length) (n : Int) : Calls Try.prog 28 #[.pointer (some ⟨g, 0, none⟩), .int .i64 n] w (RetA (ML C G g) (.tuple #[.agg (bva (readM C G s n).1), .int .i64 (readM C G s n).2]) s F w) := by
  cases hh : has s n with
  | false =>
    rw [readM, hh, if_neg (by simp)]
    refine (mread_no (fun w' hb => ?_)).mono fun _ _ hr => RetB.reta h hr
    have := has_any ((ML C G g).below h hb) n
    rwa [hh] at this
  | true =>
    obtain ⟨k, rfl⟩ : ∃ k : Nat, n = (k : Int) := ⟨n.toNat, by rw [has] at hh; simp at hh; omega⟩
    have hk : k < s.a.length := by rw [has] at hh; simp at hh; exact hh
    have HK := Lib.hid (show ∀ i, i < 2 → k < (s.st i).length from fun i hi => by rcases two hi with rfl | rfl; exact hk; show k < s.b.length; omega)
    obtain ⟨z, hz0⟩ : ∃ z : List UInt8, z = zeroS := ⟨_, rfl⟩
    have hz : ∀ W, (zeroValue 38).run Try.prog W = .ok (.agg (bva z)) W := fun _ => by rw [hz0]; kernel_rfl
    have HBZ := Lib.hid (show ∀ W, (Instr.build 38 #[]).run Try.prog W = .ok (.agg (bva z)) W from fun _ => by rw [hz0]; kernel_rfl)
    have HZ3 := Lib.hid (show z.length = 128 by rw [hz0]; exact zeroS_length)
    have HIZ : Hid ((Try.prog.info? 38).map (·.size) = some (bva z).size) := by rw [bva_size, HZ3.out]; exact info_sec
    have R0 := Lib.hid (show Bx w (w.alloc (.cells (bva z) 38)) F w.heap.size (bva z) 38 from ⟨heap_alloc_new _ _, Nat.le_refl _, fun hf => by have := (ML C G g).lt h _ hf; omega⟩)
    have M0 := Lib.hid (show Mv (ML C G g) w F (w.alloc (.cells (bva z) 38)) s F from (Mv.start h).below ((Below.refl _ _).alloc (Nat.le_refl _) _))
    have hcc := has_any M0.out.at_ (k : Int)
    rw [hh] at hcc
    have HC := Lib.hid hcc
    obtain ⟨RV, hRV⟩ : ∃ RV, RV = Value.tuple #[.agg (bva (readM C G s k).1), .int .i64 (readM C G s k).2] := ⟨_, rfl⟩
    rw [← hRV]
    rw [readM, hh, if_pos rfl, Int.toNat_natCast, ← hz0] at hRV
    have HRV := Lib.hid hRV
    clear hRV hz0 hcc hh hk hab h
    go_enter Try.func28, Try.ntmps28
    go_wp2_with fail
    refine HC.out.mono ?_
    rintro e w1 ⟨rfl, bw⟩
    have M1 := Lib.hid (M0.out.below bw)
    have R1 := Lib.hid (R0.out.below bw)
    clear bw M0 R0
    obtain ⟨q, hq⟩ : ∃ q, q = w.heap.size := ⟨_, rfl⟩
    rw [← hq] at R1
    rw [← hq]
    clear hq
    go_wp2_with fail
    go_loopw [14] (fun i wr => ∃ (j : Nat) (F' : Nat → Prop), i = .int .i64 j ∧ j ≤ 2 ∧ Mv (ML C G g) w F wr s F' ∧ Bx w wr F' q (bva z) 38 ∧ ∀ i, i < j → right C G s i k = false) (fun i _ => 2 - (intOf i).toNat)
    case atStart => exact ⟨0, F, rfl, by omega, M1.out, R1.out, fun i hi => by omega⟩
    case round =>
      clear M1 R1
      obtain ⟨j, F', rfl, hj, hm, hr, hno⟩ := hrel
      have M := Lib.hid hm
      have R := Lib.hid hr
      have HJ := Lib.hid hj
      have HN := Lib.hid hno
      clear hm hr hj hno
      by_cases hlt : j < 2
      · have HJ2 := Lib.hid hlt
        have j0 : (0 : Int) ≤ (j : Int) := by omega
        have j1 : (j : Int) < 2 := by omega
        clear hlt
        go_wp2_with fail
        refine (right_any M.out.at_ HJ2.out (HK.out j HJ2.out)).mono ?_
        rintro e w2 ⟨rfl, bw⟩
        have M2 := Lib.hid (M.out.below bw)
        have R2 := Lib.hid (R.out.below bw)
        clear bw M R
        obtain ⟨y, hy⟩ : ∃ y, y = rightV C G s j k := ⟨_, rfl⟩
        have HY3 := Lib.hid (show y.length = 128 by rw [hy]; exact rightV_len M2.out.at_ HJ2.out k)
        have HIY : Hid ((Try.prog.info? 38).map (·.size) = some (bva y).size) := by rw [bva_size, HY3.out]; exact info_sec
        have HY := Lib.hid hy
        rw [← hy]
        clear hy
        go_wp2_with (show wpList _ _ _ ({ dst := none, op := .store 38 (.tmp 7) (.tmp 22), type := _, pos := _, after := _, guard := _ } :: _) _ _; apply Classical.byContradiction; intro hneg)
        refine hneg ?_
        clear hneg
        refine wpList_store_row rfl 38 (.tmp 7) (.tmp 22) rfl w2.heap.size (bva y) rfl rfl 38 (bva z) (heap_alloc_new _ _) HIY.out (by rw [bva_size, bva_size, HY3.out, HZ3.out]) (bva_one _) ?_
        obtain ⟨w3, hw3⟩ : ∃ w3, w3 = (w2.alloc (.cells (bva z) 38)).setRow w2.heap.size (bva y) := ⟨_, rfl⟩
        have hbw3 : Below w2.heap.size w2 w3 := by rw [hw3]; exact below_setRow ((Below.refl _ _).alloc (Nat.le_refl _) _) (Nat.le_refl _) _
        have BXw3 := Lib.hid (show Blk w3 w2.heap.size (bva y) 38 from by rw [hw3]; exact setRow_heap _ _ _ _ _ _ (heap_alloc_new _ _))
        rw [← hw3]
        clear hw3
        have M3 := Lib.hid (M2.out.below hbw3)
        have R3 := Lib.hid (R2.out.below hbw3)
        clear hbw3 M2 R2
        cases ho : right C G s j k with
        | false =>
          go_wp2_with fail
          go_roundw
          case rel => exact ⟨j + 1, F', by go_num, HJ2.out, M3.out, R3.out, fun i hi => by
            by_cases h : i < j
            · exact HN.out i h
            · obtain rfl : i = j := by omega
              exact ho⟩
          case measure => (have := HJ2.out; simp [intOf]; omega)
        | true =>
          have HEND := Lib.hid (show RV = .tuple #[.agg (bva y), .int .i64 0] by
            rw [HRV.out, HY.out, rightV, ho, if_pos rfl]
            rcases two HJ2.out with rfl | rfl
            · rw [ho, if_pos rfl]
            · rw [HN.out 0 (by omega), if_neg (by simp), ho, if_pos rfl])
          clear ho
          go_wp2_with (first
            | (refine wpList_load_row rfl 38 (.tmp 7) rfl w2.heap.size rfl 38 (bva y) (0, 0) _ BXw3.out Try.underlying38 rfl HIY.out ?_)
            | (refine wpList_store_row rfl 38 (.tmp 4) (.tmp 25) rfl q (bva y) rfl rfl 38 (bva z) R3.out.1 HIY.out (by rw [bva_size, bva_size, HY3.out, HZ3.out]) (bva_one _) ?_))
          exact bodyPost_ret (v := .tuple #[.agg (bva y), .int .i64 0]) (results_ct8 Try.results28 _ _ q 38 (bva y) _ rfl (setRow_heap _ _ _ _ _ _ R3.out.1) Try.underlying38 rfl HIY.out) rfl ⟨by rw [HEND.out], F', M3.out.own (But.setRow (S := fun x => x = q) (But.refl _) (.inl rfl) _) (fun x e => by rw [e]; exact R3.out.2.1) (fun x hx e => R3.out.2.2 (e ▸ hx))⟩
      · obtain rfl : j = 2 := by have := HJ.out; omega
        have hE := eq_ff
        obtain ⟨a, ha⟩ : ∃ a, a = C.there s.d 0 := ⟨_, rfl⟩
        obtain ⟨b, hb⟩ : ∃ b, b = C.there s.d 1 := ⟨_, rfl⟩
        have HEND := Lib.hid (show RV = .tuple #[.agg (bva z), .int .i64 (if a || b then 9 else 13)] by
          rw [HRV.out, HN.out 0 (by omega), if_neg (by simp), HN.out 1 (by omega), if_neg (by simp), ha, hb])
        have HT := Lib.hid (each_there M.out.at_)
        rw [← ha, ← hb] at HT
        clear hlt ha hb
        go_wp2_with fail
        refine HT.out.mono ?_
        rintro e w2 ⟨rfl, F2, hm2⟩
        have M2 := Lib.hid (M.out.trans hm2)
        have R2 := Lib.hid (R.out.step hm2)
        clear hm2 M R
        cases a <;> cases b
        · go_wp2_with (first
            | (refine wpList_build rfl 50 #[] rfl (v := .agg (two2 false false)) ?hbld ?_; case hbld => exact build_ff _)
            | (refine wpList_build rfl 38 #[] rfl (v := .agg (bva z)) ?hbld ?_; case hbld => exact HBZ.out _)
            | (refine wpList_store_row rfl 38 (.tmp 4) (.tmp 32) rfl q (bva z) rfl rfl 38 (bva z) R2.out.1 HIZ.out (by rfl) (bva_one _) ?_))
          exact bodyPost_ret (v := .tuple #[.agg (bva z), .int .i64 13]) (results_ct8 Try.results28 _ _ q 38 (bva z) _ rfl (setRow_heap _ _ _ _ _ _ R2.out.1) Try.underlying38 rfl HIZ.out) rfl ⟨by rw [HEND.out]; rfl, F2, M2.out.own (But.setRow (S := fun x => x = q) (But.refl _) (.inl rfl) _) (fun x e => by rw [e]; exact R2.out.2.1) (fun x hx e => R2.out.2.2 (e ▸ hx))⟩
        · go_wp2_with (first
            | (refine wpList_build rfl 50 #[] rfl (v := .agg (two2 false false)) ?hbld ?_; case hbld => exact build_ff _)
            | (refine wpList_build rfl 38 #[] rfl (v := .agg (bva z)) ?hbld ?_; case hbld => exact HBZ.out _)
            | (refine wpList_store_row rfl 38 (.tmp 4) (.tmp 33) rfl q (bva z) rfl rfl 38 (bva z) R2.out.1 HIZ.out (by rfl) (bva_one _) ?_))
          exact bodyPost_ret (v := .tuple #[.agg (bva z), .int .i64 9]) (results_ct8 Try.results28 _ _ q 38 (bva z) _ rfl (setRow_heap _ _ _ _ _ _ R2.out.1) Try.underlying38 rfl HIZ.out) rfl ⟨by rw [HEND.out]; rfl, F2, M2.out.own (But.setRow (S := fun x => x = q) (But.refl _) (.inl rfl) _) (fun x e => by rw [e]; exact R2.out.2.1) (fun x hx e => R2.out.2.2 (e ▸ hx))⟩
        · go_wp2_with (first
            | (refine wpList_build rfl 50 #[] rfl (v := .agg (two2 false false)) ?hbld ?_; case hbld => exact build_ff _)
            | (refine wpList_build rfl 38 #[] rfl (v := .agg (bva z)) ?hbld ?_; case hbld => exact HBZ.out _)
            | (refine wpList_store_row rfl 38 (.tmp 4) (.tmp 33) rfl q (bva z) rfl rfl 38 (bva z) R2.out.1 HIZ.out (by rfl) (bva_one _) ?_))
          exact bodyPost_ret (v := .tuple #[.agg (bva z), .int .i64 9]) (results_ct8 Try.results28 _ _ q 38 (bva z) _ rfl (setRow_heap _ _ _ _ _ _ R2.out.1) Try.underlying38 rfl HIZ.out) rfl ⟨by rw [HEND.out]; rfl, F2, M2.out.own (But.setRow (S := fun x => x = q) (But.refl _) (.inl rfl) _) (fun x e => by rw [e]; exact R2.out.2.1) (fun x hx e => R2.out.2.2 (e ▸ hx))⟩
        · go_wp2_with (first
            | (refine wpList_build rfl 50 #[] rfl (v := .agg (two2 false false)) ?hbld ?_; case hbld => exact build_ff _)
            | (refine wpList_build rfl 38 #[] rfl (v := .agg (bva z)) ?hbld ?_; case hbld => exact HBZ.out _)
            | (refine wpList_store_row rfl 38 (.tmp 4) (.tmp 33) rfl q (bva z) rfl rfl 38 (bva z) R2.out.1 HIZ.out (by rfl) (bva_one _) ?_))
          exact bodyPost_ret (v := .tuple #[.agg (bva z), .int .i64 9]) (results_ct8 Try.results28 _ _ q 38 (bva z) _ rfl (setRow_heap _ _ _ _ _ _ R2.out.1) Try.underlying38 rfl HIZ.out) rfl ⟨by rw [HEND.out]; rfl, F2, M2.out.own (But.setRow (S := fun x => x = q) (But.refl _) (.inl rfl) _) (fun x e => by rw [e]; exact R2.out.2.1) (fun x hx e => R2.out.2.2 (e ▸ hx))⟩
end
end Go.Proofs.Ytdjiagcnaogebaa.Mi
/-
  The contract of slices.Repeat of one bool.
-/
namespace Go.Proofs.Ytdjiagcnaogebaa.Mi
open Go.RowKit Kd
attribute [local go_sem ↓] Go.wp_at_zero Go.wp_at_succ
theorem mask_small (a : Nat) (ha : a < 4294967296) : bits .and .u64 (a : Int) 4294967295 = (a : Int) := by
  have h := bits_and_u64_nat a 4294967295 (by omega) (by omega)
  rw [show a &&& 4294967295 = a % 4294967296 from Nat.and_two_pow_sub_one_eq_mod a 32, Nat.mod_eq_of_lt ha] at h
  exact h
theorem mul_one (w : World) (N : Nat) (hN : N ≤ 4096) : Calls Try.prog 98 #[.int .u64 1, .int .u64 N] w (Ret0 (.tuple #[.int .u64 0, .int .u64 N]) w) := by
  have a1 : bits .and .u64 1 4294967295 = 1 := by decide
  have a0 : bits .and .u64 0 4294967295 = 0 := by decide
  have aN : bits .and .u64 (N : Int) 4294967295 = N := mask_small N (by omega)
  have dN : (N : Int) / 4294967296 = 0 := by omega
  have wN : IntKind.u64.wrap (N : Int) = N := IntWalk.u64_in _ (by omega)
  have w0 : IntKind.u64.wrap 0 = 0 := by decide
  clear hN
  go_enter Try.func98, Try.ntmps98
  go_wp2_with fail
  exact bodyPost_ret (results_tmp2 Try.results98 _ _ _) rfl ⟨by rfl, rfl⟩
theorem mul_u (w : World) (N : Nat) (hN : N ≤ 4096) : Calls Try.prog 93 #[.int .u64 1, .int .u64 N] w (Ret0 (.tuple #[.int .u64 0, .int .u64 N]) w) := by
  have HN := Lib.hid hN
  clear hN
  go_enter Try.func93, Try.ntmps93
  go_wp2_with fail
  refine (mul_one _ N HN.out).mono ?_
  rintro e _ ⟨rfl, rfl⟩
  go_wp2_with fail
  exact bodyPost_ret (results_tmp2 Try.results93 _ _ _) rfl ⟨rfl, rfl⟩
theorem info_boolW : (Try.prog.info? 4).map (fun i => (i.zero, i.size, i.bytes)) = some (some (.bool false), 1, 1) := by kernel_rfl
theorem info_bool : (Try.prog.info? 4).map (·.size) = some 1 := by kernel_rfl
/-- A row whose first n cells are b. -/
structure Fst (w0 w : World) (g N n : Nat) (b : Bool) : Prop where
  cells : ∃ cur : Array Value, w.heap[g]? = some (.cells cur 4 (0, 0)) ∧ cur.size = N ∧ ∀ i, i < n → cur[i]? = some (.bool b)
  le : n ≤ N
  bel : Below w0.heap.size w0 w
theorem splice_get {α : Type} (L : List α) (o : Nat) (cs : List α) (h : o + cs.length ≤ L.length) (i : Nat) : (splice L o cs)[i]? = if i < o then L[i]? else if i < o + cs.length then cs[i - o]? else L[i]? := by
  unfold splice
  have ht : (L.take o).length = o := by rw [List.length_take]; omega
  by_cases h1 : i < o
  · rw [if_pos h1, List.getElem?_append_left (by omega), List.getElem?_take, if_pos h1]
  · rw [if_neg h1, List.getElem?_append_right (by omega), ht]
    by_cases h2 : i < o + cs.length
    · rw [if_pos h2, List.getElem?_append_left (by omega)]
    · rw [if_neg h2, List.getElem?_append_right (by omega), List.getElem?_drop]
      congr 1; omega
/-- A copy of the first cells behind them. -/
theorem Fst.copy {w0 w : World} {g N n : Nat} {b : Bool} (h : Fst w0 w g N n b) (hg : w0.heap.size ≤ g) (m : Nat) (hm : m = Nat.min n (N - n)) (k1 k2 : Nat) :
    ∃ w', (Builtin.copy_ #[105, 105] 3 #[.slice (some ⟨g, n, none⟩) (N - n) k1, .slice (some ⟨g, 0, none⟩) n k2]).run Try.prog w = .ok (goInt m) w' ∧ Fst w0 w' g N (n + m) b := by
  obtain ⟨cur, hc, hs, hb⟩ := h.cells
  have hle := h.le
  have hmn : m ≤ n ∧ m ≤ N - n := by rw [hm]; exact ⟨Nat.min_le_left _ _, Nat.min_le_right _ _⟩
  have hr := run_copyN (P := Try.prog) w 105 105 3 4 1 Try.underlying105 info_bool g n (N - n) k1 ⟨g, 0, none⟩ n k2 cur 4 (List.replicate m (.bool b)) hc
    (by rw [List.length_replicate, Nat.mul_one, hm]) (fun j v hv => by
      have hj : j < m := by have := (List.getElem?_eq_some_iff.1 hv).1; rwa [List.length_replicate] at this
      rw [List.getElem?_replicate, if_pos hj] at hv
      rw [Addr.add_mid, Nat.zero_add, ← hv, ← hb j (by omega)]
      exact Blk.cell (show Blk w g cur 4 from hc) j) (by rw [List.length_replicate]; omega) (fun v hv => by rw [List.eq_of_mem_replicate hv]; rfl)
  rw [← hm] at hr
  refine ⟨_, hr, ⟨⟨_, setRow_heap _ _ _ _ _ _ hc, ?_, fun i hi => ?_⟩, by omega, below_setRow h.bel hg _⟩⟩
  · rw [List.size_toArray, length_splice _ _ _ (by rw [List.length_replicate, Array.length_toList]; omega), Array.length_toList]; exact hs
  · rw [List.getElem?_toArray, splice_get _ _ _ (by rw [List.length_replicate, Array.length_toList]; omega), List.length_replicate]
    split
    · rw [Array.getElem?_toList]; exact hb i (by omega)
    · rw [List.getElem?_replicate, if_pos (by omega)]
theorem Fst.row {w0 w : World} {g N : Nat} {b : Bool} (h : Fst w0 w g N N b) (hg : w0.heap.size ≤ g) (hN : N ≤ maxLen) : w.ownsRow w0.heap.size 4 1 (.slice (some ⟨g, 0, none⟩) N N) N (bs (List.replicate N b)) := by
  obtain ⟨cur, hc, hs, hb⟩ := h.cells
  refine ⟨by rw [bs_length, List.length_replicate, Nat.mul_one], .inr ⟨g, N, cur, rfl, hg, hc, Nat.le_refl _, hN, by rw [hs, Nat.mul_one], ?_⟩⟩
  apply List.ext_getElem?
  intro i
  rw [List.getElem?_take, Nat.mul_one, bs, List.getElem?_map, List.getElem?_replicate]
  split
  · rw [Array.getElem?_toList, hb i (by assumption)]; rfl
  · rfl
set_option maxRecDepth 100000 in
set_option maxHeartbeats 6400000 in
theorem repeat_any {w : World} {a : Addr} {b : Bool} {c : Nat} (hb : w.cell? a = some (.bool b)) (N : Nat) (hN : N ≤ 4096) :
    Calls Try.prog 61 #[.slice (some a) 1 c, .int .i64 N] w (fun e w' => ∃ g, e = .returned (.slice (some ⟨g, 0, none⟩) N N) ∧ w'.ownsRow w.heap.size 4 1 (.slice (some ⟨g, 0, none⟩) N N) N (bs (List.replicate N b)) ∧ Below w.heap.size w w') := by
  have HN := Lib.hid hN
  have HB := Lib.hid hb
  obtain ⟨i0, hi, hz0, hz1, hz2⟩ := info_parts info_boolW
  have n0 : (0 : Int) ≤ (N : Int) := by omega
  have n1 : (N : Int) ≤ 4096 := by omega
  have wu : IntKind.u64.wrap (N : Int) = N := IntWalk.u64_in _ (by omega)
  have wi : IntKind.i64.wrap (N : Int) = N := IntWalk.i64_in _ (by omega)
  have w1 : IntKind.u64.wrap 1 = 1 := by decide
  clear hN
  go_enter Try.func61, Try.ntmps61
  go_wp2_with fail
  refine (mul_u _ N HN.out).mono ?_
  rintro e _ ⟨rfl, rfl⟩
  go_wp2_with (at_make; apply Classical.byContradiction; intro hneg)
  refine hneg ?_
  clear hneg
  refine wpList_make_full _ rfl _ _ _ rfl w.heap.size 4 i0 _ 1 Try.underlying105 hi hz0 hz1 .i64 .i64 _ _ N rfl rfl rfl rfl (by rw [hz2]; have := HN.out; omega) (by have := HN.out; unfold maxLen; omega) (Nat.le_refl _) ?_
  intro w1 hown hg
  have HO1 := Lib.hid hown
  have HG1 := Lib.hid (below_of_grown8 hg)
  have HMC := Lib.hid hg
  clear hown hg
  obtain ⟨g, hge⟩ : ∃ g, g = w.heap.size := ⟨_, rfl⟩
  rw [← hge]
  rw [← hge] at HO1
  have HGE := Lib.hid (show w.heap.size ≤ g by omega)
  have F0 := Lib.hid (show Fst w w1 g N 0 b from by
    rcases HO1.out.2 with ⟨h0, _⟩ | ⟨g', cap, cur, h0, _, h2, _, _, h5, _⟩
    · cases h0
    · injection h0 with h0 _ h7
      injection h0 with h0
      injection h0 with h0
      subst h0 h7
      exact ⟨⟨cur, h2, by rw [h5, Nat.mul_one], fun i hi => absurd hi (Nat.not_lt_zero _)⟩, Nat.zero_le _, HG1.out⟩)
  have hab : a.block < w.heap.size := block_lt_of_cell HB.out
  have HB1 := Lib.hid (show w1.cell? a = some (.bool b) from by rw [HG1.out.cell hab]; exact HB.out)
  clear hge HO1 hab
  have HCP := Lib.hid (show ∃ w2, (Builtin.copy_ #[105, 105] 3 #[.slice (some ⟨g, 0, none⟩) N N, .slice (some a) 1 c]).run Try.prog w1 = .ok (goInt (Nat.min 1 N)) w2 ∧ Fst w w2 g N (Nat.min 1 N) b from by
    obtain ⟨cur, hc, hs, _⟩ := F0.out.cells
    have hm1 : Nat.min 1 N ≤ 1 ∧ Nat.min 1 N ≤ N := ⟨Nat.min_le_left _ _, Nat.min_le_right _ _⟩
    have hr := run_copyN (P := Try.prog) w1 105 105 3 4 1 Try.underlying105 info_bool g 0 N N a 1 c cur 4 (List.replicate (Nat.min 1 N) (.bool b)) hc
      (by rw [List.length_replicate, Nat.mul_one]) (fun j v hv => by
        have hj : j < Nat.min 1 N := by have := (List.getElem?_eq_some_iff.1 hv).1; rwa [List.length_replicate] at this
        rw [List.getElem?_replicate, if_pos hj] at hv
        obtain rfl : j = 0 := by omega
        rw [show a.add 0 = a by rw [add_zero], ← hv]
        exact HB1.out) (by rw [List.length_replicate]; omega) (fun v hv => by rw [List.eq_of_mem_replicate hv]; rfl)
    refine ⟨_, hr, ⟨⟨_, setRow_heap _ _ _ _ _ _ hc, ?_, fun i hi => ?_⟩, hm1.2, below_setRow F0.out.bel HGE.out _⟩⟩
    · rw [List.size_toArray, length_splice _ _ _ (by rw [List.length_replicate, Array.length_toList]; omega), Array.length_toList]; exact hs
    · rw [List.getElem?_toArray, splice_get _ _ _ (by rw [List.length_replicate, Array.length_toList]; omega), List.length_replicate, if_neg (Nat.not_lt_zero _), if_pos (by omega), List.getElem?_replicate, if_pos (by omega)])
  obtain ⟨m0, hm0⟩ : ∃ m0, m0 = Nat.min 1 N := ⟨_, rfl⟩
  rw [← hm0] at HCP
  have HM0 := Lib.hid hm0
  obtain ⟨w2, hcp, hf2⟩ := HCP.out
  have F2 := Lib.hid hf2
  have hcq : (Builtin.copy_ #[105, 105] 3 #[.slice (some ⟨g, 0, none⟩) N N, .slice (some a) 1 c]).run Try.prog w1 = .ok (.int .i64 m0) w2 := hcp
  clear hm0 hcp hf2 HCP F0 HMC HG1 HB1
  go_wp2_with fail
  go_loopw [8] (fun x wr => ∃ n : Nat, x = .int .i64 n ∧ Fst w wr g N n b ∧ (n = 0 → N = 0)) (fun x _ => N - (intOf x).toNat)
  case atStart => exact ⟨m0, rfl, F2.out, fun h => by have h1 := HM0.out; rw [h] at h1; have : Nat.min 1 N = min 1 N := rfl; omega⟩
  case round =>
    clear F2 HM0 hcq
    obtain ⟨n, rfl, hf, hnz⟩ := hrel
    have FF := Lib.hid hf
    have HNZ := Lib.hid hnz
    clear hf hnz
    by_cases hlt : n < N
    · have HLT := Lib.hid hlt
      have m0 : (0 : Int) ≤ (n : Int) := by omega
      have m1 : (n : Int) < (N : Int) := by omega
      have m2 : (n : Int) ≤ (N : Int) := by omega
      have m3 : ¬ N = n := by omega
      have e1 : (N : Int) - (n : Int) = ((N - n : Nat) : Int) := by omega
      obtain ⟨k, hk⟩ : ∃ k, k = Nat.min n (N - n) := ⟨_, rfl⟩
      have HK := Lib.hid hk
      have HKB := Lib.hid (show k ≤ n ∧ k ≤ N - n by rw [hk]; exact ⟨Nat.min_le_left _ _, Nat.min_le_right _ _⟩)
      have HK0 := Lib.hid (show 0 < k by
        have h1 : n ≠ 0 := fun h => by have := HNZ.out h; omega
        have : Nat.min n (N - n) = min n (N - n) := rfl
        omega)
      have wk : IntKind.i64.wrap ((n : Int) + (k : Int)) = ((n + k : Nat) : Int) := by rw [show (n : Int) + (k : Int) = ((n + k : Nat) : Int) by omega]; exact IntWalk.i64_in _ (by have := HKB.out; have := HN.out; omega)
      have HCP := Lib.hid (show ∀ W, W = wr.drew → ∃ w', (Builtin.copy_ #[105, 105] 3 #[.slice (some ⟨g, n, none⟩) (N - n) (N - n), .slice (some ⟨g, 0, none⟩) n N]).run Try.prog W = .ok (goInt k) w' ∧ Fst w w' g N (n + k) b from fun W hW => by
        subst hW
        have hf : Fst w wr.drew g N n b := ⟨FF.out.cells, FF.out.le, FF.out.bel.drew⟩
        exact hf.copy HGE.out k HK.out _ _)
      clear hlt hk
      go_wp2_with fail
      refine wp_region_held_drew (S := fun _ => True) (by kernel_rfl) trivial (fun hh => ?_)
      have HH := Lib.hid hh
      clear hh
      refine wpAnyH_take (i := 0) (v := ?vR0) rfl (by kernel_rfl) (by kernel_rfl) (by kernel_rfl) (fun _ _ _ h => h) (Or.inl ⟨by rfl, fun w' _ => ?yR0⟩) HH.out ?_
      case yR0 => (go_simp; try with_reducible rfl)
      refine wpAnyH_take (i := 1) (v := ?vR1) rfl (by kernel_rfl) (by kernel_rfl) (by kernel_rfl) (fun _ _ _ h => h) (Or.inl ⟨by rfl, fun w' _ => ?yR1⟩) HH.out ?_
      case yR1 => (go_simp; try with_reducible rfl)
      try simp only [List.getElem_toArray, List.getElem_cons_succ, List.getElem_cons_zero, Act.put, List.setIfInBounds_toArray, List.set_cons_zero, List.set_cons_succ]
      refine wpAnyH_take (i := 2) (v := ?vR2) rfl (by kernel_rfl) (by kernel_rfl) (by kernel_rfl) (fun _ _ _ h => h) (Or.inl ⟨by rfl, fun w' _ => ?yR2⟩) HH.out ?_
      case yR2 => (go_simp; try with_reducible rfl)
      refine wpAnyH_take (i := 3) (v := ?vR3) rfl (by kernel_rfl) (by kernel_rfl) (by kernel_rfl) (fun _ _ _ h => h) (Or.inl ⟨by rfl, fun w' _ => ?yR3⟩) HH.out ?_
      case yR3 => (go_simp; try with_reducible rfl)
      refine wpAnyH_take (i := 4) (v := ?vR4) rfl (by kernel_rfl) (by kernel_rfl) (by kernel_rfl) (fun _ _ _ h => h) (Or.inl ⟨by rfl, fun w' _ => ?yR4⟩) HH.out ?_
      case yR4 => (go_simp; try with_reducible rfl)
      try simp only [List.getElem_toArray, List.getElem_cons_succ, List.getElem_cons_zero, Act.put, List.setIfInBounds_toArray, List.set_cons_zero, List.set_cons_succ]
      refine wpAnyH_take (i := 5) (v := ?vR5) rfl (by kernel_rfl) (by kernel_rfl) (by kernel_rfl) (fun _ _ _ h => h) (Or.inl ⟨by rfl, fun w' _ => ?yR5⟩) HH.out ?_
      case yR5 => (go_simp; try with_reducible rfl)
      refine wpAnyH_take (i := 6) (v := ?vR6) rfl (by kernel_rfl) (by kernel_rfl) (by kernel_rfl) (fun _ _ _ h => h) (Or.inl ⟨by rfl, fun w' _ => ?yR6⟩) HH.out ?_
      case yR6 => (go_simp; try with_reducible rfl)
      try simp only [List.getElem_toArray, List.getElem_cons_succ, List.getElem_cons_zero, Act.put, List.setIfInBounds_toArray, List.set_cons_zero, List.set_cons_succ]
      refine wpAnyH_ready (rs := [7]) (by kernel_rfl) (by simp) (AllReadyH.cons rfl (fun K hK => ?_) AllReadyH.nil)
      obtain ⟨w3, hcp, hf3⟩ := HCP.out _ rfl
      have F3 := Lib.hid hf3
      have HC3 := Lib.hid hcp
      clear hcp hf3 HCP
      refine step_copyR (by rfl) (.tmp 41) (.tmp 44) 105 105 rfl _ _ rfl rfl HC3.out ?_
      refine hK.out _ _ trivial (fun hh => ?_)
      have HH' := Lib.hid hh
      clear hh hK K HH FF HC3
      have HH := Lib.hid HH'.out
      clear HH'
      refine wpAnyH_take (i := 8) (v := ?vR8) rfl (by kernel_rfl) (by kernel_rfl) (by kernel_rfl) (fun _ _ _ h => h) (Or.inl ⟨by rfl, fun w' _ => ?yR8⟩) HH.out ?_
      case yR8 => (go_simp; try with_reducible rfl)
      refine wpAnyH_take (i := 9) (v := ?vR9) rfl (by kernel_rfl) (by kernel_rfl) (by kernel_rfl) (fun _ _ _ h => h) (Or.inl ⟨by rfl, fun w' _ => ?yR9⟩) HH.out ?_
      case yR9 => (go_simp; try with_reducible rfl)
      try simp only [List.getElem_toArray, List.getElem_cons_succ, List.getElem_cons_zero, Act.put, List.setIfInBounds_toArray, List.set_cons_zero, List.set_cons_succ]
      refine wpAnyH_done (by kernel_rfl) ?_ _
      go_wp2_with fail
      go_roundw
      case rel => exact ⟨n + k, by go_num, F3.out, fun h => by have := HK0.out; omega⟩
      case measure => (have := HLT.out; have := HK0.out; simp [intOf]; omega)
    · obtain rfl : n = N := by have := FF.out.le; omega
      clear hlt
      go_wp2_with fail
      go_ret
      exact ⟨g, rfl, FF.out.row HGE.out (by have := HN.out; unfold maxLen; omega), FF.out.bel⟩
end Go.Proofs.Ytdjiagcnaogebaa.Mi
/-
  The contract of mirror.New.
-/
namespace Go.Proofs.Ytdjiagcnaogebaa.Mi
open Go.RowKit Kd
attribute [local go_sem ↓] Go.wp_at_zero Go.wp_at_succ
section
variable {C : Duo} {G : Gd} {g : Nat} {w w1 w' : World} {s : Mr C} {A B : Option Addr} {n c m e : Nat} {F1 F : Nat → Prop}
def Mr.row (s : Mr C) (i : Nat) (l : List Bool) : Mr C := if i = 0 then ⟨s.d, l, s.b⟩ else ⟨s.d, s.a, l⟩
/-- A new row of what is stale. -/
theorem ml_setrow (hR : ∀ A n c B m e, G.R A n c B m e) (h : (ML C G g).At w s F) (hb : Below w.heap.size w w1) {q k i : Nat} {l : List Bool} (ho : w1.ownsRow w.heap.size 4 1 (.slice (some ⟨q, 0, none⟩) k k) k (bs l)) (hl : l.length = k) (hi : i < 2) :
    Mv (ML C G g) w F (w1.setCell ⟨g, 2 + i, none⟩ (.slice (some ⟨q, 0, none⟩) k k)) (s.row i l) (fun x => F x ∨ x = q) := by
  obtain ⟨A, n, c, B, m, e, F1, h, h1, h2⟩ := h
  have hlt := h.lt
  have hq := (ho.lt q rfl)
  have h0 : MrR C G g w1 s A n c B m e F1 := h.but (T := fun _ => False) (but_below hb) (fun _ _ h => h)
  have hT : But (fun x => x = g) w1 (w1.setCell ⟨g, 2 + i, none⟩ (.slice (some ⟨q, 0, none⟩) k k)) := but_one _
  have hgw : g < w.heap.size := h.blk.lt
  have ho0 : w1.ownsRow 0 4 1 (.slice (some ⟨q, 0, none⟩) k k) k (bs l) := ⟨ho.1, by
    rcases ho.2 with h3 | ⟨g', cap, cur, h3, _, h4⟩
    · exact .inl h3
    · exact .inr ⟨g', cap, cur, h3, Nat.zero_le _, h4⟩⟩
  have hfin : ∀ x, (F x ∨ x = q) → x < (w1.setCell ⟨g, 2 + i, none⟩ (.slice (some ⟨q, 0, none⟩) k k)).heap.size := by
    rintro x (hx | rfl)
    · exact Nat.lt_of_lt_of_le (h2 x hx) (Nat.le_trans hb.size hT.size)
    · exact Nat.lt_of_lt_of_le hq.2 hT.size
  have hnew : ∀ x, (F x ∨ x = q) → F x ∨ w.heap.size ≤ x := by
    rintro x (hx | rfl)
    · exact .inl hx
    · exact .inr hq.1
  have hbt : But F w (w1.setCell ⟨g, 2 + i, none⟩ (.slice (some ⟨q, 0, none⟩) k k)) := (but_below hb).trans (hT.mono (fun x hx => h1 x (.inl hx)))
  have hoT := Own.but ho0 hT (fun x hx hx' => by injection hx with hx; replace hx : q = x := hx; omega)
  have hdT := C.L.but h0.d hT (fun x hx hx' => h.ag (hx' ▸ hx))
  have hgb : ∀ x ∈ G.l, Blk (w1.setCell ⟨g, 2 + i, none⟩ (.slice (some ⟨q, 0, none⟩) k k)) x.1 x.2.1 x.2.2 ∧ ¬ F1 x.1 := fun x hx => ⟨(h0.gb x hx).1.but hT (fun hx' => h0.box_ne hx h0.blk (.inr rfl) hx'), (h0.gb x hx).2⟩
  rcases two hi with rfl | rfl
  · refine ⟨⟨some ⟨q, 0, none⟩, k, k, B, m, e, F1, ⟨blk_setN8 h0.blk 2 _, hoT, Own.but h0.b hT (fun x hx hx' => h.rows.2 x hx hx'), hl, h.bn, hdT, h.ag, ?_, h.ab, ?_, hR _ _ _ _ _ _, hgb⟩, ?_, hfin⟩, hnew, hbt⟩
    · intro x hx hf
      injection hx with hx; replace hx : q = x := hx
      have := C.L.lt h.d x hf; omega
    · intro x hx hx'
      injection hx with hx; replace hx : q = x := hx
      have := hlt x (.inr (.inr (.inl hx'))); omega
    · rintro x (hx | hx | hx | hx)
      · exact .inl (h1 x (.inl hx))
      · injection hx with hx; exact .inr hx.symm
      · exact .inl (h1 x (.inr (.inr (.inl hx))))
      · exact .inl (h1 x (.inr (.inr (.inr hx))))
  · refine ⟨⟨A, n, c, some ⟨q, 0, none⟩, k, k, F1, ⟨blk_setN8 h0.blk 3 _, Own.but h0.a hT (fun x hx hx' => h.rows.1 x hx hx'), hoT, h.an, hl, hdT, h.ag, h.aa, ?_, ?_, hR _ _ _ _ _ _, hgb⟩, ?_, hfin⟩, hnew, hbt⟩
    · intro x hx hf
      injection hx with hx; replace hx : q = x := hx
      have := C.L.lt h.d x hf; omega
    · intro x hx hx'
      injection hx' with hx'; replace hx' : q = x := hx'
      have := hlt x (.inr (.inl hx)); omega
    · rintro x (hx | hx | hx | hx)
      · exact .inl (h1 x (.inl hx))
      · exact .inl (h1 x (.inr (.inl hx)))
      · injection hx with hx; exact .inr hx.symm
      · exact .inl (h1 x (.inr (.inr (.inr hx))))
/-- How many places a mirror has; a new one. -/
def Duo.places (C : Duo) (d : C.L.St) : Nat := min (C.len d 0) (C.len d 1)
def newM (C : Duo) (d : C.L.St) : Mr C := ⟨d, List.replicate (C.places d) (!(C.there d 0)), List.replicate (C.places d) (!(C.there d 1))⟩
theorem ml_new (hR : ∀ A n c B m e, G.R A n c B m e) {d : C.L.St} (h : C.L.At w d F1) (hG : ∀ x ∈ G.l, Blk w x.1 x.2.1 x.2.2 ∧ ¬ F1 x.1) (hw1 : w1 = w.alloc (.cells (mrC C G none 0 0 none 0 0) 108)) : (ML C G w.heap.size).At w1 ⟨d, [], []⟩ (fun x => (F1 x ∨ ∃ y ∈ G.l, x = y.1) ∨ x = w.heap.size) := by
  have hb : Below w.heap.size w w1 := by rw [hw1]; exact (Below.refl _ _).alloc (Nat.le_refl _) _
  refine ⟨none, 0, 0, none, 0, 0, F1, ⟨by rw [hw1]; exact heap_alloc_new _ _, ⟨rfl, .inl ⟨rfl, rfl⟩⟩, ⟨rfl, .inl ⟨rfl, rfl⟩⟩, rfl, rfl, C.L.below h hb, fun hf => by have := C.L.lt h _ hf; omega, fun q hq => (by cases hq), fun q hq => (by cases hq), fun q hq => (by cases hq), hR _ _ _ _ _ _, fun x hx => ⟨(hG x hx).1.below hb, (hG x hx).2⟩⟩, ?_, ?_⟩
  · rintro x (hx | hx | hx | hx | hx)
    · exact .inr hx
    · cases hx
    · cases hx
    · exact .inl (.inl hx)
    · exact .inl (.inr hx)
  · rintro x ((hx | ⟨y, hy, rfl⟩) | rfl)
    · exact Nat.lt_of_lt_of_le (C.L.lt h x hx) hb.size
    · exact Nat.lt_of_lt_of_le (hG y hy).1.lt hb.size
    · rw [hw1]; simp
theorem ml_len (h : (ML C G g).At w s F) {i : Nat} (hi : i < 2) : Calls Try.prog 15 #[.pointer (C.ptr i)] w (RetB (.int .i64 (C.len s.d i : Int)) w) := by
  obtain ⟨F1, hd, _⟩ := ml_dev h
  exact C.clen hd hi
theorem ml_lenle (h : (ML C G g).At w s F) {i : Nat} (hi : i < 2) : C.len s.d i ≤ 4096 := by
  obtain ⟨F1, hd, _⟩ := ml_dev h
  exact C.len_le hd hi
theorem ml_rowcell (h : (ML C G g).At w s F) {i : Nat} (hi : i < 2) : (∃ v, w.cell? ⟨g, 2 + i, none⟩ = some v) ∧ w.frozen? ⟨g, 2 + i, none⟩ = false ∧ g < w.heap.size := by
  obtain ⟨A, n, c, B, m, e, F1, h, _⟩ := h
  rcases two hi with rfl | rfl
  · exact ⟨⟨_, h.blk.cell 2⟩, h.blk.free 2, h.blk.lt⟩
  · exact ⟨⟨_, h.blk.cell 3⟩, h.blk.free 3, h.blk.lt⟩
theorem own_moreN {w : World} {base base' n size : Nat} {e : TypeId} {v : Value} {xs : List Value} (h : w.ownsRow base e size v n xs) (hb : base' ≤ base) : w.ownsRow base' e size v n xs :=
  ⟨h.1, h.2.imp id (fun ⟨g, cap, cur, h1, h2, h3⟩ => ⟨g, cap, cur, h1, Nat.le_trans hb h2, h3⟩)⟩
theorem gd_cell (G : Gd) : G.v.oneCell' = true := by unfold Gd.v; split <;> rfl
theorem gd_form (G : Gd) : G.v = .nilFunc ∨ ∃ k c, G.v = .func (.func k) #[] c := by
  unfold Gd.v; split
  · exact .inl rfl
  · exact .inr ⟨_, _, rfl⟩
theorem build_mir (p q : Option Addr) (gv : Value) (hg : gv = .nilFunc ∨ ∃ k c, gv = .func (.func k) #[] c) (W : World) : (Instr.build 108 #[(0, .agg #[.pointer p, .pointer q]), (2, gv)]).run Try.prog W = .ok (.agg #[.pointer p, .pointer q, .slice none 0 0, .slice none 0 0, gv]) W := by
  rcases hg with rfl | ⟨k, c, rfl⟩ <;> kernel_rfl
theorem build_two (p q : Option Addr) (W : World) : (Instr.build 52 #[(0, .pointer p), (1, .pointer q)]).run Try.prog W = .ok (.agg #[.pointer p, .pointer q]) W := by kernel_rfl
set_option maxRecDepth 100000 in
set_option maxHeartbeats 12800000 in
theorem new_anyG (hR : ∀ A n c B m e, G.R A n c B m e) {d : C.L.St} (h : C.L.At w d F1) (hG : ∀ x ∈ G.l, Blk w x.1 x.2.1 x.2.2 ∧ ¬ F1 x.1) {FF : Nat → Prop} (hFF : FF = fun x => F1 x ∨ ∃ y ∈ G.l, x = y.1) :
    Calls Try.prog 21 #[.pointer (C.ptr 0), .pointer (C.ptr 1), G.v] w (fun e w' => ∃ g F', e = .returned (.pointer (some ⟨g, 0, none⟩)) ∧ (ML C G g).At w' (newM C d) F' ∧ (∀ q, F' q → FF q ∨ w.heap.size ≤ q) ∧ But FF w w') := by
  obtain ⟨w1, hw1⟩ : ∃ w1, w1 = w.alloc (.cells (mrC C G none 0 0 none 0 0) 108) := ⟨_, rfl⟩
  have H := Lib.hid h
  have HA := Lib.hid (show (ML C G w.heap.size).At w1 ⟨d, [], []⟩ (fun x => FF x ∨ x = w.heap.size) from by rw [hFF]; exact ml_new hR h hG hw1)
  have HR := Lib.hid hR
  obtain ⟨p, hp⟩ : ∃ p, p = C.ptr 0 := ⟨_, rfl⟩
  obtain ⟨q, hq⟩ : ∃ q, q = C.ptr 1 := ⟨_, rfl⟩
  have hgf := gd_form G
  obtain ⟨gv, hgv⟩ : ∃ gv, gv = G.v := ⟨_, rfl⟩
  have HL0 := Lib.hid (show ∀ W s' F', (ML C G w.heap.size).At W s' F' → s'.d = d → Calls Try.prog 15 #[.pointer p] W (RetB (.int .i64 (C.len d 0 : Int)) W) from fun W s' F' h hd => by rw [hp, ← hd]; exact ml_len h (by omega))
  have HL1 := Lib.hid (show ∀ W s' F', (ML C G w.heap.size).At W s' F' → s'.d = d → Calls Try.prog 15 #[.pointer q] W (RetB (.int .i64 (C.len d 1 : Int)) W) from fun W s' F' h hd => by rw [hq, ← hd]; exact ml_len h (by omega))
  have HLE := Lib.hid (show C.places d ≤ 4096 from Nat.le_trans (Nat.min_le_left _ _) (C.len_le h (i := 0) (by omega)))
  have HBM := Lib.hid (build_mir p q gv (by rw [hgv]; exact hgf))
  have HB2 := Lib.hid (build_two p q)
  have HMC : mrC C G none 0 0 none 0 0 = #[.pointer p, .pointer q, .slice none 0 0, .slice none 0 0, gv] := by rw [mrC, hp, hq, hgv]
  rw [HMC] at hw1
  rw [← hp, ← hq, ← hgv]
  have BW1 := Lib.hid (show Below w.heap.size w w1 from by rw [hw1]; exact (Below.refl _ _).alloc (Nat.le_refl _) _)
  obtain ⟨g, hg⟩ : ∃ g, g = w.heap.size := ⟨_, rfl⟩
  rw [← hg] at HA HL0 HL1
  have HG := Lib.hid hg
  obtain ⟨x, hx⟩ : ∃ x, x = C.there d 0 := ⟨_, rfl⟩
  obtain ⟨y, hy⟩ : ∃ y, y = C.there d 1 := ⟨_, rfl⟩
  obtain ⟨k, hk⟩ : ∃ k, k = C.places d := ⟨_, rfl⟩
  have HN := Lib.hid (show newM C d = ⟨d, List.replicate k (!x), List.replicate k (!y)⟩ by rw [newM, hx, hy, hk])
  obtain ⟨la, hla⟩ : ∃ la, la = C.len d 0 := ⟨_, rfl⟩
  obtain ⟨lb, hlb⟩ : ∃ lb, lb = C.len d 1 := ⟨_, rfl⟩
  rw [← hla] at HL0
  rw [← hlb] at HL1
  have HKM := Lib.hid (show (if lb < la then (lb : Int) else (la : Int)) = (k : Int) by rw [hk, Duo.places, ← hla, ← hlb]; split <;> omega)
  rw [← hk] at HLE
  have HET := Lib.hid (each_there HA.out)
  rw [show (Mr.d (⟨d, [], []⟩ : Mr C)) = d from rfl, ← hx, ← hy] at HET
  rw [HN.out]
  clear hp hq hgf hgv HMC h hG hFF hR hx hy hk hla hlb HN
  go_enter Try.func21, Try.ntmps21
  go_wp2_with (first
    | (refine wpList_build rfl 52 #[(0, .tmp 10), (1, .tmp 11)] rfl (v := .agg #[.pointer p, .pointer q]) ?hbld ?_; case hbld => (simp only [List.map_toArray, List.map_cons, List.map_nil]; exact HB2.out _))
    | (refine wpList_build rfl 108 #[(0, .tmp 12), (2, .tmp 13)] rfl (v := .agg #[.pointer p, .pointer q, .slice none 0 0, .slice none 0 0, gv]) ?hbld ?_; case hbld => (simp only [List.map_toArray, List.map_cons, List.map_nil]; exact HBM.out _)))
  rw [← hw1, ← hg]
  clear hw1 hg
  refine HET.out.mono ?_
  rintro e w2 ⟨rfl, F2, hm2⟩
  have M2 := Lib.hid hm2
  clear hm2 HET HB2 HBM
  go_wp2_with fail
  go_loopw [19] (fun i wr => ∃ (j : Nat) (F' : Nat → Prop) (s' : Mr C), i = .int .i64 j ∧ Mv (ML C G g) w1 (fun x => FF x ∨ x = g) wr s' F' ∧ s'.d = d ∧ ((j = 0 ∧ s' = ⟨d, [], []⟩) ∨ (j = 1 ∧ s' = ⟨d, List.replicate k (!x), []⟩) ∨ (j = 2 ∧ s' = ⟨d, List.replicate k (!x), List.replicate k (!y)⟩))) (fun i _ => 2 - (intOf i).toNat)
  case atStart => exact ⟨0, F2, _, rfl, M2.out, rfl, .inl ⟨rfl, rfl⟩⟩
  case round =>
    clear M2
    obtain ⟨j, F', s', rfl, hm, hsd, hj⟩ := hrel
    have M := Lib.hid hm
    have HSD := Lib.hid hsd
    clear hm hsd
    rcases hj with ⟨rfl, hs⟩ | ⟨rfl, hs⟩ | ⟨rfl, hs⟩
    · skip
      have HS := Lib.hid hs
      clear hs
      go_wp2_with (refine wpList_execg8 (o := { dst := some 22, op := .index 50 (.tmp 18) (.tmp 19), type := _, pos := _, after := _, guard := _ }) (v := .bool x) (w' := wr) rfl ?hix ?_; case hix => kernel_rfl)
      refine wp_region_held_drew (S := fun _ => True) (by kernel_rfl) trivial (fun hh => ?_)
      have HH := Lib.hid hh
      clear hh
      refine wpAnyH_take (i := 0) (v := ?vN00) rfl (by kernel_rfl) (by kernel_rfl) (by kernel_rfl) (fun _ _ _ h => h) (Or.inl ⟨by rfl, fun w' _ => ?yN00⟩) HH.out ?_
      case yN00 => (go_simp; try with_reducible rfl)
      refine wpAnyH_take (i := 1) (v := ?vN01) rfl (by kernel_rfl) (by kernel_rfl) (by kernel_rfl) (fun _ _ _ h => h) (Or.inl ⟨by rfl, fun w' _ => ?yN01⟩) HH.out ?_
      case yN01 => (go_simp; try with_reducible rfl)
      try simp only [List.getElem_toArray, List.getElem_cons_succ, List.getElem_cons_zero, Act.put, List.setIfInBounds_toArray, List.set_cons_zero, List.set_cons_succ]
      refine wpAnyH_take (i := 2) (v := ?vN02) rfl (by kernel_rfl) (by kernel_rfl) (by kernel_rfl) (fun _ _ _ h => h) (Or.inl ⟨by rfl, fun w' _ => ?yN02⟩) HH.out ?_
      case yN02 => (go_simp; try with_reducible rfl)
      refine wpAnyH_take (i := 3) (v := ?vN03) rfl (by kernel_rfl) (by kernel_rfl) (by kernel_rfl) (fun _ _ _ h => h) (Or.inl ⟨by rfl, fun w' _ => ?yN03⟩) HH.out ?_
      case yN03 => (go_simp; try with_reducible rfl)
      refine wpAnyH_take (i := 5) (v := ?vN05) rfl (by kernel_rfl) (by kernel_rfl) (by kernel_rfl) (fun _ _ _ h => h) (Or.inl ⟨by rfl, fun w' _ => ?yN05⟩) HH.out ?_
      case yN05 => (go_simp; try with_reducible rfl)
      try simp only [List.getElem_toArray, List.getElem_cons_succ, List.getElem_cons_zero, Act.put, List.setIfInBounds_toArray, List.set_cons_zero, List.set_cons_succ]
      refine wpAnyH_take (i := 7) (v := ?vN07) rfl (by kernel_rfl) (by kernel_rfl) (by kernel_rfl) (fun _ _ _ h => h) (Or.inl ⟨by rfl, fun w' _ => ?yN07⟩) HH.out ?_
      case yN07 => (go_simp; try with_reducible rfl)
      refine wpAnyH_take (i := 11) (v := ?vN011) rfl (by kernel_rfl) (by kernel_rfl) (by kernel_rfl) (fun _ _ _ h => h) (Or.inl ⟨by rfl, fun w' _ => ?yN011⟩) HH.out ?_
      case yN011 => (go_simp; try with_reducible rfl)
      refine wpAnyH_take (i := 12) (v := ?vN012) rfl (by kernel_rfl) (by kernel_rfl) (by kernel_rfl) (fun _ _ _ h => h) (Or.inl ⟨by rfl, fun w' _ => ?yN012⟩) HH.out ?_
      case yN012 => (go_simp; try with_reducible rfl)
      try simp only [List.getElem_toArray, List.getElem_cons_succ, List.getElem_cons_zero, Act.put, List.setIfInBounds_toArray, List.set_cons_zero, List.set_cons_succ]
      refine wpAnyH_ready (rs := [4, 6]) (by kernel_rfl) (by simp) (AllReadyH.cons rfl (fun K hK => ?_) (AllReadyH.cons rfl (fun K hK => ?_) AllReadyH.nil))
      · skip
        go_simp
        refine hK.out _ _ trivial (fun hh => ?_)
        have HH' := Lib.hid hh
        clear hh hK K HH
        have HH := Lib.hid HH'.out
        clear HH'
        have B1 := Lib.hid (show Below wr.heap.size wr (World.alloc wr.drew (.cells #[.bool (!x)] 4)) from ((Below.refl wr.heap.size wr).drew).alloc ((Below.refl wr.heap.size wr).drew).size _)
        have X1 := Lib.hid (show Blk (World.alloc wr.drew (.cells #[.bool (!x)] 4)) wr.drew.heap.size #[.bool (!x)] 4 from heap_alloc_new _ _)
        try simp only [List.getElem_toArray, List.getElem_cons_succ, List.getElem_cons_zero, Act.put, List.setIfInBounds_toArray, List.set_cons_zero, List.set_cons_succ]
        refine wpAnyH_ready (rs := [6]) (by kernel_rfl) (by simp) (AllReadyH.cons rfl (fun K hK => ?_) AllReadyH.nil)
        go_simp
        refine (HL0.out _ _ _ ((ML C G g).below M.out.at_ (B1.out)) HSD.out).mono ?_
        rintro e v2 ⟨rfl, bw⟩
        have B2 := Lib.hid ((B1.out).trans (bw.mono (B1.out).size))
        have X2 := Lib.hid (Blk.below (X1.out) bw)
        clear bw
        go_simp
        refine hK.out _ _ trivial (fun hh => ?_)
        have HH' := Lib.hid hh
        clear hh hK K HH
        have HH := Lib.hid HH'.out
        clear HH'
        try simp only [List.getElem_toArray, List.getElem_cons_succ, List.getElem_cons_zero, Act.put, List.setIfInBounds_toArray, List.set_cons_zero, List.set_cons_succ]
        refine wpAnyH_ready (rs := [8]) (by kernel_rfl) (by simp) (AllReadyH.cons rfl (fun K hK => ?_) AllReadyH.nil)
        go_simp
        refine (HL1.out _ _ _ ((ML C G g).below M.out.at_ (B2.out)) HSD.out).mono ?_
        rintro e v3 ⟨rfl, bw⟩
        have B3 := Lib.hid ((B2.out).trans (bw.mono (B2.out).size))
        have X3 := Lib.hid (Blk.below (X2.out) bw)
        clear bw
        go_simp
        refine hK.out _ _ trivial (fun hh => ?_)
        have HH' := Lib.hid hh
        clear hh hK K HH
        have HH := Lib.hid HH'.out
        clear HH'
        try simp only [List.getElem_toArray, List.getElem_cons_succ, List.getElem_cons_zero, Act.put, List.setIfInBounds_toArray, List.set_cons_zero, List.set_cons_succ]
        refine wpAnyH_take (i := 9) (v := .int .i64 (k : Int)) rfl (by kernel_rfl) (by kernel_rfl) (by kernel_rfl) (fun _ _ _ h => h) (Or.inl ⟨by rfl, fun w' hw' => ?ym39⟩) HH.out ?_
        case ym39 => (go_simp; exact HKM.out)
        try simp only [List.getElem_toArray, List.getElem_cons_succ, List.getElem_cons_zero, Act.put, List.setIfInBounds_toArray, List.set_cons_zero, List.set_cons_succ]
        refine wpAnyH_ready (rs := [10]) (by kernel_rfl) (by simp) (AllReadyH.cons rfl (fun K hK => ?_) AllReadyH.nil)
        go_simp
        refine (repeat_any (a := ⟨wr.drew.heap.size, 0, none⟩) ((X3.out).cell 0) k HLE.out).mono ?_
        rintro e v9 ⟨q9, rfl, ho9, bw9⟩
        have HS9 := Lib.hid (ml_setrow HR.out M.out.at_ ((B3.out).trans (bw9.mono (B3.out).size)) (own_moreN ho9 (B3.out).size) (List.length_replicate ..) (i := 0) (by omega))
        obtain ⟨⟨u9, c9⟩, f9, _⟩ := ml_rowcell ((ML C G g).below M.out.at_ ((B3.out).trans (bw9.mono (B3.out).size))) (i := 0) (by omega)
        have c9' : v9.cell? ⟨g, 2, none⟩ = some u9 := c9
        have f9' : v9.frozen? ⟨g, 2, none⟩ = false := f9
        clear bw9 ho9 c9 f9
        go_simp
        refine hK.out _ _ trivial (fun hh => ?_)
        have HH' := Lib.hid hh
        clear hh hK K HH
        have HH := Lib.hid HH'.out
        clear HH'
        try simp only [List.getElem_toArray, List.getElem_cons_succ, List.getElem_cons_zero, Act.put, List.setIfInBounds_toArray, List.set_cons_zero, List.set_cons_succ]
        refine wpAnyH_take (i := 13) (v := ?vz313) rfl (by kernel_rfl) (by kernel_rfl) (by kernel_rfl) (fun _ _ _ h => h) (Or.inl ⟨by rfl, fun w' _ => ?yz313⟩) HH.out ?_
        case yz313 => (go_simp; try with_reducible rfl)
        try simp only [List.getElem_toArray, List.getElem_cons_succ, List.getElem_cons_zero, Act.put, List.setIfInBounds_toArray, List.set_cons_zero, List.set_cons_succ]
        refine wpAnyH_ready (rs := [14]) (by kernel_rfl) (by simp) (AllReadyH.cons rfl (fun K hK => ?_) AllReadyH.nil)
        go_simp
        refine hK.out _ _ trivial (fun hh => ?_)
        have HH' := Lib.hid hh
        clear hh hK K HH
        have HH := Lib.hid HH'.out
        clear HH'
        refine wpAnyH_done (by kernel_rfl) ?_ _
        go_wp2_with fail
        go_roundw
        case rel => exact ⟨1, _, _, rfl, M.out.trans HS9.out, HSD.out, .inr (.inl ⟨rfl, by rw [HS.out]; rfl⟩)⟩
        case measure => simp [intOf]
      · skip
        go_simp
        refine (HL0.out _ _ _ ((ML C G g).below M.out.at_ ((Below.refl wr.heap.size wr).drew)) HSD.out).mono ?_
        rintro e v4 ⟨rfl, bw⟩
        have B4 := Lib.hid (((Below.refl wr.heap.size wr).drew).trans (bw.mono ((Below.refl wr.heap.size wr).drew).size))
        clear bw
        go_simp
        refine hK.out _ _ trivial (fun hh => ?_)
        have HH' := Lib.hid hh
        clear hh hK K HH
        have HH := Lib.hid HH'.out
        clear HH'
        try simp only [List.getElem_toArray, List.getElem_cons_succ, List.getElem_cons_zero, Act.put, List.setIfInBounds_toArray, List.set_cons_zero, List.set_cons_succ]
        refine wpAnyH_ready (rs := [4, 8]) (by kernel_rfl) (by simp) (AllReadyH.cons rfl (fun K hK => ?_) (AllReadyH.cons rfl (fun K hK => ?_) AllReadyH.nil))
        · skip
          go_simp
          refine hK.out _ _ trivial (fun hh => ?_)
          have HH' := Lib.hid hh
          clear hh hK K HH
          have HH := Lib.hid HH'.out
          clear HH'
          have B5 := Lib.hid (show Below wr.heap.size wr (World.alloc v4 (.cells #[.bool (!x)] 4)) from (B4.out).alloc (B4.out).size _)
          have X5 := Lib.hid (show Blk (World.alloc v4 (.cells #[.bool (!x)] 4)) v4.heap.size #[.bool (!x)] 4 from heap_alloc_new _ _)
          try simp only [List.getElem_toArray, List.getElem_cons_succ, List.getElem_cons_zero, Act.put, List.setIfInBounds_toArray, List.set_cons_zero, List.set_cons_succ]
          refine wpAnyH_ready (rs := [8]) (by kernel_rfl) (by simp) (AllReadyH.cons rfl (fun K hK => ?_) AllReadyH.nil)
          go_simp
          refine (HL1.out _ _ _ ((ML C G g).below M.out.at_ (B5.out)) HSD.out).mono ?_
          rintro e v6 ⟨rfl, bw⟩
          have B6 := Lib.hid ((B5.out).trans (bw.mono (B5.out).size))
          have X6 := Lib.hid (Blk.below (X5.out) bw)
          clear bw
          go_simp
          refine hK.out _ _ trivial (fun hh => ?_)
          have HH' := Lib.hid hh
          clear hh hK K HH
          have HH := Lib.hid HH'.out
          clear HH'
          try simp only [List.getElem_toArray, List.getElem_cons_succ, List.getElem_cons_zero, Act.put, List.setIfInBounds_toArray, List.set_cons_zero, List.set_cons_succ]
          refine wpAnyH_take (i := 9) (v := .int .i64 (k : Int)) rfl (by kernel_rfl) (by kernel_rfl) (by kernel_rfl) (fun _ _ _ h => h) (Or.inl ⟨by rfl, fun w' hw' => ?ym69⟩) HH.out ?_
          case ym69 => (go_simp; exact HKM.out)
          try simp only [List.getElem_toArray, List.getElem_cons_succ, List.getElem_cons_zero, Act.put, List.setIfInBounds_toArray, List.set_cons_zero, List.set_cons_succ]
          refine wpAnyH_ready (rs := [10]) (by kernel_rfl) (by simp) (AllReadyH.cons rfl (fun K hK => ?_) AllReadyH.nil)
          go_simp
          refine (repeat_any (a := ⟨v4.heap.size, 0, none⟩) ((X6.out).cell 0) k HLE.out).mono ?_
          rintro e v9 ⟨q9, rfl, ho9, bw9⟩
          have HS9 := Lib.hid (ml_setrow HR.out M.out.at_ ((B6.out).trans (bw9.mono (B6.out).size)) (own_moreN ho9 (B6.out).size) (List.length_replicate ..) (i := 0) (by omega))
          obtain ⟨⟨u9, c9⟩, f9, _⟩ := ml_rowcell ((ML C G g).below M.out.at_ ((B6.out).trans (bw9.mono (B6.out).size))) (i := 0) (by omega)
          have c9' : v9.cell? ⟨g, 2, none⟩ = some u9 := c9
          have f9' : v9.frozen? ⟨g, 2, none⟩ = false := f9
          clear bw9 ho9 c9 f9
          go_simp
          refine hK.out _ _ trivial (fun hh => ?_)
          have HH' := Lib.hid hh
          clear hh hK K HH
          have HH := Lib.hid HH'.out
          clear HH'
          try simp only [List.getElem_toArray, List.getElem_cons_succ, List.getElem_cons_zero, Act.put, List.setIfInBounds_toArray, List.set_cons_zero, List.set_cons_succ]
          refine wpAnyH_take (i := 13) (v := ?vz613) rfl (by kernel_rfl) (by kernel_rfl) (by kernel_rfl) (fun _ _ _ h => h) (Or.inl ⟨by rfl, fun w' _ => ?yz613⟩) HH.out ?_
          case yz613 => (go_simp; try with_reducible rfl)
          try simp only [List.getElem_toArray, List.getElem_cons_succ, List.getElem_cons_zero, Act.put, List.setIfInBounds_toArray, List.set_cons_zero, List.set_cons_succ]
          refine wpAnyH_ready (rs := [14]) (by kernel_rfl) (by simp) (AllReadyH.cons rfl (fun K hK => ?_) AllReadyH.nil)
          go_simp
          refine hK.out _ _ trivial (fun hh => ?_)
          have HH' := Lib.hid hh
          clear hh hK K HH
          have HH := Lib.hid HH'.out
          clear HH'
          refine wpAnyH_done (by kernel_rfl) ?_ _
          go_wp2_with fail
          go_roundw
          case rel => exact ⟨1, _, _, rfl, M.out.trans HS9.out, HSD.out, .inr (.inl ⟨rfl, by rw [HS.out]; rfl⟩)⟩
          case measure => simp [intOf]
        · skip
          go_simp
          refine (HL1.out _ _ _ ((ML C G g).below M.out.at_ (B4.out)) HSD.out).mono ?_
          rintro e v7 ⟨rfl, bw⟩
          have B7 := Lib.hid ((B4.out).trans (bw.mono (B4.out).size))
          clear bw
          go_simp
          refine hK.out _ _ trivial (fun hh => ?_)
          have HH' := Lib.hid hh
          clear hh hK K HH
          have HH := Lib.hid HH'.out
          clear HH'
          try simp only [List.getElem_toArray, List.getElem_cons_succ, List.getElem_cons_zero, Act.put, List.setIfInBounds_toArray, List.set_cons_zero, List.set_cons_succ]
          refine wpAnyH_take (i := 9) (v := .int .i64 (k : Int)) rfl (by kernel_rfl) (by kernel_rfl) (by kernel_rfl) (fun _ _ _ h => h) (Or.inl ⟨by rfl, fun w' hw' => ?ym79⟩) HH.out ?_
          case ym79 => (go_simp; exact HKM.out)
          try simp only [List.getElem_toArray, List.getElem_cons_succ, List.getElem_cons_zero, Act.put, List.setIfInBounds_toArray, List.set_cons_zero, List.set_cons_succ]
          refine wpAnyH_ready (rs := [4]) (by kernel_rfl) (by simp) (AllReadyH.cons rfl (fun K hK => ?_) AllReadyH.nil)
          go_simp
          refine hK.out _ _ trivial (fun hh => ?_)
          have HH' := Lib.hid hh
          clear hh hK K HH
          have HH := Lib.hid HH'.out
          clear HH'
          have B8 := Lib.hid (show Below wr.heap.size wr (World.alloc v7 (.cells #[.bool (!x)] 4)) from (B7.out).alloc (B7.out).size _)
          have X8 := Lib.hid (show Blk (World.alloc v7 (.cells #[.bool (!x)] 4)) v7.heap.size #[.bool (!x)] 4 from heap_alloc_new _ _)
          try simp only [List.getElem_toArray, List.getElem_cons_succ, List.getElem_cons_zero, Act.put, List.setIfInBounds_toArray, List.set_cons_zero, List.set_cons_succ]
          refine wpAnyH_ready (rs := [10]) (by kernel_rfl) (by simp) (AllReadyH.cons rfl (fun K hK => ?_) AllReadyH.nil)
          go_simp
          refine (repeat_any (a := ⟨v7.heap.size, 0, none⟩) ((X8.out).cell 0) k HLE.out).mono ?_
          rintro e v9 ⟨q9, rfl, ho9, bw9⟩
          have HS9 := Lib.hid (ml_setrow HR.out M.out.at_ ((B8.out).trans (bw9.mono (B8.out).size)) (own_moreN ho9 (B8.out).size) (List.length_replicate ..) (i := 0) (by omega))
          obtain ⟨⟨u9, c9⟩, f9, _⟩ := ml_rowcell ((ML C G g).below M.out.at_ ((B8.out).trans (bw9.mono (B8.out).size))) (i := 0) (by omega)
          have c9' : v9.cell? ⟨g, 2, none⟩ = some u9 := c9
          have f9' : v9.frozen? ⟨g, 2, none⟩ = false := f9
          clear bw9 ho9 c9 f9
          go_simp
          refine hK.out _ _ trivial (fun hh => ?_)
          have HH' := Lib.hid hh
          clear hh hK K HH
          have HH := Lib.hid HH'.out
          clear HH'
          try simp only [List.getElem_toArray, List.getElem_cons_succ, List.getElem_cons_zero, Act.put, List.setIfInBounds_toArray, List.set_cons_zero, List.set_cons_succ]
          refine wpAnyH_take (i := 13) (v := ?vz813) rfl (by kernel_rfl) (by kernel_rfl) (by kernel_rfl) (fun _ _ _ h => h) (Or.inl ⟨by rfl, fun w' _ => ?yz813⟩) HH.out ?_
          case yz813 => (go_simp; try with_reducible rfl)
          try simp only [List.getElem_toArray, List.getElem_cons_succ, List.getElem_cons_zero, Act.put, List.setIfInBounds_toArray, List.set_cons_zero, List.set_cons_succ]
          refine wpAnyH_ready (rs := [14]) (by kernel_rfl) (by simp) (AllReadyH.cons rfl (fun K hK => ?_) AllReadyH.nil)
          go_simp
          refine hK.out _ _ trivial (fun hh => ?_)
          have HH' := Lib.hid hh
          clear hh hK K HH
          have HH := Lib.hid HH'.out
          clear HH'
          refine wpAnyH_done (by kernel_rfl) ?_ _
          go_wp2_with fail
          go_roundw
          case rel => exact ⟨1, _, _, rfl, M.out.trans HS9.out, HSD.out, .inr (.inl ⟨rfl, by rw [HS.out]; rfl⟩)⟩
          case measure => simp [intOf]
    · skip
      have HS := Lib.hid hs
      clear hs
      go_wp2_with (refine wpList_execg8 (o := { dst := some 22, op := .index 50 (.tmp 18) (.tmp 19), type := _, pos := _, after := _, guard := _ }) (v := .bool y) (w' := wr) rfl ?hix ?_; case hix => kernel_rfl)
      refine wp_region_held_drew (S := fun _ => True) (by kernel_rfl) trivial (fun hh => ?_)
      have HH := Lib.hid hh
      clear hh
      refine wpAnyH_take (i := 0) (v := ?vN10) rfl (by kernel_rfl) (by kernel_rfl) (by kernel_rfl) (fun _ _ _ h => h) (Or.inl ⟨by rfl, fun w' _ => ?yN10⟩) HH.out ?_
      case yN10 => (go_simp; try with_reducible rfl)
      refine wpAnyH_take (i := 1) (v := ?vN11) rfl (by kernel_rfl) (by kernel_rfl) (by kernel_rfl) (fun _ _ _ h => h) (Or.inl ⟨by rfl, fun w' _ => ?yN11⟩) HH.out ?_
      case yN11 => (go_simp; try with_reducible rfl)
      try simp only [List.getElem_toArray, List.getElem_cons_succ, List.getElem_cons_zero, Act.put, List.setIfInBounds_toArray, List.set_cons_zero, List.set_cons_succ]
      refine wpAnyH_take (i := 2) (v := ?vN12) rfl (by kernel_rfl) (by kernel_rfl) (by kernel_rfl) (fun _ _ _ h => h) (Or.inl ⟨by rfl, fun w' _ => ?yN12⟩) HH.out ?_
      case yN12 => (go_simp; try with_reducible rfl)
      refine wpAnyH_take (i := 3) (v := ?vN13) rfl (by kernel_rfl) (by kernel_rfl) (by kernel_rfl) (fun _ _ _ h => h) (Or.inl ⟨by rfl, fun w' _ => ?yN13⟩) HH.out ?_
      case yN13 => (go_simp; try with_reducible rfl)
      refine wpAnyH_take (i := 5) (v := ?vN15) rfl (by kernel_rfl) (by kernel_rfl) (by kernel_rfl) (fun _ _ _ h => h) (Or.inl ⟨by rfl, fun w' _ => ?yN15⟩) HH.out ?_
      case yN15 => (go_simp; try with_reducible rfl)
      try simp only [List.getElem_toArray, List.getElem_cons_succ, List.getElem_cons_zero, Act.put, List.setIfInBounds_toArray, List.set_cons_zero, List.set_cons_succ]
      refine wpAnyH_take (i := 7) (v := ?vN17) rfl (by kernel_rfl) (by kernel_rfl) (by kernel_rfl) (fun _ _ _ h => h) (Or.inl ⟨by rfl, fun w' _ => ?yN17⟩) HH.out ?_
      case yN17 => (go_simp; try with_reducible rfl)
      refine wpAnyH_take (i := 11) (v := ?vN111) rfl (by kernel_rfl) (by kernel_rfl) (by kernel_rfl) (fun _ _ _ h => h) (Or.inl ⟨by rfl, fun w' _ => ?yN111⟩) HH.out ?_
      case yN111 => (go_simp; try with_reducible rfl)
      refine wpAnyH_take (i := 12) (v := ?vN112) rfl (by kernel_rfl) (by kernel_rfl) (by kernel_rfl) (fun _ _ _ h => h) (Or.inl ⟨by rfl, fun w' _ => ?yN112⟩) HH.out ?_
      case yN112 => (go_simp; try with_reducible rfl)
      try simp only [List.getElem_toArray, List.getElem_cons_succ, List.getElem_cons_zero, Act.put, List.setIfInBounds_toArray, List.set_cons_zero, List.set_cons_succ]
      refine wpAnyH_ready (rs := [4, 6]) (by kernel_rfl) (by simp) (AllReadyH.cons rfl (fun K hK => ?_) (AllReadyH.cons rfl (fun K hK => ?_) AllReadyH.nil))
      · skip
        go_simp
        refine hK.out _ _ trivial (fun hh => ?_)
        have HH' := Lib.hid hh
        clear hh hK K HH
        have HH := Lib.hid HH'.out
        clear HH'
        have B9 := Lib.hid (show Below wr.heap.size wr (World.alloc wr.drew (.cells #[.bool (!y)] 4)) from ((Below.refl wr.heap.size wr).drew).alloc ((Below.refl wr.heap.size wr).drew).size _)
        have X9 := Lib.hid (show Blk (World.alloc wr.drew (.cells #[.bool (!y)] 4)) wr.drew.heap.size #[.bool (!y)] 4 from heap_alloc_new _ _)
        try simp only [List.getElem_toArray, List.getElem_cons_succ, List.getElem_cons_zero, Act.put, List.setIfInBounds_toArray, List.set_cons_zero, List.set_cons_succ]
        refine wpAnyH_ready (rs := [6]) (by kernel_rfl) (by simp) (AllReadyH.cons rfl (fun K hK => ?_) AllReadyH.nil)
        go_simp
        refine (HL0.out _ _ _ ((ML C G g).below M.out.at_ (B9.out)) HSD.out).mono ?_
        rintro e v10 ⟨rfl, bw⟩
        have B10 := Lib.hid ((B9.out).trans (bw.mono (B9.out).size))
        have X10 := Lib.hid (Blk.below (X9.out) bw)
        clear bw
        go_simp
        refine hK.out _ _ trivial (fun hh => ?_)
        have HH' := Lib.hid hh
        clear hh hK K HH
        have HH := Lib.hid HH'.out
        clear HH'
        try simp only [List.getElem_toArray, List.getElem_cons_succ, List.getElem_cons_zero, Act.put, List.setIfInBounds_toArray, List.set_cons_zero, List.set_cons_succ]
        refine wpAnyH_ready (rs := [8]) (by kernel_rfl) (by simp) (AllReadyH.cons rfl (fun K hK => ?_) AllReadyH.nil)
        go_simp
        refine (HL1.out _ _ _ ((ML C G g).below M.out.at_ (B10.out)) HSD.out).mono ?_
        rintro e v11 ⟨rfl, bw⟩
        have B11 := Lib.hid ((B10.out).trans (bw.mono (B10.out).size))
        have X11 := Lib.hid (Blk.below (X10.out) bw)
        clear bw
        go_simp
        refine hK.out _ _ trivial (fun hh => ?_)
        have HH' := Lib.hid hh
        clear hh hK K HH
        have HH := Lib.hid HH'.out
        clear HH'
        try simp only [List.getElem_toArray, List.getElem_cons_succ, List.getElem_cons_zero, Act.put, List.setIfInBounds_toArray, List.set_cons_zero, List.set_cons_succ]
        refine wpAnyH_take (i := 9) (v := .int .i64 (k : Int)) rfl (by kernel_rfl) (by kernel_rfl) (by kernel_rfl) (fun _ _ _ h => h) (Or.inl ⟨by rfl, fun w' hw' => ?ym119⟩) HH.out ?_
        case ym119 => (go_simp; exact HKM.out)
        try simp only [List.getElem_toArray, List.getElem_cons_succ, List.getElem_cons_zero, Act.put, List.setIfInBounds_toArray, List.set_cons_zero, List.set_cons_succ]
        refine wpAnyH_ready (rs := [10]) (by kernel_rfl) (by simp) (AllReadyH.cons rfl (fun K hK => ?_) AllReadyH.nil)
        go_simp
        refine (repeat_any (a := ⟨wr.drew.heap.size, 0, none⟩) ((X11.out).cell 0) k HLE.out).mono ?_
        rintro e v9 ⟨q9, rfl, ho9, bw9⟩
        have HS9 := Lib.hid (ml_setrow HR.out M.out.at_ ((B11.out).trans (bw9.mono (B11.out).size)) (own_moreN ho9 (B11.out).size) (List.length_replicate ..) (i := 1) (by omega))
        obtain ⟨⟨u9, c9⟩, f9, _⟩ := ml_rowcell ((ML C G g).below M.out.at_ ((B11.out).trans (bw9.mono (B11.out).size))) (i := 1) (by omega)
        have c9' : v9.cell? ⟨g, 3, none⟩ = some u9 := c9
        have f9' : v9.frozen? ⟨g, 3, none⟩ = false := f9
        clear bw9 ho9 c9 f9
        go_simp
        refine hK.out _ _ trivial (fun hh => ?_)
        have HH' := Lib.hid hh
        clear hh hK K HH
        have HH := Lib.hid HH'.out
        clear HH'
        try simp only [List.getElem_toArray, List.getElem_cons_succ, List.getElem_cons_zero, Act.put, List.setIfInBounds_toArray, List.set_cons_zero, List.set_cons_succ]
        refine wpAnyH_take (i := 13) (v := ?vz1113) rfl (by kernel_rfl) (by kernel_rfl) (by kernel_rfl) (fun _ _ _ h => h) (Or.inl ⟨by rfl, fun w' _ => ?yz1113⟩) HH.out ?_
        case yz1113 => (go_simp; try with_reducible rfl)
        try simp only [List.getElem_toArray, List.getElem_cons_succ, List.getElem_cons_zero, Act.put, List.setIfInBounds_toArray, List.set_cons_zero, List.set_cons_succ]
        refine wpAnyH_ready (rs := [14]) (by kernel_rfl) (by simp) (AllReadyH.cons rfl (fun K hK => ?_) AllReadyH.nil)
        go_simp
        refine hK.out _ _ trivial (fun hh => ?_)
        have HH' := Lib.hid hh
        clear hh hK K HH
        have HH := Lib.hid HH'.out
        clear HH'
        refine wpAnyH_done (by kernel_rfl) ?_ _
        go_wp2_with fail
        go_roundw
        case rel => exact ⟨2, _, _, rfl, M.out.trans HS9.out, HSD.out, .inr (.inr ⟨rfl, by rw [HS.out]; rfl⟩)⟩
        case measure => simp [intOf]
      · skip
        go_simp
        refine (HL0.out _ _ _ ((ML C G g).below M.out.at_ ((Below.refl wr.heap.size wr).drew)) HSD.out).mono ?_
        rintro e v12 ⟨rfl, bw⟩
        have B12 := Lib.hid (((Below.refl wr.heap.size wr).drew).trans (bw.mono ((Below.refl wr.heap.size wr).drew).size))
        clear bw
        go_simp
        refine hK.out _ _ trivial (fun hh => ?_)
        have HH' := Lib.hid hh
        clear hh hK K HH
        have HH := Lib.hid HH'.out
        clear HH'
        try simp only [List.getElem_toArray, List.getElem_cons_succ, List.getElem_cons_zero, Act.put, List.setIfInBounds_toArray, List.set_cons_zero, List.set_cons_succ]
        refine wpAnyH_ready (rs := [4, 8]) (by kernel_rfl) (by simp) (AllReadyH.cons rfl (fun K hK => ?_) (AllReadyH.cons rfl (fun K hK => ?_) AllReadyH.nil))
        · skip
          go_simp
          refine hK.out _ _ trivial (fun hh => ?_)
          have HH' := Lib.hid hh
          clear hh hK K HH
          have HH := Lib.hid HH'.out
          clear HH'
          have B13 := Lib.hid (show Below wr.heap.size wr (World.alloc v12 (.cells #[.bool (!y)] 4)) from (B12.out).alloc (B12.out).size _)
          have X13 := Lib.hid (show Blk (World.alloc v12 (.cells #[.bool (!y)] 4)) v12.heap.size #[.bool (!y)] 4 from heap_alloc_new _ _)
          try simp only [List.getElem_toArray, List.getElem_cons_succ, List.getElem_cons_zero, Act.put, List.setIfInBounds_toArray, List.set_cons_zero, List.set_cons_succ]
          refine wpAnyH_ready (rs := [8]) (by kernel_rfl) (by simp) (AllReadyH.cons rfl (fun K hK => ?_) AllReadyH.nil)
          go_simp
          refine (HL1.out _ _ _ ((ML C G g).below M.out.at_ (B13.out)) HSD.out).mono ?_
          rintro e v14 ⟨rfl, bw⟩
          have B14 := Lib.hid ((B13.out).trans (bw.mono (B13.out).size))
          have X14 := Lib.hid (Blk.below (X13.out) bw)
          clear bw
          go_simp
          refine hK.out _ _ trivial (fun hh => ?_)
          have HH' := Lib.hid hh
          clear hh hK K HH
          have HH := Lib.hid HH'.out
          clear HH'
          try simp only [List.getElem_toArray, List.getElem_cons_succ, List.getElem_cons_zero, Act.put, List.setIfInBounds_toArray, List.set_cons_zero, List.set_cons_succ]
          refine wpAnyH_take (i := 9) (v := .int .i64 (k : Int)) rfl (by kernel_rfl) (by kernel_rfl) (by kernel_rfl) (fun _ _ _ h => h) (Or.inl ⟨by rfl, fun w' hw' => ?ym149⟩) HH.out ?_
          case ym149 => (go_simp; exact HKM.out)
          try simp only [List.getElem_toArray, List.getElem_cons_succ, List.getElem_cons_zero, Act.put, List.setIfInBounds_toArray, List.set_cons_zero, List.set_cons_succ]
          refine wpAnyH_ready (rs := [10]) (by kernel_rfl) (by simp) (AllReadyH.cons rfl (fun K hK => ?_) AllReadyH.nil)
          go_simp
          refine (repeat_any (a := ⟨v12.heap.size, 0, none⟩) ((X14.out).cell 0) k HLE.out).mono ?_
          rintro e v9 ⟨q9, rfl, ho9, bw9⟩
          have HS9 := Lib.hid (ml_setrow HR.out M.out.at_ ((B14.out).trans (bw9.mono (B14.out).size)) (own_moreN ho9 (B14.out).size) (List.length_replicate ..) (i := 1) (by omega))
          obtain ⟨⟨u9, c9⟩, f9, _⟩ := ml_rowcell ((ML C G g).below M.out.at_ ((B14.out).trans (bw9.mono (B14.out).size))) (i := 1) (by omega)
          have c9' : v9.cell? ⟨g, 3, none⟩ = some u9 := c9
          have f9' : v9.frozen? ⟨g, 3, none⟩ = false := f9
          clear bw9 ho9 c9 f9
          go_simp
          refine hK.out _ _ trivial (fun hh => ?_)
          have HH' := Lib.hid hh
          clear hh hK K HH
          have HH := Lib.hid HH'.out
          clear HH'
          try simp only [List.getElem_toArray, List.getElem_cons_succ, List.getElem_cons_zero, Act.put, List.setIfInBounds_toArray, List.set_cons_zero, List.set_cons_succ]
          refine wpAnyH_take (i := 13) (v := ?vz1413) rfl (by kernel_rfl) (by kernel_rfl) (by kernel_rfl) (fun _ _ _ h => h) (Or.inl ⟨by rfl, fun w' _ => ?yz1413⟩) HH.out ?_
          case yz1413 => (go_simp; try with_reducible rfl)
          try simp only [List.getElem_toArray, List.getElem_cons_succ, List.getElem_cons_zero, Act.put, List.setIfInBounds_toArray, List.set_cons_zero, List.set_cons_succ]
          refine wpAnyH_ready (rs := [14]) (by kernel_rfl) (by simp) (AllReadyH.cons rfl (fun K hK => ?_) AllReadyH.nil)
          go_simp
          refine hK.out _ _ trivial (fun hh => ?_)
          have HH' := Lib.hid hh
          clear hh hK K HH
          have HH := Lib.hid HH'.out
          clear HH'
          refine wpAnyH_done (by kernel_rfl) ?_ _
          go_wp2_with fail
          go_roundw
          case rel => exact ⟨2, _, _, rfl, M.out.trans HS9.out, HSD.out, .inr (.inr ⟨rfl, by rw [HS.out]; rfl⟩)⟩
          case measure => simp [intOf]
        · skip
          go_simp
          refine (HL1.out _ _ _ ((ML C G g).below M.out.at_ (B12.out)) HSD.out).mono ?_
          rintro e v15 ⟨rfl, bw⟩
          have B15 := Lib.hid ((B12.out).trans (bw.mono (B12.out).size))
          clear bw
          go_simp
          refine hK.out _ _ trivial (fun hh => ?_)
          have HH' := Lib.hid hh
          clear hh hK K HH
          have HH := Lib.hid HH'.out
          clear HH'
          try simp only [List.getElem_toArray, List.getElem_cons_succ, List.getElem_cons_zero, Act.put, List.setIfInBounds_toArray, List.set_cons_zero, List.set_cons_succ]
          refine wpAnyH_take (i := 9) (v := .int .i64 (k : Int)) rfl (by kernel_rfl) (by kernel_rfl) (by kernel_rfl) (fun _ _ _ h => h) (Or.inl ⟨by rfl, fun w' hw' => ?ym159⟩) HH.out ?_
          case ym159 => (go_simp; exact HKM.out)
          try simp only [List.getElem_toArray, List.getElem_cons_succ, List.getElem_cons_zero, Act.put, List.setIfInBounds_toArray, List.set_cons_zero, List.set_cons_succ]
          refine wpAnyH_ready (rs := [4]) (by kernel_rfl) (by simp) (AllReadyH.cons rfl (fun K hK => ?_) AllReadyH.nil)
          go_simp
          refine hK.out _ _ trivial (fun hh => ?_)
          have HH' := Lib.hid hh
          clear hh hK K HH
          have HH := Lib.hid HH'.out
          clear HH'
          have B16 := Lib.hid (show Below wr.heap.size wr (World.alloc v15 (.cells #[.bool (!y)] 4)) from (B15.out).alloc (B15.out).size _)
          have X16 := Lib.hid (show Blk (World.alloc v15 (.cells #[.bool (!y)] 4)) v15.heap.size #[.bool (!y)] 4 from heap_alloc_new _ _)
          try simp only [List.getElem_toArray, List.getElem_cons_succ, List.getElem_cons_zero, Act.put, List.setIfInBounds_toArray, List.set_cons_zero, List.set_cons_succ]
          refine wpAnyH_ready (rs := [10]) (by kernel_rfl) (by simp) (AllReadyH.cons rfl (fun K hK => ?_) AllReadyH.nil)
          go_simp
          refine (repeat_any (a := ⟨v15.heap.size, 0, none⟩) ((X16.out).cell 0) k HLE.out).mono ?_
          rintro e v9 ⟨q9, rfl, ho9, bw9⟩
          have HS9 := Lib.hid (ml_setrow HR.out M.out.at_ ((B16.out).trans (bw9.mono (B16.out).size)) (own_moreN ho9 (B16.out).size) (List.length_replicate ..) (i := 1) (by omega))
          obtain ⟨⟨u9, c9⟩, f9, _⟩ := ml_rowcell ((ML C G g).below M.out.at_ ((B16.out).trans (bw9.mono (B16.out).size))) (i := 1) (by omega)
          have c9' : v9.cell? ⟨g, 3, none⟩ = some u9 := c9
          have f9' : v9.frozen? ⟨g, 3, none⟩ = false := f9
          clear bw9 ho9 c9 f9
          go_simp
          refine hK.out _ _ trivial (fun hh => ?_)
          have HH' := Lib.hid hh
          clear hh hK K HH
          have HH := Lib.hid HH'.out
          clear HH'
          try simp only [List.getElem_toArray, List.getElem_cons_succ, List.getElem_cons_zero, Act.put, List.setIfInBounds_toArray, List.set_cons_zero, List.set_cons_succ]
          refine wpAnyH_take (i := 13) (v := ?vz1613) rfl (by kernel_rfl) (by kernel_rfl) (by kernel_rfl) (fun _ _ _ h => h) (Or.inl ⟨by rfl, fun w' _ => ?yz1613⟩) HH.out ?_
          case yz1613 => (go_simp; try with_reducible rfl)
          try simp only [List.getElem_toArray, List.getElem_cons_succ, List.getElem_cons_zero, Act.put, List.setIfInBounds_toArray, List.set_cons_zero, List.set_cons_succ]
          refine wpAnyH_ready (rs := [14]) (by kernel_rfl) (by simp) (AllReadyH.cons rfl (fun K hK => ?_) AllReadyH.nil)
          go_simp
          refine hK.out _ _ trivial (fun hh => ?_)
          have HH' := Lib.hid hh
          clear hh hK K HH
          have HH := Lib.hid HH'.out
          clear HH'
          refine wpAnyH_done (by kernel_rfl) ?_ _
          go_wp2_with fail
          go_roundw
          case rel => exact ⟨2, _, _, rfl, M.out.trans HS9.out, HSD.out, .inr (.inr ⟨rfl, by rw [HS.out]; rfl⟩)⟩
          case measure => simp [intOf]
    · have HS := Lib.hid hs
      clear hs
      go_wp2_with fail
      go_ret
      refine ⟨g, F', rfl, by rw [← HS.out]; exact M.out.at_, fun q hq => ?_, ?_⟩
      · rcases M.out.new q hq with (h1 | h1) | h1
        · exact .inl h1
        · exact .inr (by rw [h1, HG.out]; exact Nat.le_refl _)
        · exact .inr (Nat.le_trans BW1.out.size h1)
      · exact but_step (but_below (T := FF) BW1.out) M.out.but (fun q hq => hq.imp id (fun e => by rw [e, HG.out]; exact Nat.le_refl _))
theorem new_any (hR : ∀ A n c B m e, G.R A n c B m e) {d : C.L.St} (h : C.L.At w d F1) (hl : G.l = [] := by rfl) :
    Calls Try.prog 21 #[.pointer (C.ptr 0), .pointer (C.ptr 1), G.v] w (fun e w' => ∃ g F', e = .returned (.pointer (some ⟨g, 0, none⟩)) ∧ (ML C G g).At w' (newM C d) F' ∧ (∀ q, F' q → F1 q ∨ w.heap.size ≤ q) ∧ But F1 w w') := by
  have hF : (fun x => F1 x ∨ ∃ y ∈ G.l, x = y.1) = F1 := funext fun x => propext ⟨fun hx => hx.elim id (fun ⟨y, hy, _⟩ => by rw [hl] at hy; cases hy), .inl⟩
  exact new_anyG hR h (fun x hx => by rw [hl] at hx; cases hx) hF.symm
end
end Go.Proofs.Ytdjiagcnaogebaa.Mi
/-
  A mirror of two devices of powers of their own that never fail, as the document tells of it: two lists, which of them are there, what is stale. No program.
-/
namespace Go.Proofs.Ytdjiagcnaogebaa.Mi
open Kd
structure Md where
  l0 : List (List UInt8)
  l1 : List (List UInt8)
  o0 : Bool
  o1 : Bool
  a : List Bool
  b : List Bool
def Md.l (x : Md) (i : Nat) : List (List UInt8) := if i = 0 then x.l0 else x.l1
def Md.o (x : Md) (i : Nat) : Bool := if i = 0 then x.o0 else x.o1
def Md.st (x : Md) (i : Nat) : List Bool := if i = 0 then x.a else x.b
def Md.setL (x : Md) (i k : Nat) (y : List UInt8) : Md := if i = 0 then { x with l0 := x.l0.set k y } else { x with l1 := x.l1.set k y }
def Md.put (x : Md) (i k : Nat) (v : Bool) : Md := if i = 0 then { x with a := x.a.set k v } else { x with b := x.b.set k v }
/-- A sector is written to a device, if it is there. -/
def Md.wd (x : Md) (i k : Nat) (y : List UInt8) : Md := if x.o i then x else x.setL i k y
def Md.has (x : Md) (n : Int) : Bool := decide (0 ≤ n) && decide (n < x.a.length)
section
variable {p1 g1 p2 g2 : Nat}
abbrev Two (p1 g1 p2 g2 : Nat) : Duo := duo (uno p1 g1) (uno p2 g2)
structure Sees (s : Mr (Two p1 g1 p2 g2)) (x : Md) (m : Nat) : Prop where
  d0 : See s.d.1 x.l0 x.o0 m
  d1 : See s.d.2 x.l1 x.o1 m
  a : s.a = x.a
  b : s.b = x.b
  n0 : x.l0.length = x.a.length
  n1 : x.l1.length = x.a.length
  nb : x.b.length = x.a.length
variable {s : Mr (Two p1 g1 p2 g2)} {x : Md} {m : Nat} {G : Gd}
theorem Sees.more (h : Sees s x m) {m' : Nat} (hm : m ≤ m') : Sees s x m' := ⟨h.d0.more hm, h.d1.more hm, h.a, h.b, h.n0, h.n1, h.nb⟩
theorem Sees.ok (h : Sees s x m) : s.ok x.a.length := ⟨by rw [h.a], by rw [h.b]; exact h.nb⟩
theorem Sees.st (h : Sees s x m) (i : Nat) : s.st i = x.st i := by
  unfold Mr.st Md.st; split
  · exact h.a
  · exact h.b
theorem Sees.most (h : Sees s x m) : (Two p1 g1 p2 g2).most s.d ≤ m := by
  have h0 := h.d0.few
  have h1 := h.d1.few
  show max (mostS s.d.1) (mostS s.d.2) ≤ m
  unfold mostS
  rw [if_pos h.d0.ds, if_pos h.d1.ds]
  omega
theorem Sees.has (h : Sees s x m) (n : Int) : Mi.has s n = x.has n := by rw [Mi.has, Md.has, h.a]
theorem Sees.rd (h : Sees s x m) {i : Nat} (hi : i < 2) (n : Int) :
    (Two p1 g1 p2 g2).rd s.d i n = (if x.o i then 13 else if n < 0 ∨ (x.a.length : Int) ≤ n then 2 else 0, if x.o i = false ∧ 0 ≤ n ∧ n < (x.a.length : Int) then (x.l i).getD n.toNat zeroS else zeroS) := by
  rcases two hi with rfl | rfl
  · show (refuseN s.d.1.p (s.d.1.at 0) n, readS s.d.1.p (s.d.1.at 0) n) = _
    rw [h.d0.refuse, h.d0.read, h.n0]; rfl
  · show (refuseN s.d.2.p (s.d.2.at 0) n, readS s.d.2.p (s.d.2.at 0) n) = _
    rw [h.d1.refuse, h.d1.read, h.n1]; rfl
theorem Sees.there (h : Sees s x m) {i : Nat} (hi : i < 2) : (Two p1 g1 p2 g2).there s.d i = !(x.o i) := by
  have hp : ((Two p1 g1 p2 g2).ptr i).isSome = true := by rcases two hi with rfl | rfl <;> rfl
  rw [Duo.there, hp, h.rd hi]
  cases x.o i
  · show (true && ((if false = true then (13 : Int) else if (0 : Int) < 0 ∨ (x.a.length : Int) ≤ 0 then 2 else 0) != 13)) = true
    rw [if_neg (by simp)]
    split <;> rfl
  · rfl
/-- A place's reading. -/
theorem Sees.rd_at (h : Sees s x m) {i k : Nat} (hi : i < 2) (hk : k < x.a.length) : (Two p1 g1 p2 g2).rd s.d i (k : Int) = (if x.o i then 13 else 0, if x.o i then zeroS else (x.l i).getD k zeroS) := by
  rw [h.rd hi]
  cases x.o i
  · simp only [Bool.false_eq_true, if_false, true_and]
    rw [if_neg (by omega), if_pos ⟨by omega, by omega⟩, Int.toNat_natCast]
  · simp
theorem Sees.rdOk (h : Sees s x m) {i k : Nat} (hi : i < 2) (hk : k < x.a.length) : Mi.rdOk (Two p1 g1 p2 g2) G s.d i (k : Int) = (!(x.o i) && G.f k ((x.l i).getD k zeroS)) := by
  rw [Mi.rdOk, h.rd_at hi hk]
  cases x.o i <;> rfl
/-- Does a device have a place right? -/
def Md.right (f : Int → List UInt8 → Bool) (x : Md) (i k : Nat) : Bool := !((x.st i).getD k false) && (!(x.o i) && f k ((x.l i).getD k zeroS))
theorem Sees.right (h : Sees s x m) {i k : Nat} (hi : i < 2) (hk : k < x.a.length) : Mi.right (Two p1 g1 p2 g2) G s i k = x.right G.f i k := by
  rw [Mi.right, Md.right, h.st, h.rdOk hi hk]
theorem Sees.rightV (h : Sees s x m) {i k : Nat} (hi : i < 2) (hk : k < x.a.length) (hr : x.right G.f i k = true) : Mi.rightV (Two p1 g1 p2 g2) G s i k = (x.l i).getD k zeroS := by
  have ho : x.o i = false := by
    rw [Md.right] at hr
    cases ho : x.o i
    · rfl
    · rw [ho] at hr; simp at hr
  rw [Mi.rightV, h.right hi hk, hr, if_pos rfl, h.rd_at hi hk, ho]; rfl
/-! ### Writing -/
theorem Sees.put (h : Sees s x m) (i k : Nat) (v : Bool) : Sees (s.put i k v) (x.put i k v) m := by
  unfold Mr.put Md.put
  split
  · exact ⟨h.d0, h.d1, by show s.a.set k v = x.a.set k v; rw [h.a], h.b, by show x.l0.length = (x.a.set k v).length; rw [List.length_set]; exact h.n0, by show x.l1.length = (x.a.set k v).length; rw [List.length_set]; exact h.n1, by show x.b.length = (x.a.set k v).length; rw [List.length_set]; exact h.nb⟩
  · exact ⟨h.d0, h.d1, h.a, by show s.b.set k v = x.b.set k v; rw [h.b], h.n0, h.n1, by show (x.b.set k v).length = x.a.length; rw [List.length_set]; exact h.nb⟩
theorem Sees.wd (h : Sees s x m) {i k : Nat} (hi : i < 2) (hk : k < x.a.length) (y : List UInt8) :
    ((Two p1 g1 p2 g2).wr s.d i (k : Int) y).1 = (if x.o i then 13 else 0) ∧ Sees (s.dev ((Two p1 g1 p2 g2).wr s.d i (k : Int) y).2) (x.wd i k y) (m + 1) := by
  rcases two hi with rfl | rfl
  · cases ho : x.o0 with
    | true =>
      have hw := h.d0.write_no (n := (k : Int)) (x := y) (by rw [ho]; simp)
      have e : (Two p1 g1 p2 g2).wr s.d 0 (k : Int) y = (13, s.d) := by
        show ((s.d.1.write 0 k y).1, ((s.d.1.write 0 k y).2, s.d.2)) = _
        rw [hw, ho]; rfl
      rw [e]
      refine ⟨by rw [show x.o 0 = true from ho]; rfl, ?_⟩
      rw [Md.wd, show x.o 0 = true from ho, if_pos rfl]
      exact h.more (Nat.le_succ _)
    | false =>
      obtain ⟨h1, h2⟩ := h.d0.write_yes (x := y) ho (k := k) (by rw [h.n0]; exact hk)
      refine ⟨by show (s.d.1.write 0 k y).1 = _; rw [h1, show x.o 0 = false from ho]; rfl, ?_⟩
      rw [Md.wd, show x.o 0 = false from ho, if_neg (by simp)]
      exact ⟨h2, h.d1.more (Nat.le_succ _), h.a, h.b, by show (x.l0.set k y).length = _; rw [List.length_set]; exact h.n0, h.n1, h.nb⟩
  · cases ho : x.o1 with
    | true =>
      have hw := h.d1.write_no (n := (k : Int)) (x := y) (by rw [ho]; simp)
      have e : (Two p1 g1 p2 g2).wr s.d 1 (k : Int) y = (13, s.d) := by
        show ((s.d.2.write 0 k y).1, (s.d.1, (s.d.2.write 0 k y).2)) = _
        rw [hw, ho]; rfl
      rw [e]
      refine ⟨by rw [show x.o 1 = true from ho]; rfl, ?_⟩
      rw [Md.wd, show x.o 1 = true from ho, if_pos rfl]
      exact h.more (Nat.le_succ _)
    | false =>
      obtain ⟨h1, h2⟩ := h.d1.write_yes (x := y) ho (k := k) (by rw [h.n1]; exact hk)
      refine ⟨by show (s.d.2.write 0 k y).1 = _; rw [h1, show x.o 1 = false from ho]; rfl, ?_⟩
      rw [Md.wd, show x.o 1 = false from ho, if_neg (by simp)]
      exact ⟨h.d0.more (Nat.le_succ _), h2, h.a, h.b, h.n0, by show (x.l1.set k y).length = _; rw [List.length_set]; exact h.n1, h.nb⟩
theorem wd_o (x : Md) (i k j : Nat) (y : List UInt8) : (x.wd i k y).o j = x.o j := by
  unfold Md.wd Md.setL Md.o; (repeat' split) <;> rfl
theorem wd_a (x : Md) (i k : Nat) (y : List UInt8) : (x.wd i k y).a = x.a := by
  unfold Md.wd Md.setL; (repeat' split) <;> rfl
/-- What Write, and Choose, tell and make of it. -/
def Md.write (x : Md) (n : Int) (y : List UInt8) : Int × Md :=
  if x.has n then (if x.o0 && x.o1 then (13, x) else (0, (((x.wd 0 n.toNat y).wd 1 n.toNat y).put 0 n.toNat x.o0).put 1 n.toNat x.o1)) else (2, x)
theorem has_place {x : Md} {n : Int} (h : x.has n = true) : ∃ k : Nat, n = (k : Int) ∧ k < x.a.length := by
  rw [Md.has] at h
  simp at h
  exact ⟨n.toNat, by omega, by omega⟩
theorem eq13 (o : Bool) : ((if o then (13 : Int) else 0) == 0) = !o := by cases o <;> rfl
theorem Sees.write (h : Sees s x m) (n : Int) (y : List UInt8) : (s.write n y).1 = (x.write n y).1 ∧ Sees (s.write n y).2 (x.write n y).2 (m + 2) := by
  rw [Mr.write, Md.write, h.has]
  cases hh : x.has n with
  | false => exact ⟨rfl, h.more (by omega)⟩
  | true =>
    obtain ⟨k, rfl, hk⟩ := has_place hh
    rw [if_pos rfl, if_pos rfl, Int.toNat_natCast]
    obtain ⟨e0, h0⟩ := h.wd (i := 0) (by omega) hk y
    obtain ⟨e1, h1⟩ := h0.wd (i := 1) (by omega) (by rw [wd_a]; exact hk) y
    have e1' : ((Two p1 g1 p2 g2).wr (s.w0 (k : Int) y 0).d 1 (k : Int) y).1 = _ := e1
    rw [wd_o] at e1'
    rw [e0, e1', eq13, eq13]
    have h2 : Sees ((s.w0 (k : Int) y 0).w0 (k : Int) y 1) ((x.wd 0 k y).wd 1 k y) (m + 1 + 1) := h1
    rw [Mr.reach, show x.o 0 = x.o0 from rfl, show x.o 1 = x.o1 from rfl]
    cases ho0 : x.o0 <;> cases ho1 : x.o1
    · exact ⟨rfl, (h2.put 0 k false).put 1 k false⟩
    · exact ⟨rfl, (h2.put 0 k false).put 1 k true⟩
    · exact ⟨rfl, (h2.put 0 k true).put 1 k false⟩
    · refine ⟨rfl, ?_⟩
      have hx : (x.wd 0 k y).wd 1 k y = x := by
        have h3 : x.wd 0 k y = x := by rw [Md.wd, show x.o 0 = true from ho0, if_pos rfl]
        rw [h3, Md.wd, show x.o 1 = true from ho1, if_pos rfl]
      rw [hx] at h2
      exact h2
end
end Go.Proofs.Ytdjiagcnaogebaa.Mi
/-
  .. and what Choose, Flush, Read, Heal, Both, Sync, New, Out and Rot make of it. No program.
-/
namespace Go.Proofs.Ytdjiagcnaogebaa.Mi
open Kd
section
variable {p1 g1 p2 g2 : Nat} {s : Mr (Two p1 g1 p2 g2)} {x : Md} {m : Nat} {G : Gd}
theorem list_set_self {α : Type} (l : List α) (k : Nat) (d : α) : l.set k (l.getD k d) = l := by
  apply List.ext_getElem?
  intro j
  rw [List.getElem?_set]
  split
  · rename_i h; subst h
    split
    · rename_i h; rw [List.getD_eq_getElem?_getD, List.getElem?_eq_getElem h]; rfl
    · rename_i h; rw [List.getElem?_eq_none (by omega)]
  · rfl
theorem wd_same {i k : Nat} (h : x.o i = false) : x.wd i k ((x.l i).getD k zeroS) = x := by
  rw [Md.wd, h, if_neg (by simp), Md.setL]
  unfold Md.l
  split
  · show { x with l0 := x.l0.set k (x.l0.getD k zeroS) } = x
    rw [list_set_self]
  · show { x with l1 := x.l1.set k (x.l1.getD k zeroS) } = x
    rw [list_set_self]
theorem Sees.c1 (h : Sees s x m) {i k : Nat} (hi : i < 2) (hk : k < x.a.length) (y : List UInt8) : (s.c1 (k : Int) y i).1 = !(x.o i) ∧ Sees (s.c1 (k : Int) y i).2 (x.wd i k y) (m + 1) := by
  obtain ⟨e, hw⟩ := h.wd hi hk y
  rw [Mr.c1, h.rd_at hi hk]
  cases ho : x.o i with
  | true =>
    rw [if_neg (by simp)]
    refine ⟨rfl, ?_⟩
    rw [Md.wd, ho, if_pos rfl]
    exact h.more (Nat.le_succ _)
  | false =>
    rw [if_pos (by simp)]
    by_cases hy : (x.l i).getD k zeroS = y
    · rw [if_pos (by simpa using hy)]
      refine ⟨rfl, ?_⟩
      rw [← hy, wd_same ho]
      exact h.more (Nat.le_succ _)
    · rw [if_neg (by simpa using hy)]
      exact ⟨by rw [e, eq13, ho], hw⟩
theorem Sees.choose (h : Sees s x m) (n : Int) (y : List UInt8) : (s.choose n y).1 = (x.write n y).1 ∧ Sees (s.choose n y).2 (x.write n y).2 (m + 2) := by
  rw [Mr.choose, Md.write, h.has]
  cases hh : x.has n with
  | false => exact ⟨rfl, h.more (by omega)⟩
  | true =>
    obtain ⟨k, rfl, hk⟩ := has_place hh
    rw [if_pos rfl, if_pos rfl, Int.toNat_natCast]
    obtain ⟨e0, h0⟩ := h.c1 (i := 0) (by omega) hk y
    obtain ⟨e1, h1⟩ := h0.c1 (i := 1) (by omega) (by rw [wd_a]; exact hk) y
    rw [wd_o] at e1
    rw [e0, e1]
    have h2 : Sees ((s.c1 (k : Int) y 0).2.c1 (k : Int) y 1).2 ((x.wd 0 k y).wd 1 k y) (m + 1 + 1) := h1
    rw [Mr.reach, show x.o 0 = x.o0 from rfl, show x.o 1 = x.o1 from rfl]
    cases ho0 : x.o0 <;> cases ho1 : x.o1
    · exact ⟨rfl, (h2.put 0 k false).put 1 k false⟩
    · exact ⟨rfl, (h2.put 0 k false).put 1 k true⟩
    · exact ⟨rfl, (h2.put 0 k true).put 1 k false⟩
    · refine ⟨rfl, ?_⟩
      have hx : (x.wd 0 k y).wd 1 k y = x := by
        have h3 : x.wd 0 k y = x := by rw [Md.wd, show x.o 0 = true from ho0, if_pos rfl]
        rw [h3, Md.wd, show x.o 1 = true from ho1, if_pos rfl]
      rw [hx] at h2
      exact h2
/-! ### Flushing: m is 0 of what is out -/
/-- Nothing waits of a device that is out. -/
structure Dry (s : Mr (Two p1 g1 p2 g2)) (x : Md) : Prop where
  d0 : x.o0 = true → See s.d.1 x.l0 x.o0 0
  d1 : x.o1 = true → See s.d.2 x.l1 x.o1 0
theorem Sees.dry (h : Sees s x 0) : Dry s x := ⟨fun _ => h.d0, fun _ => h.d1⟩
theorem Dry.put (h : Dry s x) (i k : Nat) (v : Bool) : Dry (s.put i k v) (x.put i k v) := by
  unfold Mr.put Md.put; split <;> exact ⟨h.d0, h.d1⟩
theorem Dry.wd (h : Dry s x) (hs : Sees s x m) {i k : Nat} (hi : i < 2) (y : List UInt8) : Dry (s.dev ((Two p1 g1 p2 g2).wr s.d i (k : Int) y).2) (x.wd i k y) := by
  rcases two hi with rfl | rfl
  · cases ho : x.o0 with
    | true =>
      have hw := hs.d0.write_no (n := (k : Int)) (x := y) (by rw [ho]; simp)
      have e : ((Two p1 g1 p2 g2).wr s.d 0 (k : Int) y).2 = s.d := by
        show ((s.d.1.write 0 k y).2, s.d.2) = _
        rw [hw]; rfl
      rw [e, Md.wd, show x.o 0 = true from ho, if_pos rfl]
      exact h
    | false =>
      rw [Md.wd, show x.o 0 = false from ho, if_neg (by simp)]
      exact ⟨fun h1 => (by have h2 : x.o0 = true := h1; rw [ho] at h2; cases h2), h.d1⟩
  · cases ho : x.o1 with
    | true =>
      have hw := hs.d1.write_no (n := (k : Int)) (x := y) (by rw [ho]; simp)
      have e : ((Two p1 g1 p2 g2).wr s.d 1 (k : Int) y).2 = s.d := by
        show (s.d.1, (s.d.2.write 0 k y).2) = _
        rw [hw]; rfl
      rw [e, Md.wd, show x.o 1 = true from ho, if_pos rfl]
      exact h
    | false =>
      rw [Md.wd, show x.o 1 = false from ho, if_neg (by simp)]
      exact ⟨h.d0, fun h1 => (by have h2 : x.o1 = true := h1; rw [ho] at h2; cases h2)⟩
theorem Sees.fl (h : Sees s x m) (hd : Dry s x) : s.flushed = (!x.o0, !x.o1) ∧ Sees ((s.fl0 0).fl0 1) x 0 := by
  have e0 : ((Two p1 g1 p2 g2).fl s.d 0) = ((s.d.1.flush 0).1, ((s.d.1.flush 0).2, s.d.2)) := rfl
  have e1 : ((Two p1 g1 p2 g2).fl (s.fl0 0).d 1) = ((s.d.2.flush 0).1, ((s.d.1.flush 0).2, (s.d.2.flush 0).2)) := rfl
  have h0 : ((s.d.1.flush 0).1 == 0) = !x.o0 ∧ See (s.d.1.flush 0).2 x.l0 x.o0 0 := by
    cases ho : x.o0 with
    | true => rw [h.d0.flush_no ho]; exact ⟨rfl, ho ▸ hd.d0 ho⟩
    | false => obtain ⟨h1, h2⟩ := h.d0.flush_yes ho; rw [h1]; exact ⟨rfl, ho ▸ h2⟩
  have h1 : ((s.d.2.flush 0).1 == 0) = !x.o1 ∧ See (s.d.2.flush 0).2 x.l1 x.o1 0 := by
    cases ho : x.o1 with
    | true => rw [h.d1.flush_no ho]; exact ⟨rfl, ho ▸ hd.d1 ho⟩
    | false => obtain ⟨h1, h2⟩ := h.d1.flush_yes ho; rw [h1]; exact ⟨rfl, ho ▸ h2⟩
  refine ⟨?_, h0.2, h1.2, h.a, h.b, h.n0, h.n1, h.nb⟩
  rw [Mr.flushed, e1]
  show (((s.d.1.flush 0).1 == 0), ((s.d.2.flush 0).1 == 0)) = _
  rw [h0.1, h1.1]
theorem Sees.flush (h : Sees s x m) (hd : Dry s x) : s.flush.1 = (if x.o0 && x.o1 then 13 else 0) ∧ Sees s.flush.2 x 0 := by
  obtain ⟨h1, h2⟩ := h.fl hd
  rw [Mr.flush, h1, h.there (by omega), h.there (by omega), show x.o 0 = x.o0 from rfl, show x.o 1 = x.o1 from rfl]
  refine ⟨?_, h2⟩
  cases x.o0 <;> cases x.o1 <;> rfl
/-! ### Reading -/
def Md.read (f : Int → List UInt8 → Bool) (x : Md) (n : Int) : List UInt8 × Int :=
  if x.has n then (if x.right f 0 n.toNat then (x.l0.getD n.toNat zeroS, 0) else if x.right f 1 n.toNat then (x.l1.getD n.toNat zeroS, 0) else (zeroS, if x.o0 && x.o1 then 13 else 9)) else (zeroS, 2)
theorem right_in {f : Int → List UInt8 → Bool} {i k : Nat} (hr : x.right f i k = true) : x.o i = false := by
  rw [Md.right] at hr
  cases ho : x.o i
  · rfl
  · rw [ho] at hr; simp at hr
theorem Sees.read (h : Sees s x m) (n : Int) : readM (Two p1 g1 p2 g2) G s n = x.read G.f n := by
  rw [readM, Md.read, h.has]
  cases hh : x.has n with
  | false => rfl
  | true =>
    obtain ⟨k, rfl, hk⟩ := has_place hh
    rw [if_pos rfl, if_pos rfl, Int.toNat_natCast, h.right (by omega) hk, h.right (by omega) hk, h.rd_at (by omega) hk, h.rd_at (by omega) hk, h.there (by omega), h.there (by omega)]
    cases h0 : x.right G.f 0 k with
    | true => simp only [if_true, right_in h0]; rfl
    | false =>
      simp only [Bool.false_eq_true, if_false]
      cases h1 : x.right G.f 1 k with
      | true => simp only [if_true, right_in h1]; rfl
      | false =>
        simp only [Bool.false_eq_true, if_false]
        rw [show x.o 0 = x.o0 from rfl, show x.o 1 = x.o1 from rfl]
        cases x.o0 <;> cases x.o1 <;> rfl
/-- What Both tells. -/
def Md.bothTo (f : Int → List UInt8 → Bool) (x : Md) (k : Nat) : Nat → List (List UInt8)
  | 0 => []
  | p + 1 => x.bothTo f k p ++ if !(x.o p) && f k ((x.l p).getD k zeroS) then [(x.l p).getD k zeroS] else []
def Md.both (f : Int → List UInt8 → Bool) (x : Md) (n : Int) : List (List UInt8) := if x.has n then x.bothTo f n.toNat 2 else []
theorem Sees.bothTo (h : Sees s x m) {k : Nat} (hk : k < x.a.length) : ∀ p, p ≤ 2 → Mi.bothTo (Two p1 g1 p2 g2) G s.d (k : Int) p = x.bothTo G.f k p
  | 0, _ => rfl
  | p + 1, hp => by
    rw [Mi.bothTo, Md.bothTo, h.bothTo hk p (by omega), h.rdOk (by omega) hk, h.rd_at (by omega) hk]
    cases ho : x.o p
    · rfl
    · rfl
theorem Sees.both (h : Sees s x m) (n : Int) : bothL G s n = x.both G.f n := by
  rw [bothL, Md.both, h.has]
  cases hh : x.has n with
  | false => rfl
  | true =>
    obtain ⟨k, rfl, hk⟩ := has_place hh
    rw [if_pos rfl, if_pos rfl, Int.toNat_natCast, h.bothTo hk 2 (by omega)]
/-! ### Healing -/
def Md.mend (x : Md) (i k : Nat) (y : List UInt8) : Md := (x.setL i k y).put i k false
theorem Sees.mend (h : Sees s x m) {i k : Nat} (hi : i < 2) (hk : k < x.a.length) (ho : x.o i = false) (y : List UInt8) : (s.mend i k y).1 = 0 ∧ Sees (s.mend i k y).2 (x.mend i k y) (m + 1) := by
  obtain ⟨e, hw⟩ := h.wd hi hk y
  rw [ho] at e
  rw [Md.wd, ho, if_neg (by simp)] at hw
  rw [Mr.mend]
  rw [e]
  exact ⟨rfl, hw.put i k false⟩
def Md.heal (f : Int → List UInt8 → Bool) (x : Md) (n : Int) : (Int × Int) × Md :=
  if x.has n then
    if x.o0 || x.o1 then ((0, 13), x)
    else if x.right f 0 n.toNat then
      (if x.right f 1 n.toNat && decide (x.l0.getD n.toNat zeroS = x.l1.getD n.toNat zeroS) then ((0, 0), x) else ((1, 0), x.mend 1 n.toNat (x.l0.getD n.toNat zeroS)))
    else if x.right f 1 n.toNat then ((1, 0), x.mend 0 n.toNat (x.l1.getD n.toNat zeroS)) else ((2, 0), x)
  else ((0, 2), x)
theorem Sees.healTo (h : Sees s x m) {i k : Nat} (hi : i < 2) (hk : k < x.a.length) (ho : x.o i = false) (y : List UInt8) : (s.healTo i k y).1 = (1, 0) ∧ Sees (s.healTo i k y).2 (x.mend i k y) (m + 1) := by
  obtain ⟨e, hw⟩ := h.mend hi hk ho y
  rw [Mr.healTo, e]
  exact ⟨rfl, hw⟩
theorem Sees.heal (h : Sees s x m) (n : Int) : (s.heal G n).1 = (x.heal G.f n).1 ∧ Sees (s.heal G n).2 (x.heal G.f n).2 (m + 1) := by
  rw [Mr.heal, Md.heal, h.has]
  cases hh : x.has n with
  | false => exact ⟨rfl, h.more (by omega)⟩
  | true =>
    obtain ⟨k, rfl, hk⟩ := has_place hh
    rw [if_pos rfl, if_pos rfl, Int.toNat_natCast, h.there (by omega), h.there (by omega), h.right (by omega) hk, h.right (by omega) hk, show x.o 0 = x.o0 from rfl, show x.o 1 = x.o1 from rfl]
    cases ho0 : x.o0 with
    | true => exact ⟨rfl, h.more (by omega)⟩
    | false =>
      cases ho1 : x.o1 with
      | true => exact ⟨rfl, h.more (by omega)⟩
      | false =>
        rw [if_pos (show ((!false) && !false) = true from rfl), if_neg (show ¬ (false || false) = true by simp)]
        cases h0 : x.right G.f 0 k with
        | true =>
          have v0 : Mi.rightV (Two p1 g1 p2 g2) G s 0 k = x.l0.getD k zeroS := h.rightV (i := 0) (by omega) hk h0
          simp only [if_true, v0]
          cases h1 : x.right G.f 1 k with
          | true =>
            have v1 : Mi.rightV (Two p1 g1 p2 g2) G s 1 k = x.l1.getD k zeroS := h.rightV (i := 1) (by omega) hk h1
            simp only [if_true, v1, Bool.true_and]
            by_cases he : x.l0.getD k zeroS = x.l1.getD k zeroS
            · rw [if_pos he, if_pos (decide_eq_true he)]; exact ⟨rfl, h.more (by omega)⟩
            · rw [if_neg he, if_neg (by rw [decide_eq_false he]; simp)]; exact h.healTo (i := 1) (by omega) hk ho1 _
          | false => simp only [Bool.false_eq_true, if_false, Bool.false_and]; exact h.healTo (i := 1) (by omega) hk ho1 _
        | false =>
          simp only [Bool.false_eq_true, if_false]
          cases h1 : x.right G.f 1 k with
          | true =>
            have v1 : Mi.rightV (Two p1 g1 p2 g2) G s 1 k = x.l1.getD k zeroS := h.rightV (i := 1) (by omega) hk h1
            simp only [if_true, v1]; exact h.healTo (i := 0) (by omega) hk ho0 _
          | false => simp only [Bool.false_eq_true, if_false]; exact ⟨trivial, h.more (by omega)⟩
/-! ### New -/
def Md.new (n : Nat) : Md := ⟨List.replicate n zeroS, List.replicate n zeroS, false, false, List.replicate n false, List.replicate n false⟩
theorem sees_new {S T : Sy} {L0 L1 : List (List UInt8)} {o0 o1 : Bool} {n : Nat} (h0 : See S L0 o0 m) (h1 : See T L1 o1 m) (e0 : L0.length = n) (e1 : L1.length = n) :
    Sees (newM (Two p1 g1 p2 g2) (S, T)) ⟨L0, L1, o0, o1, List.replicate n o0, List.replicate n o1⟩ m := by
  have hs : Sees (⟨(S, T), List.replicate n o0, List.replicate n o1⟩ : Mr (Two p1 g1 p2 g2)) ⟨L0, L1, o0, o1, List.replicate n o0, List.replicate n o1⟩ m :=
    ⟨h0, h1, rfl, rfl, by rw [List.length_replicate]; exact e0, by rw [List.length_replicate]; exact e1, by rw [List.length_replicate, List.length_replicate]⟩
  have hp : (Two p1 g1 p2 g2).places (S, T) = n := by
    show min (S.at 0).st.length (T.at 0).st.length = n
    rw [h0.len, h1.len, e0, e1, Nat.min_self]
  have t0 : (Two p1 g1 p2 g2).there (S, T) 0 = !o0 := hs.there (i := 0) (by omega)
  have t1 : (Two p1 g1 p2 g2).there (S, T) 1 = !o1 := hs.there (i := 1) (by omega)
  have e : newM (Two p1 g1 p2 g2) (S, T) = ⟨(S, T), List.replicate n o0, List.replicate n o1⟩ := by
    show (⟨(S, T), List.replicate ((Two p1 g1 p2 g2).places (S, T)) (!((Two p1 g1 p2 g2).there (S, T) 0)), List.replicate ((Two p1 g1 p2 g2).places (S, T)) (!((Two p1 g1 p2 g2).there (S, T) 1))⟩ : Mr (Two p1 g1 p2 g2)) = _
    rw [hp, t0, t1, Bool.not_not, Bool.not_not]
  rw [e]
  exact hs
end
end Go.Proofs.Ytdjiagcnaogebaa.Mi
/-
  .. Sync, Out, Rot; what waits of what is out. No program.
-/
namespace Go.Proofs.Ytdjiagcnaogebaa.Mi
open Kd
section
variable {p1 g1 p2 g2 : Nat} {s : Mr (Two p1 g1 p2 g2)} {x : Md} {m : Nat} {G : Gd}
theorem dry_in (h0 : x.o0 = false) (h1 : x.o1 = false) : Dry s x := ⟨fun h => (by rw [h0] at h; cases h), fun h => (by rw [h1] at h; cases h)⟩
theorem Dry.write (hd : Dry s x) (h : Sees s x m) (n : Int) (y : List UInt8) : Dry (s.write n y).2 (x.write n y).2 := by
  rw [Mr.write, Md.write, h.has]
  cases hh : x.has n with
  | false => exact hd
  | true =>
    obtain ⟨k, rfl, hk⟩ := has_place hh
    rw [if_pos rfl, if_pos rfl, Int.toNat_natCast]
    obtain ⟨e0, h0⟩ := h.wd (i := 0) (by omega) hk y
    obtain ⟨e1, _⟩ := h0.wd (i := 1) (by omega) (by rw [wd_a]; exact hk) y
    have e1' : ((Two p1 g1 p2 g2).wr (s.w0 (k : Int) y 0).d 1 (k : Int) y).1 = _ := e1
    rw [wd_o] at e1'
    rw [e0, e1', eq13, eq13]
    have h2 : Dry ((s.w0 (k : Int) y 0).w0 (k : Int) y 1) ((x.wd 0 k y).wd 1 k y) := (hd.wd h (by omega) y).wd h0 (by omega) y
    rw [Mr.reach, show x.o 0 = x.o0 from rfl, show x.o 1 = x.o1 from rfl]
    cases ho0 : x.o0 <;> cases ho1 : x.o1
    · exact (h2.put 0 k false).put 1 k false
    · exact (h2.put 0 k false).put 1 k true
    · exact (h2.put 0 k true).put 1 k false
    · have hx : (x.wd 0 k y).wd 1 k y = x := by
        have h3 : x.wd 0 k y = x := by rw [Md.wd, show x.o 0 = true from ho0, if_pos rfl]
        rw [h3, Md.wd, show x.o 1 = true from ho1, if_pos rfl]
      rw [hx] at h2
      exact h2
theorem Dry.c1 (hd : Dry s x) (h : Sees s x m) {i k : Nat} (hi : i < 2) (hk : k < x.a.length) (y : List UInt8) : Dry (s.c1 (k : Int) y i).2 (x.wd i k y) := by
  have hw := hd.wd h hi y (k := k)
  rw [Mr.c1, h.rd_at hi hk]
  cases ho : x.o i with
  | true =>
    rw [if_neg (by simp), Md.wd, ho, if_pos rfl]
    exact hd
  | false =>
    rw [if_pos (by simp)]
    by_cases hy : (x.l i).getD k zeroS = y
    · rw [if_pos (by simpa using hy), ← hy, wd_same ho]
      exact hd
    · rw [if_neg (by simpa using hy)]
      exact hw
theorem Dry.choose (hd : Dry s x) (h : Sees s x m) (n : Int) (y : List UInt8) : Dry (s.choose n y).2 (x.write n y).2 := by
  rw [Mr.choose, Md.write, h.has]
  cases hh : x.has n with
  | false => exact hd
  | true =>
    obtain ⟨k, rfl, hk⟩ := has_place hh
    rw [if_pos rfl, if_pos rfl, Int.toNat_natCast]
    obtain ⟨e0, h0⟩ := h.c1 (i := 0) (by omega) hk y
    obtain ⟨e1, _⟩ := h0.c1 (i := 1) (by omega) (by rw [wd_a]; exact hk) y
    rw [wd_o] at e1
    rw [e0, e1]
    have h2 : Dry ((s.c1 (k : Int) y 0).2.c1 (k : Int) y 1).2 ((x.wd 0 k y).wd 1 k y) := (hd.c1 h (by omega) hk y).c1 h0 (by omega) (by rw [wd_a]; exact hk) y
    rw [Mr.reach, show x.o 0 = x.o0 from rfl, show x.o 1 = x.o1 from rfl]
    cases ho0 : x.o0 <;> cases ho1 : x.o1
    · exact (h2.put 0 k false).put 1 k false
    · exact (h2.put 0 k false).put 1 k true
    · exact (h2.put 0 k true).put 1 k false
    · have hx : (x.wd 0 k y).wd 1 k y = x := by
        have h3 : x.wd 0 k y = x := by rw [Md.wd, show x.o 0 = true from ho0, if_pos rfl]
        rw [h3, Md.wd, show x.o 1 = true from ho1, if_pos rfl]
      rw [hx] at h2
      exact h2
theorem setL_o (x : Md) (i k : Nat) (y : List UInt8) : (x.setL i k y).o0 = x.o0 ∧ (x.setL i k y).o1 = x.o1 ∧ (x.setL i k y).a = x.a := by unfold Md.setL; split <;> exact ⟨rfl, rfl, rfl⟩
theorem put_o (x : Md) (i k : Nat) (v : Bool) : (x.put i k v).o0 = x.o0 ∧ (x.put i k v).o1 = x.o1 ∧ (x.put i k v).a.length = x.a.length := by
  unfold Md.put; split
  · exact ⟨rfl, rfl, by simp⟩
  · exact ⟨rfl, rfl, rfl⟩
theorem mend_o (x : Md) (i k : Nat) (y : List UInt8) : (x.mend i k y).o0 = x.o0 ∧ (x.mend i k y).o1 = x.o1 ∧ (x.mend i k y).a.length = x.a.length := by
  obtain ⟨h1, h2, h3⟩ := put_o (x.setL i k y) i k false
  obtain ⟨h4, h5, h6⟩ := setL_o x i k y
  exact ⟨h1.trans h4, h2.trans h5, h3.trans (by rw [h6])⟩
theorem Dry.heal (hd : Dry s x) (h : Sees s x m) (n : Int) : Dry (s.heal G n).2 (x.heal G.f n).2 := by
  by_cases hc : x.has n = true ∧ x.o0 = false ∧ x.o1 = false
  · obtain ⟨hh, h0, h1⟩ := hc
    have e : (x.heal G.f n).2.o0 = false ∧ (x.heal G.f n).2.o1 = false := by
      rw [Md.heal, hh, if_pos rfl, if_neg (by rw [h0, h1]; simp)]
      split
      · split
        · exact ⟨h0, h1⟩
        · obtain ⟨a, b, _⟩ := mend_o x 1 n.toNat (x.l0.getD n.toNat zeroS); exact ⟨a.trans h0, b.trans h1⟩
      · split
        · obtain ⟨a, b, _⟩ := mend_o x 0 n.toNat (x.l1.getD n.toNat zeroS); exact ⟨a.trans h0, b.trans h1⟩
        · exact ⟨h0, h1⟩
    exact dry_in e.1 e.2
  · have e : (s.heal G n).2 = s ∧ (x.heal G.f n).2 = x := by
      rw [Mr.heal, Md.heal, h.has]
      cases hh : x.has n with
      | false => exact ⟨rfl, rfl⟩
      | true =>
        rw [if_pos rfl, if_pos rfl, h.there (by omega), h.there (by omega), show x.o 0 = x.o0 from rfl, show x.o 1 = x.o1 from rfl]
        cases h0 : x.o0 with
        | true => exact ⟨rfl, rfl⟩
        | false =>
          cases h1 : x.o1 with
          | true => exact ⟨rfl, rfl⟩
          | false => exact absurd ⟨hh, h0, h1⟩ hc
    rw [e.1, e.2]
    exact hd
/-! ### Sync -/
def Md.catch1 (f : Int → List UInt8 → Bool) (x : Md) (i k : Nat) : Md := if (x.st i).getD k false && x.right f (1 - i) k then x.mend i k ((x.l (1 - i)).getD k zeroS) else x
def Md.catchTo (f : Int → List UInt8 → Bool) (x : Md) (i : Nat) : Nat → Md
  | 0 => x
  | k + 1 => (x.catchTo f i k).catch1 f i k
theorem catch1_o (f : Int → List UInt8 → Bool) (x : Md) (i k : Nat) : (x.catch1 f i k).o0 = x.o0 ∧ (x.catch1 f i k).o1 = x.o1 ∧ (x.catch1 f i k).a.length = x.a.length := by
  unfold Md.catch1; split
  · exact mend_o _ _ _ _
  · exact ⟨rfl, rfl, rfl⟩
theorem catchTo_o (f : Int → List UInt8 → Bool) (x : Md) (i : Nat) : ∀ k, (x.catchTo f i k).o0 = x.o0 ∧ (x.catchTo f i k).o1 = x.o1 ∧ (x.catchTo f i k).a.length = x.a.length
  | 0 => ⟨rfl, rfl, rfl⟩
  | k + 1 => by
    obtain ⟨a, b, c⟩ := catchTo_o f x i k
    obtain ⟨d, e, g⟩ := catch1_o f (x.catchTo f i k) i k
    exact ⟨d.trans a, e.trans b, g.trans c⟩
theorem Sees.catch1 (h : Sees s x m) {i k : Nat} (hi : i < 2) (hk : k < x.a.length) (ho : x.o i = false) : Sees (s.catch1 G i k) (x.catch1 G.f i k) (m + 1) := by
  rw [Mr.catch1, Md.catch1, h.st, h.right (by omega) hk]
  split
  · rename_i hc
    have hr : x.right G.f (1 - i) k = true := by
      cases hr : x.right G.f (1 - i) k
      · rw [hr, Bool.and_false] at hc; cases hc
      · rfl
    rw [h.rightV (by omega) hk hr]
    exact (h.mend hi hk ho _).2
  · exact h.more (Nat.le_succ _)
theorem Sees.catchTo (h : Sees s x m) {i : Nat} (hi : i < 2) (ho0 : x.o0 = false) (ho1 : x.o1 = false) : ∀ k, k ≤ x.a.length → Sees (s.catchTo G i k) (x.catchTo G.f i k) (m + k)
  | 0, _ => h
  | k + 1, hk => by
    obtain ⟨a, b, c⟩ := catchTo_o G.f x i k
    refine (h.catchTo hi ho0 ho1 k (by omega)).catch1 hi (by rw [c]; omega) ?_
    rcases two hi with rfl | rfl
    · exact a.trans ho0
    · exact b.trans ho1
def Md.caught (f : Int → List UInt8 → Bool) (x : Md) : Md := (x.catchTo f 0 x.a.length).catchTo f 1 x.a.length
def Md.sync (f : Int → List UInt8 → Bool) (x : Md) : Int × Md :=
  if x.o0 || x.o1 then (13, x) else (if cnt (x.caught f).a = 0 ∧ cnt (x.caught f).b = 0 then 0 else 9, x.caught f)
theorem Sees.sync (h : Sees s x 0) : (s.sync G x.a.length).1 = (x.sync G.f).1 ∧ Sees (s.sync G x.a.length).2 (x.sync G.f).2 0 := by
  rw [Mr.sync, Md.sync, h.there (by omega), h.there (by omega), show x.o 0 = x.o0 from rfl, show x.o 1 = x.o1 from rfl]
  cases ho0 : x.o0 with
  | true => exact ⟨rfl, h⟩
  | false =>
    cases ho1 : x.o1 with
    | true => exact ⟨rfl, h⟩
    | false =>
      rw [if_pos (show ((!false) && !false) = true from rfl), if_neg (show ¬ (false || false) = true by simp)]
      obtain ⟨a, b, c⟩ := catchTo_o G.f x 0 x.a.length
      have h1 := h.catchTo (G := G) (i := 0) (by omega) ho0 ho1 x.a.length (Nat.le_refl _)
      have h2 : Sees (s.caught G x.a.length) (x.caught G.f) (0 + x.a.length + x.a.length) := h1.catchTo (i := 1) (by omega) (a.trans ho0) (b.trans ho1) x.a.length (by rw [c]; exact Nat.le_refl _)
      obtain ⟨d, e, g⟩ := catchTo_o G.f (x.catchTo G.f 0 x.a.length) 1 x.a.length
      have o0 : (x.caught G.f).o0 = false := (d.trans a).trans ho0
      have o1 : (x.caught G.f).o1 = false := (e.trans b).trans ho1
      obtain ⟨h3, h4⟩ := h2.fl (dry_in o0 o1)
      rw [o0, o1] at h3
      rw [if_pos (show (s.caught G x.a.length).flushed = (true, true) from h3)]
      refine ⟨?_, h4⟩
      rw [show (((s.caught G x.a.length).fl0 0).fl0 1).a = (x.caught G.f).a from h4.a, show (((s.caught G x.a.length).fl0 0).fl0 1).b = (x.caught G.f).b from h4.b]
theorem Dry.sync (h : Sees s x 0) : Dry (s.sync G x.a.length).2 (x.sync G.f).2 := (h.sync).2.dry
/-! ### Out, Rot -/
def Md.out (x : Md) (i : Nat) (on : Bool) : Md := if i = 0 then { x with o0 := on } else { x with o1 := on }
theorem Sees.out0 (h : Sees s x 0) (on : Bool) : Sees (⟨(s.d.1.put 0 ((s.d.1.at 0).out on), s.d.2), s.a, s.b⟩ : Mr (Two p1 g1 p2 g2)) (x.out 0 on) 0 := ⟨h.d0.out on, h.d1, h.a, h.b, h.n0, h.n1, h.nb⟩
theorem Sees.out1 (h : Sees s x 0) (on : Bool) : Sees (⟨(s.d.1, s.d.2.put 0 ((s.d.2.at 0).out on)), s.a, s.b⟩ : Mr (Two p1 g1 p2 g2)) (x.out 1 on) 0 := ⟨h.d0, h.d1.out on, h.a, h.b, h.n0, h.n1, h.nb⟩
theorem See.rot {S : Sy} {L : List (List UInt8)} {g : Bool} (h : See S L g 0) (i a : Int) (b : UInt8) : See (S.rot 0 i a b) (if hasByte L.length i a then rotL L i.toNat a.toNat b else L) g 0 := by
  have hl : (S.at 0).st.length = L.length := h.len
  rw [Sy.rot, hl]
  split
  · have hd0 : 0 < S.ds.length := by rw [h.ds]; omega
    have ha : (S.put 0 ((S.at 0).rot i.toNat a.toNat b)).at 0 = (S.at 0).rot i.toNat a.toNat b := by rw [at_put _ hd0, if_pos rfl]
    refine ⟨by rw [len_put]; exact h.ds, h.p, ?_, fun j hj => ?_, by rw [ha]; exact h.gone, by rw [ha]; exact h.lies, by rw [ha]; exact h.few⟩
    · rw [ha, ← h.stable]; rfl
    · rw [ha, Dv.now]
      show nowL (rotL (S.at 0).st i.toNat a.toNat b) (S.at 0).wt j = _
      rw [h.dry, Kd.flush_nil, h.stable]
  · exact h
def Md.rot (x : Md) (i : Nat) (n a : Int) (b : UInt8) : Md := if hasByte x.a.length n a then (if i = 0 then { x with l0 := rotL x.l0 n.toNat a.toNat b } else { x with l1 := rotL x.l1 n.toNat a.toNat b }) else x
theorem rotL_length (L : List (List UInt8)) (n a : Nat) (b : UInt8) : (rotL L n a b).length = L.length := by rw [rotL, List.length_set]
theorem Sees.rot0 (h : Sees s x 0) (n a : Int) (b : UInt8) : Sees (⟨(s.d.1.rot 0 n a b, s.d.2), s.a, s.b⟩ : Mr (Two p1 g1 p2 g2)) (x.rot 0 n a b) 0 := by
  have h1 := h.d0.rot n a b
  rw [h.n0] at h1
  rw [Md.rot]
  split
  · rename_i hc
    rw [if_pos hc] at h1
    exact ⟨h1, h.d1, h.a, h.b, by show (rotL _ _ _ _).length = _; rw [rotL_length]; exact h.n0, h.n1, h.nb⟩
  · rename_i hc
    rw [if_neg hc] at h1
    exact ⟨h1, h.d1, h.a, h.b, h.n0, h.n1, h.nb⟩
theorem Sees.rot1 (h : Sees s x 0) (n a : Int) (b : UInt8) : Sees (⟨(s.d.1, s.d.2.rot 0 n a b), s.a, s.b⟩ : Mr (Two p1 g1 p2 g2)) (x.rot 1 n a b) 0 := by
  have h1 := h.d1.rot n a b
  rw [h.n1] at h1
  rw [Md.rot]
  split
  · rename_i hc
    rw [if_pos hc] at h1
    exact ⟨h.d0, h1, h.a, h.b, h.n0, by show (rotL _ _ _ _).length = _; rw [rotL_length]; exact h.n1, h.nb⟩
  · rename_i hc
    rw [if_neg hc] at h1
    exact ⟨h.d0, h1, h.a, h.b, h.n0, h.n1, h.nb⟩
end
end Go.Proofs.Ytdjiagcnaogebaa.Mi
/-
  Two devices, and a mirror of them, in the laws: what each call tells, and makes of what is told of them.
-/
namespace Go.Proofs.Ytdjiagcnaogebaa.Mi
open Go.RowKit Kd
section
variable {p1 g1 p2 g2 g : Nat} {G : Gd} {w0 w w1 w' : World} {F F' : Nat → Prop} {m : Nat}
/-- Two devices, new behind w0. -/
structure LD (p1 g1 p2 g2 : Nat) (w0 w : World) (d : (Two p1 g1 p2 g2).L.St) (F : Nat → Prop) (L0 L1 : List (List UInt8)) (o0 o1 : Bool) (m : Nat) : Prop where
  live : LiveA (Two p1 g1 p2 g2).L w0 w d F
  d0 : See d.1 L0 o0 m
  d1 : See d.2 L1 o1 m
/-- A mirror of them. -/
structure LM (p1 g1 p2 g2 : Nat) (G : Gd) (g : Nat) (w0 w : World) (s : Mr (Two p1 g1 p2 g2)) (F : Nat → Prop) (x : Md) (m : Nat) : Prop where
  live : LiveA (ML (Two p1 g1 p2 g2) G g) w0 w s F
  sees : Sees s x m
  dry : Dry s x
/-- It returns v; the mirror is x now. -/
def RetM (v : Value) (p1 g1 p2 g2 : Nat) (G : Gd) (g : Nat) (w0 : World) (x : Md) (m : Nat) (F : Nat → Prop) (w : World) (e : Ending) (w' : World) : Prop :=
  e = .returned v ∧ ∃ (s : Mr (Two p1 g1 p2 g2)) (F' : Nat → Prop), LM p1 g1 p2 g2 G g w0 w' s F' x m ∧ Mv (ML (Two p1 g1 p2 g2) G g) w F w' s F'
variable {s s' : Mr (Two p1 g1 p2 g2)} {x x' : Md}
theorem LM.ret (h : LM p1 g1 p2 g2 G g w0 w s F x m) {v : Value} {e : Ending} {m' : Nat} (hr : RetA (ML (Two p1 g1 p2 g2) G g) v s' F w e w') (hs : Sees s' x' m') (hd : Dry s' x') : RetM v p1 g1 p2 g2 G g w0 x' m' F w e w' := by
  obtain ⟨rfl, F', hm⟩ := hr
  exact ⟨rfl, s', F', ⟨h.live.step hm, hs, hd⟩, hm⟩
theorem LM.below (h : LM p1 g1 p2 g2 G g w0 w s F x m) (hb : Below w.heap.size w w') : LM p1 g1 p2 g2 G g w0 w' s F x m := ⟨h.live.below hb, h.sees, h.dry⟩
theorem LM.more (h : LM p1 g1 p2 g2 G g w0 w s F x m) {m' : Nat} (hm : m ≤ m') : LM p1 g1 p2 g2 G g w0 w s F x m' := ⟨h.live, h.sees.more hm, h.dry⟩
theorem lm_write (h : LM p1 g1 p2 g2 G g w0 w s F x m) (n : Int) (y : List UInt8) (hy : y.length = 128) (hm : m < 900000) :
    Calls Try.prog 34 #[.pointer (some ⟨g, 0, none⟩), .int .i64 n, .agg (bva y)] w (RetM (.int .i64 (x.write n y).1) p1 g1 p2 g2 G g w0 (x.write n y).2 (m + 2) F w) := by
  obtain ⟨h1, h2⟩ := h.sees.write n y
  have hc := mwrite_any h.live.at_ h.sees.ok n y hy (Nat.lt_of_le_of_lt h.sees.most hm)
  rw [h1] at hc
  exact hc.mono fun _ _ hr => h.ret hr h2 (h.dry.write h.sees n y)
theorem lm_choose (h : LM p1 g1 p2 g2 G g w0 w s F x m) (n : Int) (y : List UInt8) (hy : y.length = 128) (hm : m < 900000) :
    Calls Try.prog 68 #[.pointer (some ⟨g, 0, none⟩), .int .i64 n, .agg (bva y)] w (RetM (.int .i64 (x.write n y).1) p1 g1 p2 g2 G g w0 (x.write n y).2 (m + 2) F w) := by
  obtain ⟨h1, h2⟩ := h.sees.choose n y
  have hc := mchoose_any h.live.at_ h.sees.ok n y hy (Nat.lt_of_le_of_lt h.sees.most hm)
  rw [h1] at hc
  exact hc.mono fun _ _ hr => h.ret hr h2 (h.dry.choose h.sees n y)
theorem lm_flush (h : LM p1 g1 p2 g2 G g w0 w s F x m) :
    Calls Try.prog 35 #[.pointer (some ⟨g, 0, none⟩)] w (RetM (.int .i64 (if x.o0 && x.o1 then 13 else 0)) p1 g1 p2 g2 G g w0 x 0 F w) := by
  obtain ⟨h1, h2⟩ := h.sees.flush h.dry
  have hc := mflushm_any h.live.at_
  rw [h1] at hc
  exact hc.mono fun _ _ hr => h.ret hr h2 h2.dry
theorem lm_read (h : LM p1 g1 p2 g2 G g w0 w s F x m) (n : Int) :
    Calls Try.prog 28 #[.pointer (some ⟨g, 0, none⟩), .int .i64 n] w (RetM (.tuple #[.agg (bva (x.read G.f n).1), .int .i64 (x.read G.f n).2]) p1 g1 p2 g2 G g w0 x m F w) := by
  have hc := mread_any h.live.at_ (by rw [h.sees.ok.1, h.sees.ok.2]) n
  rw [h.sees.read n] at hc
  exact hc.mono fun _ _ hr => h.ret hr h.sees h.dry
theorem lm_heal (h : LM p1 g1 p2 g2 G g w0 w s F x m) (n : Int) (hm : m < 900000) :
    Calls Try.prog 27 #[.pointer (some ⟨g, 0, none⟩), .int .i64 n] w (RetM (tup2 (x.heal G.f n).1) p1 g1 p2 g2 G g w0 (x.heal G.f n).2 (m + 1) F w) := by
  obtain ⟨h1, h2⟩ := h.sees.heal (G := G) n
  have hc := heal_any h.live.at_ h.sees.ok n (Nat.lt_of_le_of_lt h.sees.most (by omega))
  rw [h1] at hc
  exact hc.mono fun _ _ hr => h.ret hr h2 (h.dry.heal h.sees n)
theorem lm_sync (h : LM p1 g1 p2 g2 G g w0 w s F x 0) (hk : x.a.length ≤ 5000) :
    Calls Try.prog 26 #[.pointer (some ⟨g, 0, none⟩)] w (RetM (.int .i64 (x.sync G.f).1) p1 g1 p2 g2 G g w0 (x.sync G.f).2 0 F w) := by
  obtain ⟨h1, h2⟩ := h.sees.sync (G := G)
  have hc := sync_any h.live.at_ h.sees.ok hk (Nat.lt_of_le_of_lt h.sees.most (by omega))
  rw [h1] at hc
  exact hc.mono fun _ _ hr => h.ret hr h2 h2.dry
theorem lm_stale (h : LM p1 g1 p2 g2 G g w0 w s F x m) : Calls Try.prog 70 #[.pointer (some ⟨g, 0, none⟩)] w (RetB (.tuple #[.int .i64 (cnt x.a), .int .i64 (cnt x.b)]) w) := by
  have hc := stale_any h.live.at_
  rwa [h.sees.a, h.sees.b] at hc
theorem lm_both (h : LM p1 g1 p2 g2 G g w0 w s F x m) (n : Int) : Calls Try.prog 29 #[.pointer (some ⟨g, 0, none⟩), .int .i64 n] w (RetSec (x.both G.f n) w) := by
  have hc := both_any h.live.at_ n
  rwa [h.sees.both n] at hc
theorem lm_len (h : LM p1 g1 p2 g2 G g w0 w s F x m) : Calls Try.prog 24 #[.pointer (some ⟨g, 0, none⟩)] w (RetB (.int .i64 x.a.length) w) := by
  have hc := mlen_any h.live.at_
  rwa [h.sees.a] at hc
/-! ### The devices beneath a mirror -/
theorem ml_fst (h : (ML (Two p1 g1 p2 g2) G g).At w s F) : ∃ F1, Kd.Sys w p1 [g1] s.d.1 F1 ∧ s.d.1.ds.length = 1 ∧ ∀ {v : Value} {S : Sy} {e w'}, S.ds.length = 1 → RetS v p1 [g1] S F1 w e w' → RetA (ML (Two p1 g1 p2 g2) G g) v ⟨(S, s.d.2), s.a, s.b⟩ F w e w' := by
  obtain ⟨F0, hd, hl⟩ := ml_dev h
  obtain ⟨F1, h1, hl1⟩ := pair_fst hd
  exact ⟨F1, h1.1, h1.2, fun hS hr => hl (hl1 (RetS.reta hS hr))⟩
theorem ml_snd (h : (ML (Two p1 g1 p2 g2) G g).At w s F) : ∃ F2, Kd.Sys w p2 [g2] s.d.2 F2 ∧ s.d.2.ds.length = 1 ∧ ∀ {v : Value} {S : Sy} {e w'}, S.ds.length = 1 → RetS v p2 [g2] S F2 w e w' → RetA (ML (Two p1 g1 p2 g2) G g) v ⟨(s.d.1, S), s.a, s.b⟩ F w e w' := by
  obtain ⟨F0, hd, hl⟩ := ml_dev h
  obtain ⟨F1, h1, hl1⟩ := pair_snd hd
  exact ⟨F1, h1.1, h1.2, fun hS hr => hl (hl1 (RetS.reta hS hr))⟩
theorem lm_out0 (h : LM p1 g1 p2 g2 G g w0 w s F x 0) (on : Bool) : Calls Try.prog 20 #[.pointer (some ⟨g1, 0, none⟩), .bool on] w (RetM (.tuple #[]) p1 g1 p2 g2 G g w0 (x.out 0 on) 0 F w) := by
  obtain ⟨F1, h1, h2, hl⟩ := ml_fst h.live.at_
  have hs := h.sees.out0 on
  exact (out_sys h1 0 (by rw [h2]; omega) on).mono fun _ _ hr => h.ret (hl ((len_put _).trans h2) hr) hs hs.dry
theorem lm_out1 (h : LM p1 g1 p2 g2 G g w0 w s F x 0) (on : Bool) : Calls Try.prog 20 #[.pointer (some ⟨g2, 0, none⟩), .bool on] w (RetM (.tuple #[]) p1 g1 p2 g2 G g w0 (x.out 1 on) 0 F w) := by
  obtain ⟨F1, h1, h2, hl⟩ := ml_snd h.live.at_
  have hs := h.sees.out1 on
  exact (out_sys h1 0 (by rw [h2]; omega) on).mono fun _ _ hr => h.ret (hl ((len_put _).trans h2) hr) hs hs.dry
theorem rot_ds {S : Sy} (n a : Int) (b : UInt8) : (S.rot 0 n a b).ds.length = S.ds.length := by rw [Sy.rot]; split; exact len_put _; rfl
theorem lm_rot0 (h : LM p1 g1 p2 g2 G g w0 w s F x 0) (n a : Int) (b : UInt8) : Calls Try.prog 50 #[.pointer (some ⟨g1, 0, none⟩), .int .i64 n, .int .i64 a, .int .u8 (b.toNat : Int)] w (RetM (.bool (hasByte x.a.length n a)) p1 g1 p2 g2 G g w0 (x.rot 0 n a b) 0 F w) := by
  obtain ⟨F1, h1, h2, hl⟩ := ml_fst h.live.at_
  have hs := h.sees.rot0 n a b
  have hc := rot_sys h1 0 (by rw [h2]; omega) n a b
  rw [h.sees.d0.len, h.sees.n0] at hc
  exact hc.mono fun _ _ hr => h.ret (hl ((rot_ds n a b).trans h2) hr) hs hs.dry
theorem lm_rot1 (h : LM p1 g1 p2 g2 G g w0 w s F x 0) (n a : Int) (b : UInt8) : Calls Try.prog 50 #[.pointer (some ⟨g2, 0, none⟩), .int .i64 n, .int .i64 a, .int .u8 (b.toNat : Int)] w (RetM (.bool (hasByte x.a.length n a)) p1 g1 p2 g2 G g w0 (x.rot 1 n a b) 0 F w) := by
  obtain ⟨F1, h1, h2, hl⟩ := ml_snd h.live.at_
  have hs := h.sees.rot1 n a b
  have hc := rot_sys h1 0 (by rw [h2]; omega) n a b
  rw [h.sees.d1.len, h.sees.n1] at hc
  exact hc.mono fun _ _ hr => h.ret (hl ((rot_ds n a b).trans h2) hr) hs hs.dry
/-! ### Two devices ahead of a mirror -/
theorem LD.below {d : (Two p1 g1 p2 g2).L.St} {L0 L1 : List (List UInt8)} {o0 o1 : Bool} (h : LD p1 g1 p2 g2 w0 w d F L0 L1 o0 o1 m) (hb : Below w.heap.size w w') : LD p1 g1 p2 g2 w0 w' d F L0 L1 o0 o1 m := ⟨h.live.below hb, h.d0, h.d1⟩
theorem ld_new {S T : Sy} {F1 F2 : Nat → Prop} {L0 L1 : List (List UInt8)} {o0 o1 : Bool} (h1 : Live w0 w1 p1 [g1] S F1) (h2 : Live w1 w p2 [g2] T F2) (s1 : See S L0 o0 m) (s2 : See T L1 o1 m) :
    LD p1 g1 p2 g2 w0 w (S, T) (fun q => F1 q ∨ F2 q) L0 L1 o0 o1 m := by
  have hl1 := h1.lt
  refine ⟨⟨⟨F1, F2, ⟨(h1.below h2.bel).sys, s1.ds⟩, ⟨h2.sys, s2.ds⟩, fun q a b => by have := hl1 q a; have := h2.new q b; omega, fun q a => .inl a, fun q a => .inr a, ?_⟩, ?_, h1.bel.trans (h2.bel.mono h1.bel.size)⟩, s1, s2⟩
  · rintro q (hq | hq)
    · exact Nat.lt_of_lt_of_le (hl1 q hq) h2.bel.size
    · exact h2.lt q hq
  · rintro q (hq | hq)
    · exact h1.new q hq
    · exact Nat.le_trans h1.bel.size (h2.new q hq)
theorem lm_new (hR : ∀ A n c B m e, G.R A n c B m e) {d : (Two p1 g1 p2 g2).L.St} {L0 L1 : List (List UInt8)} {o0 o1 : Bool} {n : Nat} (h : LD p1 g1 p2 g2 w0 w d F L0 L1 o0 o1 0) (e0 : L0.length = n) (e1 : L1.length = n) (hl : G.l = [] := by rfl) :
    Calls Try.prog 21 #[.pointer (some ⟨g1, 0, none⟩), .pointer (some ⟨g2, 0, none⟩), G.v] w (fun e w' => ∃ g s F', e = .returned (.pointer (some ⟨g, 0, none⟩)) ∧ LM p1 g1 p2 g2 G g w0 w' s F' ⟨L0, L1, o0, o1, List.replicate n o0, List.replicate n o1⟩ 0 ∧ (∀ q, F' q → F q ∨ w.heap.size ≤ q) ∧ But F w w') := by
  refine (new_any (C := Two p1 g1 p2 g2) hR h.live.at_ hl).mono ?_
  rintro e w' ⟨g, F', rfl, h1, h2, h3⟩
  have hs : Sees (newM (Two p1 g1 p2 g2) d) ⟨L0, L1, o0, o1, List.replicate n o0, List.replicate n o1⟩ 0 := sees_new h.d0 h.d1 e0 e1
  exact ⟨g, _, F', rfl, ⟨⟨h1, fun q hq => (h2 q hq).elim (h.live.new q) (Nat.le_trans h.live.bel.size), h.live.bel.trans (h3.below (fun k hk hq => by have := h.live.new k hq; omega) h.live.bel.size)⟩, hs, hs.dry⟩, h2, h3⟩
end
end Go.Proofs.Ytdjiagcnaogebaa.Mi
/-
  The reference's mirror (layer 9's): where it lies, and that There and Count answer as the lists do.
-/
namespace Go.Proofs.Ytdjiagcnaogebaa.Mr
open Go.RowKit Kd Mi
attribute [local go_sem ↓] Go.wp_at_zero Go.wp_at_succ
def rmC (x : Md) (n : Nat) (A0 A1 B0 B1 : Option Addr) (c0 c1 e0 e1 : Nat) : Array Value := #[.slice A0 n c0, .slice A1 n c1, .bool x.o0, .bool x.o1, .slice B0 n e0, .slice B1 n e1]
/-- The reference's mirror at g is x: its lists and marks lie in rows of their own. -/
structure RmO (w : World) (g : Nat) (x : Md) (n : Nat) (A0 A1 B0 B1 : Option Addr) (c0 c1 e0 e1 : Nat) : Prop where
  blk : Blk w g (rmC x n A0 A1 B0 B1 c0 c1 e0 e1) 113
  l0 : w.ownsRow 0 38 128 (.slice A0 n c0) n (svs x.l0)
  l1 : w.ownsRow 0 38 128 (.slice A1 n c1) n (svs x.l1)
  a : w.ownsRow 0 4 1 (.slice B0 n e0) n (bs x.a)
  b : w.ownsRow 0 4 1 (.slice B1 n e1) n (bs x.b)
  n0 : x.l0.length = n
  n1 : x.l1.length = n
  an : x.a.length = n
  bn : x.b.length = n
  ok0 : ∀ s ∈ x.l0, s.length = 128
  ok1 : ∀ s ∈ x.l1, s.length = 128
  apl : ∀ q, (Value.slice A0 n c0).ownBlock = some q → (Value.slice A1 n c1).ownBlock = some q → False
  apm : ∀ q, (Value.slice B0 n e0).ownBlock = some q → (Value.slice B1 n e1).ownBlock = some q → False
def rmF (g n : Nat) (A0 A1 B0 B1 : Option Addr) (c0 c1 e0 e1 : Nat) : Nat → Prop := fun q => q = g ∨ (Value.slice A0 n c0).ownBlock = some q ∨ (Value.slice A1 n c1).ownBlock = some q ∨ (Value.slice B0 n e0).ownBlock = some q ∨ (Value.slice B1 n e1).ownBlock = some q
/-- .. and its blocks lie in F. -/
def RmAt (w : World) (g : Nat) (x : Md) (F : Nat → Prop) : Prop := ∃ n A0 A1 B0 B1 c0 c1 e0 e1, RmO w g x n A0 A1 B0 B1 c0 c1 e0 e1 ∧ (∀ q, rmF g n A0 A1 B0 B1 c0 c1 e0 e1 q → F q) ∧ ∀ q, F q → q < w.heap.size
section
variable {w w' : World} {g n : Nat} {x : Md} {A0 A1 B0 B1 : Option Addr} {c0 c1 e0 e1 : Nat} {F T : Nat → Prop}
theorem RmO.below (h : RmO w g x n A0 A1 B0 B1 c0 c1 e0 e1) (hb : Below w.heap.size w w') : RmO w' g x n A0 A1 B0 B1 c0 c1 e0 e1 :=
  ⟨h.blk.below hb, own_belowN h.l0 hb, own_belowN h.l1 hb, own_belowN h.a hb, own_belowN h.b hb, h.n0, h.n1, h.an, h.bn, h.ok0, h.ok1, h.apl, h.apm⟩
theorem RmO.but (h : RmO w g x n A0 A1 B0 B1 c0 c1 e0 e1) (hb : But T w w') (hs : ∀ q, rmF g n A0 A1 B0 B1 c0 c1 e0 e1 q → ¬ T q) : RmO w' g x n A0 A1 B0 B1 c0 c1 e0 e1 :=
  ⟨h.blk.but hb (hs _ (.inl rfl)), Own.but h.l0 hb (fun q hq => hs q (.inr (.inl hq))), Own.but h.l1 hb (fun q hq => hs q (.inr (.inr (.inl hq)))), Own.but h.a hb (fun q hq => hs q (.inr (.inr (.inr (.inl hq))))), Own.but h.b hb (fun q hq => hs q (.inr (.inr (.inr (.inr hq))))), h.n0, h.n1, h.an, h.bn, h.ok0, h.ok1, h.apl, h.apm⟩
theorem RmAt.below (h : RmAt w g x F) (hb : Below w.heap.size w w') : RmAt w' g x F := by
  obtain ⟨n, A0, A1, B0, B1, c0, c1, e0, e1, h, h1, h2⟩ := h
  exact ⟨n, A0, A1, B0, B1, c0, c1, e0, e1, h.below hb, h1, fun q hq => Nat.lt_of_lt_of_le (h2 q hq) hb.size⟩
theorem RmAt.but (h : RmAt w g x F) (hb : But T w w') (hs : ∀ q, F q → ¬ T q) (hz : w.heap.size ≤ w'.heap.size) : RmAt w' g x F := by
  obtain ⟨n, A0, A1, B0, B1, c0, c1, e0, e1, h, h1, h2⟩ := h
  exact ⟨n, A0, A1, B0, B1, c0, c1, e0, e1, h.but hb (fun q hq => hs q (h1 q hq)), h1, fun q hq => Nat.lt_of_lt_of_le (h2 q hq) hz⟩
set_option maxRecDepth 100000 in
set_option maxHeartbeats 3200000 in
theorem rthere_any (h : RmAt w g x F) (k : Int) : Calls Try.prog 69 #[.pointer (some ⟨g, 0, none⟩), .int .i64 k] w (RetB (.bool (x.has k)) w) := by
  obtain ⟨n, A0, A1, B0, B1, c0, c1, e0, e1, h, _⟩ := h
  have d0 : w.cell? ⟨g, 0, none⟩ = some (.slice A0 n c0) := h.blk.cell 0
  rw [Md.has, h.an]
  clear h
  by_cases h0 : 0 ≤ k
  · by_cases h1 : k < n
    · rw [decide_eq_true h0, decide_eq_true h1]
      go_enter Try.func69, Try.ntmps69
      go_wp2_with fail
      go_ret
      exact ⟨rfl, Below.refl _ _⟩
    · rw [decide_eq_true h0, decide_eq_false h1]
      go_enter Try.func69, Try.ntmps69
      go_wp2_with fail
      go_ret
      exact ⟨rfl, Below.refl _ _⟩
  · rw [decide_eq_false h0]
    go_enter Try.func69, Try.ntmps69
    go_wp2_with fail
    go_ret
    exact ⟨rfl, Below.refl _ _⟩
set_option maxRecDepth 100000 in
set_option maxHeartbeats 3200000 in
theorem rcount0_any (h : RmAt w g x F) : Calls Try.prog 71 #[.pointer (some ⟨g, 0, none⟩), .int .i64 0] w (RetB (.int .i64 (cnt x.a)) w) := by
  obtain ⟨k, A0, A1, B0, B1, c0, c1, e0, e1, h, _⟩ := h
  have d4 : w.cell? ⟨g, 4, none⟩ = some (.slice B0 k e0) := h.blk.cell 4
  obtain ⟨l, hl⟩ : ∃ l, l = x.a := ⟨_, rfl⟩
  have hr := h.a
  have hn := h.an
  rw [← hl] at hr hn ⊢
  have H := Lib.hid hr
  have HL := Lib.hid hn
  have HC := Lib.hid (own_cap hr)
  clear h hl hr hn
  go_enter Try.func71, Try.ntmps71
  go_wp2_with fail
  go_loopw [5, 6] (fun x i wr => ∃ p : Nat, p ≤ k ∧ i = .int .i64 p ∧ x = .int .i64 (cnt (l.take p)) ∧ wr = w) (fun _ i _ => k - (intOf i).toNat)
  case atStart => exact ⟨0, Nat.zero_le _, rfl, by rfl, rfl⟩
  case round =>
    obtain ⟨p, hp, rfl, rfl, rfl⟩ := hrel
    have HP := Lib.hid hp
    clear hp
    by_cases hlt : p < k
    · have HPL := Lib.hid hlt
      obtain ⟨ad, hA, _, hc⟩ := Rd.ownN H.out p _ (bs_get (show p < l.length by rw [HL.out]; exact hlt))
      subst hA
      have HT := Lib.hid (cnt_take (show p < l.length by rw [HL.out]; exact hlt))
      have k0 : (0 : Int) ≤ (p : Int) := by omega
      have k1 : (p : Int) < (k : Int) := by omega
      have hmx := HC.out
      have wp1 : IntKind.i64.wrap ((p : Int) + 1) = ((p + 1 : Nat) : Int) := IntWalk.i64_in _ (by unfold maxLen at hmx; omega)
      obtain ⟨q, hq⟩ : ∃ q, q = cnt (l.take p) := ⟨_, rfl⟩
      have hqb : q ≤ p := by rw [hq]; exact Nat.le_trans (cnt_le _) (by rw [List.length_take]; omega)
      have wq1 : IntKind.i64.wrap ((q : Int) + 1) = ((q + 1 : Nat) : Int) := IntWalk.i64_in _ (by unfold maxLen at hmx; omega)
      rw [← hq] at HT
      obtain ⟨b, hb⟩ : ∃ b, b = l.getD p false := ⟨_, rfl⟩
      rw [← hb] at hc HT
      rw [← hq]
      clear hq hb hmx hlt hqb
      cases b
      · go_wp2_with fail
        go_roundw
        case rel => exact ⟨p + 1, HPL.out, by go_num, by rw [HT.out]; rfl, by first | rfl | trivial⟩
        case measure => (have := HPL.out; simp [intOf]; omega)
      · go_wp2_with fail
        go_roundw
        case rel => exact ⟨p + 1, HPL.out, by go_num, by rw [HT.out]; rfl, by first | rfl | trivial⟩
        case measure => (have := HPL.out; simp [intOf]; omega)
    · obtain rfl : p = k := by have := HP.out; omega
      have HV := Lib.hid (show l.take p = l by rw [← HL.out, List.take_length])
      rw [HV.out]
      clear hlt
      go_wp2_with fail
      go_ret
      exact ⟨rfl, Below.refl _ _⟩
set_option maxRecDepth 100000 in
set_option maxHeartbeats 3200000 in
theorem rcount1_any (h : RmAt w g x F) : Calls Try.prog 71 #[.pointer (some ⟨g, 0, none⟩), .int .i64 1] w (RetB (.int .i64 (cnt x.b)) w) := by
  obtain ⟨k, A0, A1, B0, B1, c0, c1, e0, e1, h, _⟩ := h
  have d4 : w.cell? ⟨g, 5, none⟩ = some (.slice B1 k e1) := h.blk.cell 5
  obtain ⟨l, hl⟩ : ∃ l, l = x.b := ⟨_, rfl⟩
  have hr := h.b
  have hn := h.bn
  rw [← hl] at hr hn ⊢
  have H := Lib.hid hr
  have HL := Lib.hid hn
  have HC := Lib.hid (own_cap hr)
  clear h hl hr hn
  go_enter Try.func71, Try.ntmps71
  go_wp2_with fail
  go_loopw [5, 6] (fun x i wr => ∃ p : Nat, p ≤ k ∧ i = .int .i64 p ∧ x = .int .i64 (cnt (l.take p)) ∧ wr = w) (fun _ i _ => k - (intOf i).toNat)
  case atStart => exact ⟨0, Nat.zero_le _, rfl, by rfl, rfl⟩
  case round =>
    obtain ⟨p, hp, rfl, rfl, rfl⟩ := hrel
    have HP := Lib.hid hp
    clear hp
    by_cases hlt : p < k
    · have HPL := Lib.hid hlt
      obtain ⟨ad, hA, _, hc⟩ := Rd.ownN H.out p _ (bs_get (show p < l.length by rw [HL.out]; exact hlt))
      subst hA
      have HT := Lib.hid (cnt_take (show p < l.length by rw [HL.out]; exact hlt))
      have k0 : (0 : Int) ≤ (p : Int) := by omega
      have k1 : (p : Int) < (k : Int) := by omega
      have hmx := HC.out
      have wp1 : IntKind.i64.wrap ((p : Int) + 1) = ((p + 1 : Nat) : Int) := IntWalk.i64_in _ (by unfold maxLen at hmx; omega)
      obtain ⟨q, hq⟩ : ∃ q, q = cnt (l.take p) := ⟨_, rfl⟩
      have hqb : q ≤ p := by rw [hq]; exact Nat.le_trans (cnt_le _) (by rw [List.length_take]; omega)
      have wq1 : IntKind.i64.wrap ((q : Int) + 1) = ((q + 1 : Nat) : Int) := IntWalk.i64_in _ (by unfold maxLen at hmx; omega)
      rw [← hq] at HT
      obtain ⟨b, hb⟩ : ∃ b, b = l.getD p false := ⟨_, rfl⟩
      rw [← hb] at hc HT
      rw [← hq]
      clear hq hb hmx hlt hqb
      cases b
      · go_wp2_with fail
        go_roundw
        case rel => exact ⟨p + 1, HPL.out, by go_num, by rw [HT.out]; rfl, by first | rfl | trivial⟩
        case measure => (have := HPL.out; simp [intOf]; omega)
      · go_wp2_with fail
        go_roundw
        case rel => exact ⟨p + 1, HPL.out, by go_num, by rw [HT.out]; rfl, by first | rfl | trivial⟩
        case measure => (have := HPL.out; simp [intOf]; omega)
    · obtain rfl : p = k := by have := HP.out; omega
      have HV := Lib.hid (show l.take p = l by rw [← HL.out, List.take_length])
      rw [HV.out]
      clear hlt
      go_wp2_with fail
      go_ret
      exact ⟨rfl, Below.refl _ _⟩
end
end Go.Proofs.Ytdjiagcnaogebaa.Mr
/-
  The reference's mirror, written: a mark, a sector.
-/
namespace Go.Proofs.Ytdjiagcnaogebaa.Mr
open Go.RowKit Kd Mi
theorem but_cells (w : World) (g o : Nat) (vs : List Value) : But (fun q => q = g) w (w.setCells g o vs) :=
  (But.refl w).grown (grown_setCells g vs o w) (fun k h => by injection h with h; exact .inl h.symm)
/-- It returns v; the mirror is x now. -/
def RetRm (v : Value) (g : Nat) (x : Md) (F : Nat → Prop) (w : World) (e : Ending) (w' : World) : Prop := e = .returned v ∧ RmAt w' g x F ∧ But F w w'
theorem own_loc {w : World} {base n c size k : Nat} {e : TypeId} {A : Option Addr} {xs : List Value} (h : w.ownsRow base e size (.slice A n c) n xs) (hk : k < n) : ∃ q, A = some ⟨q, 0, none⟩ := by
  rcases own_addr8 h with ⟨_, h0, _⟩ | h1
  · omega
  · exact h1
section
variable {w w' : World} {g k : Nat} {x : Md} {F : Nat → Prop}
theorem RmAt.cells (h : RmAt w g x F) : ∃ n A0 A1 B0 B1 c0 c1 e0 e1, Blk w g (rmC x n A0 A1 B0 B1 c0 c1 e0 e1) 113 ∧ F g := by
  obtain ⟨n, A0, A1, B0, B1, c0, c1, e0, e1, h, h1, _⟩ := h
  exact ⟨n, A0, A1, B0, B1, c0, c1, e0, e1, h.blk, h1 g (.inl rfl)⟩
theorem RmAt.out0 (h : RmAt w g x F) : w.cell? ⟨g, 2, none⟩ = some (.bool x.o0) := by
  obtain ⟨n, A0, A1, B0, B1, c0, c1, e0, e1, h, _⟩ := h; exact h.blk.cell 2
theorem RmAt.out1 (h : RmAt w g x F) : w.cell? ⟨g, 3, none⟩ = some (.bool x.o1) := by
  obtain ⟨n, A0, A1, B0, B1, c0, c1, e0, e1, h, _⟩ := h; exact h.blk.cell 3
theorem RmAt.len (h : RmAt w g x F) : x.l0.length = x.a.length ∧ x.l1.length = x.a.length ∧ x.b.length = x.a.length ∧ x.a.length ≤ 9223372036854775807 := by
  obtain ⟨n, A0, A1, B0, B1, c0, c1, e0, e1, h, _⟩ := h
  exact ⟨by rw [h.n0, h.an], by rw [h.n1, h.an], by rw [h.bn, h.an], by rw [h.an]; exact own_max8 h.a⟩
theorem RmAt.ok (h : RmAt w g x F) : (∀ s ∈ x.l0, s.length = 128) ∧ (∀ s ∈ x.l1, s.length = 128) := by
  obtain ⟨n, A0, A1, B0, B1, c0, c1, e0, e1, h, _⟩ := h
  exact ⟨h.ok0, h.ok1⟩
theorem RmAt.mark0 (h : RmAt w g x F) (hk : k < x.a.length) : ∃ q n j, w.cell? ⟨g, 4, none⟩ = some (.slice (some ⟨q, 0, none⟩) n j) ∧ k < n ∧ n ≤ j ∧ j ≤ maxLen ∧ w.cell? ⟨q, k, none⟩ = some (.bool (x.a.getD k false)) ∧ w.frozen? ⟨q, k, none⟩ = false ∧ q ≠ g ∧ F q ∧ q < w.heap.size ∧ ∀ v, RmAt (w.setCell ⟨q, k, none⟩ (.bool v)) g (x.put 0 k v) F := by
  obtain ⟨n, A0, A1, B0, B1, c0, c1, e0, e1, h, h1, h2⟩ := h
  have hkn : k < n := by rw [← h.an]; exact hk
  obtain ⟨q, hq⟩ := own_loc h.a hkn
  subst hq
  have hcap := own_cap h.a
  obtain ⟨cs, hcur⟩ := row_type h.a q rfl
  have hlen : k < x.a.length := by rw [h.an]; exact hkn
  have hg : w.heap[g]? = some (.cells _ 113 (0, 0)) := h.blk
  have hqg : q ≠ g := fun e => by rw [e, hg] at hcur; injection hcur with hcur; injection hcur with _ hcur; exact absurd hcur (by decide)
  have hl0 : ∀ y, (Value.slice A0 n c0).ownBlock = some y → y ≠ q := fun y hy e => by
    obtain ⟨cs', hc'⟩ := row_type h.l0 y hy
    rw [e, hcur] at hc'; injection hc' with hc'; injection hc' with _ hc'; exact absurd hc' (by decide)
  have hl1 : ∀ y, (Value.slice A1 n c1).ownBlock = some y → y ≠ q := fun y hy e => by
    obtain ⟨cs', hc'⟩ := row_type h.l1 y hy
    rw [e, hcur] at hc'; injection hc' with hc'; injection hc' with _ hc'; exact absurd hc' (by decide)
  refine ⟨q, n, e0, h.blk.cell 4, hkn, hcap.1, hcap.2, ?_, Blk.free (show Blk w q cs 4 from hcur) k, hqg, h1 q (.inr (.inr (.inr (.inl rfl)))), (h.a.lt q rfl).2, fun v => ?_⟩
  · obtain ⟨ad, hA, _, hc⟩ := Rd.ownN h.a k _ (bs_get hlen)
    injection hA with hA; subst hA
    rwa [add_head] at hc
  · have hT : But (fun y => y = q) w (w.setCell ⟨q, k, none⟩ (.bool v)) := but_one _
    refine ⟨n, A0, A1, some ⟨q, 0, none⟩, B1, c0, c1, e0, e1, ⟨h.blk.but hT (fun e => hqg e.symm), Own.but h.l0 hT (fun y hy hy' => hl0 y hy hy'), Own.but h.l1 hT (fun y hy hy' => hl1 y hy hy'), ?_, Own.but h.b hT (fun y hy hy2 => h.apm y (by rw [hy2]; rfl) hy), h.n0, h.n1, ?_, h.bn, h.ok0, h.ok1, h.apl, h.apm⟩, h1, fun y hy => Nat.lt_of_lt_of_le (h2 y hy) hT.size⟩
    · show World.ownsRow _ _ _ _ _ _ (bs (x.a.set k v))
      rw [← bs_set]; exact own_cell1 h.a
    · show (x.a.set k v).length = n
      rw [List.length_set]; exact h.an
theorem RmAt.mark1 (h : RmAt w g x F) (hk : k < x.a.length) : ∃ q n j, w.cell? ⟨g, 5, none⟩ = some (.slice (some ⟨q, 0, none⟩) n j) ∧ k < n ∧ n ≤ j ∧ j ≤ maxLen ∧ w.cell? ⟨q, k, none⟩ = some (.bool (x.b.getD k false)) ∧ w.frozen? ⟨q, k, none⟩ = false ∧ q ≠ g ∧ F q ∧ q < w.heap.size ∧ ∀ v, RmAt (w.setCell ⟨q, k, none⟩ (.bool v)) g (x.put 1 k v) F := by
  obtain ⟨n, A0, A1, B0, B1, c0, c1, e0, e1, h, h1, h2⟩ := h
  have hkn : k < n := by rw [← h.an]; exact hk
  obtain ⟨q, hq⟩ := own_loc h.b hkn
  subst hq
  have hcap := own_cap h.b
  obtain ⟨cs, hcur⟩ := row_type h.b q rfl
  have hlen : k < x.b.length := by rw [h.bn]; exact hkn
  have hg : w.heap[g]? = some (.cells _ 113 (0, 0)) := h.blk
  have hqg : q ≠ g := fun e => by rw [e, hg] at hcur; injection hcur with hcur; injection hcur with _ hcur; exact absurd hcur (by decide)
  have hl0 : ∀ y, (Value.slice A0 n c0).ownBlock = some y → y ≠ q := fun y hy e => by
    obtain ⟨cs', hc'⟩ := row_type h.l0 y hy
    rw [e, hcur] at hc'; injection hc' with hc'; injection hc' with _ hc'; exact absurd hc' (by decide)
  have hl1 : ∀ y, (Value.slice A1 n c1).ownBlock = some y → y ≠ q := fun y hy e => by
    obtain ⟨cs', hc'⟩ := row_type h.l1 y hy
    rw [e, hcur] at hc'; injection hc' with hc'; injection hc' with _ hc'; exact absurd hc' (by decide)
  refine ⟨q, n, e1, h.blk.cell 5, hkn, hcap.1, hcap.2, ?_, Blk.free (show Blk w q cs 4 from hcur) k, hqg, h1 q (.inr (.inr (.inr (.inr rfl)))), (h.b.lt q rfl).2, fun v => ?_⟩
  · obtain ⟨ad, hA, _, hc⟩ := Rd.ownN h.b k _ (bs_get hlen)
    injection hA with hA; subst hA
    rwa [add_head] at hc
  · have hT : But (fun y => y = q) w (w.setCell ⟨q, k, none⟩ (.bool v)) := but_one _
    refine ⟨n, A0, A1, B0, some ⟨q, 0, none⟩, c0, c1, e0, e1, ⟨h.blk.but hT (fun e => hqg e.symm), Own.but h.l0 hT (fun y hy hy' => hl0 y hy hy'), Own.but h.l1 hT (fun y hy hy' => hl1 y hy hy'), Own.but h.a hT (fun y hy hy2 => h.apm y hy (by rw [hy2]; rfl)), ?_, h.n0, h.n1, h.an, ?_, h.ok0, h.ok1, h.apl, h.apm⟩, h1, fun y hy => Nat.lt_of_lt_of_le (h2 y hy) hT.size⟩
    · show World.ownsRow _ _ _ _ _ _ (bs (x.b.set k v))
      rw [← bs_set]; exact own_cell1 h.b
    · show (x.b.set k v).length = n
      rw [List.length_set]; exact h.bn
theorem RmAt.sect0 (h : RmAt w g x F) (hk : k < x.a.length) : ∃ q n j, w.cell? ⟨g, 0, none⟩ = some (.slice (some ⟨q, 0, none⟩) n j) ∧ k < n ∧ n ≤ j ∧ j ≤ maxLen ∧ Rd w.heap.size w (some ⟨q, 0, none⟩) (svs x.l0) ∧ x.l0.length = n ∧ w.there q (k * 128) 128 ∧ q ≠ g ∧ F q ∧ q < w.heap.size ∧ (∀ y, (∃ n j, w.cell? ⟨g, 1, none⟩ = some (.slice (some ⟨y, 0, none⟩) n j)) → y ≠ q) ∧ ∀ s : List UInt8, s.length = 128 → RmAt (w.setCells q (k * 128) (bv s)) g (x.setL 0 k s) F := by
  obtain ⟨n, A0, A1, B0, B1, c0, c1, e0, e1, h, h1, h2⟩ := h
  have hkn : k < n := by rw [← h.an]; exact hk
  obtain ⟨q, hq⟩ := own_loc h.l0 hkn
  subst hq
  have hcap := own_cap h.l0
  obtain ⟨cs, hcur⟩ := row_type h.l0 q rfl
  have hlen : k < x.l0.length := by rw [h.n0]; exact hkn
  have hg : w.heap[g]? = some (.cells _ 113 (0, 0)) := h.blk
  have hqg : q ≠ g := fun e => by rw [e, hg] at hcur; injection hcur with hcur; injection hcur with _ hcur; exact absurd hcur (by decide)
  have ha : ∀ y, (Value.slice B0 n e0).ownBlock = some y → y ≠ q := fun y hy e => by
    obtain ⟨cs', hc'⟩ := row_type h.a y hy
    rw [e, hcur] at hc'; injection hc' with hc'; injection hc' with _ hc'; exact absurd hc' (by decide)
  have hb : ∀ y, (Value.slice B1 n e1).ownBlock = some y → y ≠ q := fun y hy e => by
    obtain ⟨cs', hc'⟩ := row_type h.b y hy
    rw [e, hcur] at hc'; injection hc' with hc'; injection hc' with _ hc'; exact absurd hc' (by decide)
  refine ⟨q, n, c0, h.blk.cell 0, hkn, hcap.1, hcap.2, (Rd.ownN h.l0), h.n0, ?_, hqg, h1 q (.inr (.inl rfl)), (h.l0.lt q rfl).2, ?_, fun s hs => ?_⟩
  · have h3 := (own_setMid (o := k * 128) (vs := bv zeroS) h.l0 (by rw [bv_length, zeroS_length]; omega)).2
    rwa [bv_length, zeroS_length] at h3
  · rintro y ⟨n', j', hy⟩ e
    have hc : w.cell? ⟨g, 1, none⟩ = some (.slice A1 n c1) := h.blk.cell 1
    rw [hc] at hy
    injection hy with hy; injection hy with hy _ _
    exact h.apl q rfl (by rw [hy, e]; rfl)
  · have hT := but_cells w q (k * 128) (bv s)
    refine ⟨n, some ⟨q, 0, none⟩, A1, B0, B1, c0, c1, e0, e1, ⟨h.blk.but hT (fun e => hqg e.symm), ?_, Own.but h.l1 hT (fun y hy hy2 => h.apl y (by rw [hy2]; rfl) hy), Own.but h.a hT (fun y hy hy' => ha y hy hy'), Own.but h.b hT (fun y hy hy' => hb y hy hy'), ?_, h.n1, h.an, h.bn, ?_, h.ok1, h.apl, h.apm⟩, h1, fun y hy => Nat.lt_of_lt_of_le (h2 y hy) hT.size⟩
    · show World.ownsRow _ _ _ _ _ _ (svs (x.l0.set k s))
      rw [svs_splice h.ok0 hs hlen]
      exact (own_setMid (o := k * 128) (vs := bv s) h.l0 (by rw [bv_length, hs]; omega)).1
    · show (x.l0.set k s).length = n
      rw [List.length_set]; exact h.n0
    · intro y hy
      rcases List.mem_or_eq_of_mem_set hy with hy | rfl
      · exact h.ok0 y hy
      · exact hs
theorem RmAt.sect1 (h : RmAt w g x F) (hk : k < x.a.length) : ∃ q n j, w.cell? ⟨g, 1, none⟩ = some (.slice (some ⟨q, 0, none⟩) n j) ∧ k < n ∧ n ≤ j ∧ j ≤ maxLen ∧ Rd w.heap.size w (some ⟨q, 0, none⟩) (svs x.l1) ∧ x.l1.length = n ∧ w.there q (k * 128) 128 ∧ q ≠ g ∧ F q ∧ q < w.heap.size ∧ (∀ y, (∃ n j, w.cell? ⟨g, 0, none⟩ = some (.slice (some ⟨y, 0, none⟩) n j)) → y ≠ q) ∧ ∀ s : List UInt8, s.length = 128 → RmAt (w.setCells q (k * 128) (bv s)) g (x.setL 1 k s) F := by
  obtain ⟨n, A0, A1, B0, B1, c0, c1, e0, e1, h, h1, h2⟩ := h
  have hkn : k < n := by rw [← h.an]; exact hk
  obtain ⟨q, hq⟩ := own_loc h.l1 hkn
  subst hq
  have hcap := own_cap h.l1
  obtain ⟨cs, hcur⟩ := row_type h.l1 q rfl
  have hlen : k < x.l1.length := by rw [h.n1]; exact hkn
  have hg : w.heap[g]? = some (.cells _ 113 (0, 0)) := h.blk
  have hqg : q ≠ g := fun e => by rw [e, hg] at hcur; injection hcur with hcur; injection hcur with _ hcur; exact absurd hcur (by decide)
  have ha : ∀ y, (Value.slice B0 n e0).ownBlock = some y → y ≠ q := fun y hy e => by
    obtain ⟨cs', hc'⟩ := row_type h.a y hy
    rw [e, hcur] at hc'; injection hc' with hc'; injection hc' with _ hc'; exact absurd hc' (by decide)
  have hb : ∀ y, (Value.slice B1 n e1).ownBlock = some y → y ≠ q := fun y hy e => by
    obtain ⟨cs', hc'⟩ := row_type h.b y hy
    rw [e, hcur] at hc'; injection hc' with hc'; injection hc' with _ hc'; exact absurd hc' (by decide)
  refine ⟨q, n, c1, h.blk.cell 1, hkn, hcap.1, hcap.2, (Rd.ownN h.l1), h.n1, ?_, hqg, h1 q (.inr (.inr (.inl rfl))), (h.l1.lt q rfl).2, ?_, fun s hs => ?_⟩
  · have h3 := (own_setMid (o := k * 128) (vs := bv zeroS) h.l1 (by rw [bv_length, zeroS_length]; omega)).2
    rwa [bv_length, zeroS_length] at h3
  · rintro y ⟨n', j', hy⟩ e
    have hc : w.cell? ⟨g, 0, none⟩ = some (.slice A0 n c0) := h.blk.cell 0
    rw [hc] at hy
    injection hy with hy; injection hy with hy _ _
    exact h.apl q (by rw [hy, e]; rfl) rfl
  · have hT := but_cells w q (k * 128) (bv s)
    refine ⟨n, A0, some ⟨q, 0, none⟩, B0, B1, c0, c1, e0, e1, ⟨h.blk.but hT (fun e => hqg e.symm), Own.but h.l0 hT (fun y hy hy2 => h.apl y hy (by rw [hy2]; rfl)), ?_, Own.but h.a hT (fun y hy hy' => ha y hy hy'), Own.but h.b hT (fun y hy hy' => hb y hy hy'), h.n0, ?_, h.an, h.bn, h.ok0, ?_, h.apl, h.apm⟩, h1, fun y hy => Nat.lt_of_lt_of_le (h2 y hy) hT.size⟩
    · show World.ownsRow _ _ _ _ _ _ (svs (x.l1.set k s))
      rw [svs_splice h.ok1 hs hlen]
      exact (own_setMid (o := k * 128) (vs := bv s) h.l1 (by rw [bv_length, hs]; omega)).1
    · show (x.l1.set k s).length = n
      rw [List.length_set]; exact h.n1
    · intro y hy
      rcases List.mem_or_eq_of_mem_set hy with hy | rfl
      · exact h.ok1 y hy
      · exact hs
end
end Go.Proofs.Ytdjiagcnaogebaa.Mr
/-
  Write of the reference's mirror.
-/
namespace Go.Proofs.Ytdjiagcnaogebaa.Mr
open Go.RowKit Kd Mi
attribute [local go_sem ↓] Go.wp_at_zero Go.wp_at_succ
/-- What it makes of a mirror, step by step. -/
def wr1 (x : Md) (k : Nat) (y : List UInt8) : Md := (x.put 0 k x.o0).wd 0 k y
def wr2 (x : Md) (k : Nat) (y : List UInt8) : Md := ((wr1 x k y).put 1 k x.o1).wd 1 k y
theorem wr_eq (x : Md) (k : Nat) (y : List UInt8) : wr2 x k y = (((x.wd 0 k y).wd 1 k y).put 0 k x.o0).put 1 k x.o1 := by
  obtain ⟨l0, l1, o0, o1, a, b⟩ := x
  cases o0 <;> cases o1 <;> rfl
theorem wr1_o (x : Md) (k : Nat) (y : List UInt8) : (wr1 x k y).o0 = x.o0 ∧ (wr1 x k y).o1 = x.o1 ∧ (wr1 x k y).a.length = x.a.length := by
  obtain ⟨l0, l1, o0, o1, a, b⟩ := x
  cases o0 <;> exact ⟨rfl, rfl, by show (a.set k _).length = _; rw [List.length_set]⟩
theorem cell_other {w : World} {g q o k : Nat} {v u : Value} (h : w.cell? ⟨g, o, none⟩ = some v) (hg : g ≠ q) : (w.setCell ⟨q, k, none⟩ u).cell? ⟨g, o, none⟩ = some v := by
  rw [World.cell?_setCell_far _ _ _ _ (fun e => hg e.symm)]; exact h
theorem cells_other {w : World} {g q o k : Nat} {v : Value} {us : List Value} (h : w.cell? ⟨g, o, none⟩ = some v) (hg : g ≠ q) : (w.setCells q k us).cell? ⟨g, o, none⟩ = some v := by
  exact (grown_setCells q us k w).cell h (by intro e; injection e with e; exact hg e)
theorem rm_drew {w : World} {g q k : Nat} {x : Md} {F : Nat → Prop} {v : Value} (h : RmAt (w.setCell ⟨q, k, none⟩ v) g x F) : RmAt (w.drew.setCell ⟨q, k, none⟩ v) g x F := RmAt.below h (Below.refl _ (w.setCell ⟨q, k, none⟩ v)).drew
theorem cells_drew (w : World) (q : Nat) : ∀ (vs : List Value) (o : Nat), w.drew.setCells q o vs = (w.setCells q o vs).drew
  | [], _ => rfl
  | v :: vs, o => cells_drew (w.setCell ⟨q, o, none⟩ v) q vs (o + 1)
theorem rm_drewL {w : World} {g q k : Nat} {x : Md} {F : Nat → Prop} {l : List UInt8} (h : RmAt (w.setCells q k (bv l)) g x F) : RmAt (w.drew.setCells q k (bva l).toList) g x F := by
  have e : w.drew.setCells q k (bva l).toList = (w.setCells q k (bv l)).drew := by
    rw [show (bva l).toList = bv l from rfl]; exact cells_drew w q _ k
  rw [e]; exact RmAt.below h (Below.refl _ _).drew
section
variable {w : World} {g : Nat} {x : Md} {F : Nat → Prop}
set_option maxRecDepth 100000 in
set_option maxHeartbeats 12800000 in
theorem rwrite_any (h : RmAt w g x F) (n : Int) (y : List UInt8) (hy : y.length = 128) :
    Calls Try.prog 62 #[.pointer (some ⟨g, 0, none⟩), .int .i64 n, .agg (bva y)] w (RetRm (.int .i64 (x.write n y).1) g (x.write n y).2 F w) := by
  obtain ⟨w0, hw0⟩ : ∃ w0, w0 = w.alloc (.cells (bva y) 38) := ⟨_, rfl⟩
  obtain ⟨b, hb⟩ : ∃ b, b = w.heap.size := ⟨_, rfl⟩
  have HX := Lib.hid (show Blk w0 b (bva y) 38 from by rw [hw0, hb]; exact heap_alloc_new _ _)
  have hbl : Below w.heap.size w w0 := by rw [hw0]; exact (Below.refl _ _).alloc (Nat.le_refl _) _
  have H := Lib.hid (h.below hbl)
  have HBT := Lib.hid (show But F w w0 from but_below hbl)
  have HNF := Lib.hid (show ¬ F b from fun hf => by obtain ⟨_, _, _, _, _, _, _, _, _, _, _, h2⟩ := h; have := h2 b hf; omega)
  have HY3 := Lib.hid hy
  have HIY : Hid ((Try.prog.info? 38).map (·.size) = some (bva y).size) := by rw [bva_size, hy]; exact info_sec
  obtain ⟨RV, hRV⟩ : ∃ RV, RV = (x.write n y).1 := ⟨_, rfl⟩
  obtain ⟨RX, hRX⟩ : ∃ RX, RX = (x.write n y).2 := ⟨_, rfl⟩
  have hlen := h.len
  rw [← hRV, ← hRX]
  rw [Md.write] at hRV hRX
  cases hhas : x.has n with
  | false =>
    rw [hhas, if_neg (by simp)] at hRV hRX
    rw [hRV, hRX]
    clear hRV hRX
    have hc := rthere_any H.out n
    rw [hhas] at hc
    have HC := Lib.hid hc
    clear h hbl hc hhas hlen hy
    go_enter Try.func62, Try.ntmps62
    go_wp2_with fail
    rw [← hw0, ← hb]
    refine HC.out.mono ?_
    rintro e w1 ⟨rfl, bw⟩
    go_wp2_with fail
    go_ret
    exact ⟨rfl, H.out.below bw, HBT.out.trans (but_below bw)⟩
  | true =>
    obtain ⟨k, rfl, hk⟩ := has_place hhas
    rw [hhas, if_pos rfl] at hRV hRX
    have hc := rthere_any H.out (k : Int)
    rw [hhas] at hc
    have HC := Lib.hid hc
    have HK := Lib.hid hk
    have HL := Lib.hid hlen
    by_cases hoo : (x.o0 && x.o1) = true
    · rw [if_pos hoo] at hRV hRX
      rw [hRV, hRX]
      clear hRV hRX
      obtain ⟨h0, h1⟩ := (Bool.and_eq_true _ _).mp hoo
      have HO := Lib.hid (show x.o0 = true ∧ x.o1 = true from ⟨h0, h1⟩)
      clear h hbl hc hhas hlen hy hoo h0 h1 hk
      go_enter Try.func62, Try.ntmps62
      go_wp2_with fail
      rw [← hw0, ← hb]
      refine HC.out.mono ?_
      rintro e w1 ⟨rfl, bw⟩
      have H1 := Lib.hid (H.out.below bw)
      have c0 : w1.cell? ⟨g, 2, none⟩ = some (.bool true) := by rw [← HO.out.1]; exact H1.out.out0
      have c1 : w1.cell? ⟨g, 3, none⟩ = some (.bool true) := by rw [← HO.out.2]; exact H1.out.out1
      go_wp2_with fail
      go_ret
      exact ⟨rfl, H1.out, HBT.out.trans (but_below bw)⟩
    · rw [if_neg hoo] at hRV hRX
      rw [Int.toNat_natCast, ← wr_eq] at hRX
      rw [hRV]
      clear hRV
      have HRX := Lib.hid hRX
      have HOO := Lib.hid hoo
      obtain ⟨o0, ho0⟩ : ∃ o, o = x.o0 := ⟨_, rfl⟩
      obtain ⟨o1, ho1⟩ : ∃ o, o = x.o1 := ⟨_, rfl⟩
      have O0 := Lib.hid ho0
      have O1 := Lib.hid ho1
      have kk0 : (0 : Int) ≤ (k : Int) := by omega
      clear h hbl hc hhas hlen hy hk hRX ho0 ho1
      go_enter Try.func62, Try.ntmps62
      go_wp2_with fail
      rw [← hw0, ← hb]
      refine HC.out.mono ?_
      rintro e w1 ⟨rfl, bw⟩
      have H1 := Lib.hid (H.out.below bw)
      have X1 := Lib.hid (HX.out.below bw)
      have HB1 := Lib.hid (HBT.out.trans (but_below bw))
      clear bw HBT HX H hw0 hb
      have c0 : w1.cell? ⟨g, 2, none⟩ = some (.bool o0) := by rw [O0.out]; exact H1.out.out0
      have c1 : w1.cell? ⟨g, 3, none⟩ = some (.bool o1) := by rw [O1.out]; exact H1.out.out1
      have hoo : ¬ (o0 && o1) = true := by rw [O0.out, O1.out]; exact HOO.out
      clear HOO
      cases o0
      · cases o1
        · go_wp2_with fail
          go_loopw [7] (fun i wr => ∃ (j : Nat) (x' : Md), i = .int .i64 j ∧ RmAt wr g x' F ∧ But F w wr ∧ Blk wr b (bva y) 38 ∧ ((j = 0 ∧ x' = x) ∨ (j = 1 ∧ x' = wr1 x k y) ∨ (j = 2 ∧ x' = wr2 x k y))) (fun i _ => 2 - (intOf i).toNat)
          case atStart => exact ⟨0, x, rfl, H1.out, HB1.out, X1.out, .inl ⟨rfl, rfl⟩⟩
          case round =>
            clear H1 X1 HB1
            obtain ⟨j, x', rfl, hm, hbt, hx, hj⟩ := hrel
            have M := Lib.hid hm
            have BT := Lib.hid hbt
            have X := Lib.hid hx
            clear hm hbt hx
            rcases hj with ⟨rfl, hs⟩ | ⟨rfl, hs⟩ | ⟨rfl, hs⟩
            · have M0 := Lib.hid (show RmAt wr g x F from by rw [← hs]; exact M.out)
              clear M hs
              have M := Lib.hid M0.out
              clear M0
              have hxa : k < x.a.length := by exact HK.out
              obtain ⟨q, n', j', hc4, hkn, hnj, hjm, hcq, hfq, hqg, hFq, hql, hset⟩ := M.out.mark0 hxa
              have HC4 := Lib.hid hc4
              have HC2 := Lib.hid (show wr.cell? ⟨g, 2, none⟩ = some (.bool false) from by
                have h := M.out.out0
                rw [show x.o0 = false by rw [← O0.out]] at h
                exact h)
              have HSET := Lib.hid (hset false)
              have HQG := Lib.hid hqg
              have HFQ := Lib.hid hFq
              have HQL := Lib.hid hql
              have kn1 : (k : Int) < (n' : Int) := by omega
              have D0 : wr.drew.cell? ⟨q, k, none⟩ = some (.bool (x.a.getD k false)) := hcq
              have D1 : wr.drew.frozen? ⟨q, k, none⟩ = false := hfq
              obtain ⟨bq, hbq⟩ : ∃ bq, bq = x.a.getD k false := ⟨_, rfl⟩
              rw [← hbq] at D0
              clear hc4 hkn hcq hfq hqg hFq hql hset hbq hxa hjm
              go_upto_region 8 with fail
              refine wp_region_held_drew (S := fun w' => w'.cell? ⟨g, 4, none⟩ = some (.slice (some ⟨q, 0, none⟩) n' j') ∧ w'.cell? ⟨g, 2, none⟩ = some (.bool false)) (by kernel_rfl) ⟨HC4.out, HC2.out⟩ (fun hh => ?_)
              have HH := Lib.hid hh
              clear hh
              refine wpAnyH_take (i := 0) (v := ?vW0ff0) rfl (by kernel_rfl) (by kernel_rfl) (by kernel_rfl) (fun _ _ _ h => h) (Or.inl ⟨by rfl, fun w' _ => ?yW0ff0⟩) HH.out ?_
              case yW0ff0 => (go_simp; try with_reducible rfl)
              refine wpAnyH_take (i := 1) (v := ?vW0ff1) rfl (by kernel_rfl) (by kernel_rfl) (by kernel_rfl) (fun _ _ _ h => h) (Or.inl ⟨by rfl, fun w' _ => ?yW0ff1⟩) HH.out ?_
              case yW0ff1 => (go_simp; try with_reducible rfl)
              try simp only [List.getElem_toArray, List.getElem_cons_succ, List.getElem_cons_zero, Act.put, List.setIfInBounds_toArray, List.set_cons_zero, List.set_cons_succ]
              refine wpAnyH_take (i := 2) (v := ?vW0ff2) rfl (by kernel_rfl) (by kernel_rfl) (by kernel_rfl) (fun _ _ _ h => h) (Or.inl ⟨by rfl, fun w' _ => ?yW0ff2⟩) HH.out ?_
              case yW0ff2 => (go_simp; try with_reducible rfl)
              refine wpAnyH_take (i := 3) (v := ?vW0ff3) rfl (by kernel_rfl) (by kernel_rfl) (by kernel_rfl) (fun _ _ _ h => h) (Or.inl ⟨by rfl, fun w' _ => ?yW0ff3⟩) HH.out ?_
              case yW0ff3 => (go_simp; try with_reducible rfl)
              refine wpAnyH_take (i := 4) (v := ?vW0ff4) rfl (by kernel_rfl) (by kernel_rfl) (by kernel_rfl) (fun _ _ _ h => h) (Or.inl ⟨by rfl, fun w' _ => ?yW0ff4⟩) HH.out ?_
              case yW0ff4 => (go_simp; try with_reducible rfl)
              try simp only [List.getElem_toArray, List.getElem_cons_succ, List.getElem_cons_zero, Act.put, List.setIfInBounds_toArray, List.set_cons_zero, List.set_cons_succ]
              try simp only [List.getElem_toArray, List.getElem_cons_succ, List.getElem_cons_zero, Act.put, List.setIfInBounds_toArray, List.set_cons_zero, List.set_cons_succ]
              refine wpAnyH_take (i := 5) (v := .slice (some ⟨q, 0, none⟩) n' j') rfl (by kernel_rfl) (by kernel_rfl) (by kernel_rfl) (fun _ _ _ h => h) (Or.inl ⟨by rfl, fun w' hw' => ?yW0ff5⟩) HH.out ?_
              case yW0ff5 => (have hc := hw'.1; go_simp; try with_reducible rfl)
              refine wpAnyH_take (i := 6) (v := ?vW0ff6) rfl (by kernel_rfl) (by kernel_rfl) (by kernel_rfl) (fun _ _ _ h => h) (Or.inl ⟨by rfl, fun w' _ => ?yW0ff6⟩) HH.out ?_
              case yW0ff6 => (go_simp; try with_reducible rfl)
              refine wpAnyH_take (i := 7) (v := ?vW0ff7) rfl (by kernel_rfl) (by kernel_rfl) (by kernel_rfl) (fun _ _ _ h => h) (Or.inl ⟨by rfl, fun w' _ => ?yW0ff7⟩) HH.out ?_
              case yW0ff7 => (go_simp; try with_reducible rfl)
              try simp only [List.getElem_toArray, List.getElem_cons_succ, List.getElem_cons_zero, Act.put, List.setIfInBounds_toArray, List.set_cons_zero, List.set_cons_succ]
              refine wpAnyH_take (i := 8) (v := ?vW0ff8) rfl (by kernel_rfl) (by kernel_rfl) (by kernel_rfl) (fun _ _ _ h => h) (Or.inl ⟨by rfl, fun w' _ => ?yW0ff8⟩) HH.out ?_
              case yW0ff8 => (go_simp; try with_reducible rfl)
              refine wpAnyH_take (i := 9) (v := ?vW0ff9) rfl (by kernel_rfl) (by kernel_rfl) (by kernel_rfl) (fun _ _ _ h => h) (Or.inl ⟨by rfl, fun w' _ => ?yW0ff9⟩) HH.out ?_
              case yW0ff9 => (go_simp; try with_reducible rfl)
              refine wpAnyH_take (i := 10) (v := ?vW0ff10) rfl (by kernel_rfl) (by kernel_rfl) (by kernel_rfl) (fun _ _ _ h => h) (Or.inl ⟨by rfl, fun w' _ => ?yW0ff10⟩) HH.out ?_
              case yW0ff10 => (go_simp; try with_reducible rfl)
              try simp only [List.getElem_toArray, List.getElem_cons_succ, List.getElem_cons_zero, Act.put, List.setIfInBounds_toArray, List.set_cons_zero, List.set_cons_succ]
              refine wpAnyH_take (i := 11) (v := ?vW0ff11) rfl (by kernel_rfl) (by kernel_rfl) (by kernel_rfl) (fun _ _ _ h => h) (Or.inl ⟨by rfl, fun w' _ => ?yW0ff11⟩) HH.out ?_
              case yW0ff11 => (go_simp; try with_reducible rfl)
              try simp only [List.getElem_toArray, List.getElem_cons_succ, List.getElem_cons_zero, Act.put, List.setIfInBounds_toArray, List.set_cons_zero, List.set_cons_succ]
              refine wpAnyH_take (i := 12) (v := .bool false) rfl (by kernel_rfl) (by kernel_rfl) (by kernel_rfl) (fun _ _ _ h => h) (Or.inl ⟨by rfl, fun w' hw' => ?yW0ff12⟩) HH.out ?_
              case yW0ff12 => (have hc := hw'.2; go_simp; try with_reducible rfl)
              refine wpAnyH_take (i := 13) (v := ?vW0ff13) rfl (by kernel_rfl) (by kernel_rfl) (by kernel_rfl) (fun _ _ _ h => h) (Or.inl ⟨by rfl, fun w' _ => ?yW0ff13⟩) HH.out ?_
              case yW0ff13 => (go_simp; try with_reducible rfl)
              try simp only [List.getElem_toArray, List.getElem_cons_succ, List.getElem_cons_zero, Act.put, List.setIfInBounds_toArray, List.set_cons_zero, List.set_cons_succ]
              try simp only [List.getElem_toArray, List.getElem_cons_succ, List.getElem_cons_zero, Act.put, List.setIfInBounds_toArray, List.set_cons_zero, List.set_cons_succ]
              refine wpAnyH_ready (rs := [14]) (by kernel_rfl) (by simp) (AllReadyH.cons rfl (fun K hK => ?_) AllReadyH.nil)
              go_simp
              refine hK.out _ _ ⟨?kp0, ?kp1⟩ (fun hh => ?_)
              case kp0 => exact (cell_other (show wr.drew.cell? ⟨g, 4, none⟩ = _ from HC4.out) (fun e => HQG.out e.symm))
              case kp1 => exact (cell_other (show wr.drew.cell? ⟨g, 2, none⟩ = _ from HC2.out) (fun e => HQG.out e.symm))
              clear hh hK K HH
              try simp only [List.getElem_toArray, List.getElem_cons_succ, List.getElem_cons_zero, Act.put, List.setIfInBounds_toArray, List.set_cons_zero, List.set_cons_succ]
              refine wpAnyH_done (by kernel_rfl) ?_ _
              obtain ⟨wa, hwa⟩ : ∃ wa, wa = World.drew (World.setCell wr ⟨q, k, none⟩ (.bool false)) := ⟨_, rfl⟩
              rw [← hwa]
              have HBA := Lib.hid (show But (fun y => y = q) wr wa from by rw [hwa]; exact (show But (fun y => y = q) wr (wr.setCell ⟨q, k, none⟩ (.bool false)) from but_one _).drew)
              have HMA := Lib.hid (show RmAt wa g (x.put 0 k false) F from by rw [hwa]; exact HSET.out.below (Below.refl _ _).drew)
              have HXA := Lib.hid (X.out.but HBA.out (fun e => HNF.out (by rw [e]; exact HFQ.out)))
              have HTA := Lib.hid (BT.out.trans (HBA.out.mono (fun y hy => by rw [hy]; exact HFQ.out)))
              have c2 : wa.cell? ⟨g, 2, none⟩ = some (.bool false) := by rw [hwa]; exact cell_other (w := wr) HC2.out (fun e => HQG.out e.symm)
              clear hwa HBA HSET D0 D1 X M BT HC4 HC2
              have hxb : k < (x.put 0 k false).a.length := by show k < (x.a.set k false).length; rw [List.length_set]; exact HK.out
              obtain ⟨u, n2, j2, hc0, hkn2, hnj2, hjm2, _, _, hth, hug, hFu, hul, _, hset2⟩ := HMA.out.sect0 hxb
              have HC0 := Lib.hid hc0
              have HTH := Lib.hid (show wa.drew.there u (k * 128) 128 from hth)
              have HSET2 := Lib.hid (hset2 y HY3.out)
              have HUG := Lib.hid hug
              have HFU := Lib.hid hFu
              have kn2 : (k : Int) < (n2 : Int) := by omega
              clear hc0 hkn2 hth hug hFu hul hset2 hxb hjm2
              go_upto_region 10 with fail
              refine wp_region_held_drew (S := fun w' => w'.cell? ⟨g, 0, none⟩ = some (.slice (some ⟨u, 0, none⟩) n2 j2) ∧ Blk w' b (bva y) 38) (by kernel_rfl) ⟨HC0.out, (show Blk _ _ _ _ from HXA.out)⟩ (fun hh => ?_)
              have HH := Lib.hid hh
              clear hh
              refine wpAnyH_take (i := 0) (v := ?vW0ffs0) rfl (by kernel_rfl) (by kernel_rfl) (by kernel_rfl) (fun _ _ _ h => h) (Or.inl ⟨by rfl, fun w' _ => ?yW0ffs0⟩) HH.out ?_
              case yW0ffs0 => (go_simp; try with_reducible rfl)
              refine wpAnyH_take (i := 1) (v := ?vW0ffs1) rfl (by kernel_rfl) (by kernel_rfl) (by kernel_rfl) (fun _ _ _ h => h) (Or.inl ⟨by rfl, fun w' _ => ?yW0ffs1⟩) HH.out ?_
              case yW0ffs1 => (go_simp; try with_reducible rfl)
              try simp only [List.getElem_toArray, List.getElem_cons_succ, List.getElem_cons_zero, Act.put, List.setIfInBounds_toArray, List.set_cons_zero, List.set_cons_succ]
              refine wpAnyH_take (i := 2) (v := ?vW0ffs2) rfl (by kernel_rfl) (by kernel_rfl) (by kernel_rfl) (fun _ _ _ h => h) (Or.inl ⟨by rfl, fun w' _ => ?yW0ffs2⟩) HH.out ?_
              case yW0ffs2 => (go_simp; try with_reducible rfl)
              refine wpAnyH_take (i := 3) (v := ?vW0ffs3) rfl (by kernel_rfl) (by kernel_rfl) (by kernel_rfl) (fun _ _ _ h => h) (Or.inl ⟨by rfl, fun w' _ => ?yW0ffs3⟩) HH.out ?_
              case yW0ffs3 => (go_simp; try with_reducible rfl)
              refine wpAnyH_take (i := 4) (v := ?vW0ffs4) rfl (by kernel_rfl) (by kernel_rfl) (by kernel_rfl) (fun _ _ _ h => h) (Or.inl ⟨by rfl, fun w' _ => ?yW0ffs4⟩) HH.out ?_
              case yW0ffs4 => (go_simp; try with_reducible rfl)
              try simp only [List.getElem_toArray, List.getElem_cons_succ, List.getElem_cons_zero, Act.put, List.setIfInBounds_toArray, List.set_cons_zero, List.set_cons_succ]
              try simp only [List.getElem_toArray, List.getElem_cons_succ, List.getElem_cons_zero, Act.put, List.setIfInBounds_toArray, List.set_cons_zero, List.set_cons_succ]
              refine wpAnyH_take (i := 5) (v := .slice (some ⟨u, 0, none⟩) n2 j2) rfl (by kernel_rfl) (by kernel_rfl) (by kernel_rfl) (fun _ _ _ h => h) (Or.inl ⟨by rfl, fun w' hw' => ?yW0ffs5⟩) HH.out ?_
              case yW0ffs5 => (have hc := hw'.1; go_simp; try with_reducible rfl)
              refine wpAnyH_take (i := 6) (v := ?vW0ffs6) rfl (by kernel_rfl) (by kernel_rfl) (by kernel_rfl) (fun _ _ _ h => h) (Or.inl ⟨by rfl, fun w' _ => ?yW0ffs6⟩) HH.out ?_
              case yW0ffs6 => (go_simp; try with_reducible rfl)
              try simp only [List.getElem_toArray, List.getElem_cons_succ, List.getElem_cons_zero, Act.put, List.setIfInBounds_toArray, List.set_cons_zero, List.set_cons_succ]
              refine wpAnyH_take (i := 7) (v := .agg (bva y)) rfl (by kernel_rfl) (by kernel_rfl) (by kernel_rfl) (fun _ _ _ h => h) (Or.inl ⟨by rfl, fun w' hw' => ?yW0ffs7⟩) HH.out ?_
              case yW0ffs7 => exact exec_load 38 (.tmp 5) rfl rfl hw'.2 Try.underlying38 rfl HIY.out
              try simp only [List.getElem_toArray, List.getElem_cons_succ, List.getElem_cons_zero, Act.put, List.setIfInBounds_toArray, List.set_cons_zero, List.set_cons_succ]
              refine wpAnyH_take (i := 8) (v := ?vW0ffs8) rfl (by kernel_rfl) (by kernel_rfl) (by kernel_rfl) (fun _ _ _ h => h) (Or.inl ⟨by rfl, fun w' _ => ?yW0ffs8⟩) HH.out ?_
              case yW0ffs8 => (go_simp; try with_reducible rfl)
              try simp only [List.getElem_toArray, List.getElem_cons_succ, List.getElem_cons_zero, Act.put, List.setIfInBounds_toArray, List.set_cons_zero, List.set_cons_succ]
              refine wpAnyH_ready (rs := [9]) (by kernel_rfl) (by simp) (AllReadyH.cons rfl (fun K hK => ?_) AllReadyH.nil)
              rw [if_pos (by rfl)]
              refine wp_store_mid 38 (.tmp 57) (.tmp 56) rfl u (k * 128) (bva y) rfl rfl (by rw [bva_size, HY3.out]; exact HTH.out) HIY.out (bva_one _) ?_
              refine hK.out _ _ ⟨?kq0, ?kq1⟩ (fun hh => ?_)
              case kq0 => exact cells_other (show wa.drew.cell? ⟨g, 0, none⟩ = _ from HC0.out) (fun e => HUG.out e.symm)
              case kq1 => exact Blk.but (show Blk wa.drew b (bva y) 38 from HXA.out) (but_cells _ _ _ _) (fun e => HNF.out (by rw [show b = u from e]; exact HFU.out))
              clear hh hK K HH
              try simp only [List.getElem_toArray, List.getElem_cons_succ, List.getElem_cons_zero, Act.put]
              refine wpAnyH_done (by kernel_rfl) ?_ _
              obtain ⟨wb, hwb⟩ : ∃ wb, wb = World.setCells wa.drew u (k * 128) (bva y).toList := ⟨_, rfl⟩
              rw [← hwb]
              have HBB := Lib.hid (show But (fun y => y = u) wa wb from by rw [hwb]; exact (((But.refl wa).drew).trans (but_cells _ _ _ _)))
              have HMB := Lib.hid (show RmAt wb g ((x.put 0 k false).setL 0 k y) F from by rw [hwb]; exact rm_drewL HSET2.out)
              have HXB := Lib.hid (HXA.out.but HBB.out (fun e => HNF.out (by rw [show b = u from e]; exact HFU.out)))
              have HTB := Lib.hid (HTA.out.trans (HBB.out.mono (fun y hy => by rw [show y = u from hy]; exact HFU.out)))
              clear hwb HBB HSET2 HXA HMA HTA HC0 HTH c2
              go_wp2_with fail
              go_roundw
              case rel => exact ⟨1, (wr1 x k y), rfl, (by rw [show (wr1 x k y) = (x.put 0 k false).setL 0 k y from by rw [wr1, ← O0.out]; rw [Md.wd, show (x.put 0 k false).o 0 = false from O0.out.symm, if_neg (by simp)]]; exact HMB.out), HTB.out, HXB.out, .inr (.inl ⟨rfl, rfl⟩)⟩
              case measure => simp [intOf]
            · have M0 := Lib.hid (show RmAt wr g (wr1 x k y) F from by rw [← hs]; exact M.out)
              clear M hs
              have M := Lib.hid M0.out
              clear M0
              have hxa : k < (wr1 x k y).a.length := by rw [(wr1_o x k y).2.2]; exact HK.out
              obtain ⟨q, n', j', hc4, hkn, hnj, hjm, hcq, hfq, hqg, hFq, hql, hset⟩ := M.out.mark1 hxa
              have HC4 := Lib.hid hc4
              have HC2 := Lib.hid (show wr.cell? ⟨g, 3, none⟩ = some (.bool false) from by
                have h := M.out.out1
                rw [show (wr1 x k y).o1 = false by rw [(wr1_o x k y).2.1, ← O1.out]] at h
                exact h)
              have HSET := Lib.hid (hset false)
              have HQG := Lib.hid hqg
              have HFQ := Lib.hid hFq
              have HQL := Lib.hid hql
              have kn1 : (k : Int) < (n' : Int) := by omega
              have D0 : wr.drew.cell? ⟨q, k, none⟩ = some (.bool ((wr1 x k y).b.getD k false)) := hcq
              have D1 : wr.drew.frozen? ⟨q, k, none⟩ = false := hfq
              obtain ⟨bq, hbq⟩ : ∃ bq, bq = (wr1 x k y).b.getD k false := ⟨_, rfl⟩
              rw [← hbq] at D0
              clear hc4 hkn hcq hfq hqg hFq hql hset hbq hxa hjm
              go_upto_region 8 with fail
              refine wp_region_held_drew (S := fun w' => w'.cell? ⟨g, 5, none⟩ = some (.slice (some ⟨q, 0, none⟩) n' j') ∧ w'.cell? ⟨g, 3, none⟩ = some (.bool false)) (by kernel_rfl) ⟨HC4.out, HC2.out⟩ (fun hh => ?_)
              have HH := Lib.hid hh
              clear hh
              refine wpAnyH_take (i := 0) (v := ?vW1ff0) rfl (by kernel_rfl) (by kernel_rfl) (by kernel_rfl) (fun _ _ _ h => h) (Or.inl ⟨by rfl, fun w' _ => ?yW1ff0⟩) HH.out ?_
              case yW1ff0 => (go_simp; try with_reducible rfl)
              refine wpAnyH_take (i := 1) (v := ?vW1ff1) rfl (by kernel_rfl) (by kernel_rfl) (by kernel_rfl) (fun _ _ _ h => h) (Or.inl ⟨by rfl, fun w' _ => ?yW1ff1⟩) HH.out ?_
              case yW1ff1 => (go_simp; try with_reducible rfl)
              try simp only [List.getElem_toArray, List.getElem_cons_succ, List.getElem_cons_zero, Act.put, List.setIfInBounds_toArray, List.set_cons_zero, List.set_cons_succ]
              refine wpAnyH_take (i := 2) (v := ?vW1ff2) rfl (by kernel_rfl) (by kernel_rfl) (by kernel_rfl) (fun _ _ _ h => h) (Or.inl ⟨by rfl, fun w' _ => ?yW1ff2⟩) HH.out ?_
              case yW1ff2 => (go_simp; try with_reducible rfl)
              refine wpAnyH_take (i := 3) (v := ?vW1ff3) rfl (by kernel_rfl) (by kernel_rfl) (by kernel_rfl) (fun _ _ _ h => h) (Or.inl ⟨by rfl, fun w' _ => ?yW1ff3⟩) HH.out ?_
              case yW1ff3 => (go_simp; try with_reducible rfl)
              refine wpAnyH_take (i := 4) (v := ?vW1ff4) rfl (by kernel_rfl) (by kernel_rfl) (by kernel_rfl) (fun _ _ _ h => h) (Or.inl ⟨by rfl, fun w' _ => ?yW1ff4⟩) HH.out ?_
              case yW1ff4 => (go_simp; try with_reducible rfl)
              try simp only [List.getElem_toArray, List.getElem_cons_succ, List.getElem_cons_zero, Act.put, List.setIfInBounds_toArray, List.set_cons_zero, List.set_cons_succ]
              try simp only [List.getElem_toArray, List.getElem_cons_succ, List.getElem_cons_zero, Act.put, List.setIfInBounds_toArray, List.set_cons_zero, List.set_cons_succ]
              refine wpAnyH_take (i := 5) (v := .slice (some ⟨q, 0, none⟩) n' j') rfl (by kernel_rfl) (by kernel_rfl) (by kernel_rfl) (fun _ _ _ h => h) (Or.inl ⟨by rfl, fun w' hw' => ?yW1ff5⟩) HH.out ?_
              case yW1ff5 => (have hc := hw'.1; go_simp; try with_reducible rfl)
              refine wpAnyH_take (i := 6) (v := ?vW1ff6) rfl (by kernel_rfl) (by kernel_rfl) (by kernel_rfl) (fun _ _ _ h => h) (Or.inl ⟨by rfl, fun w' _ => ?yW1ff6⟩) HH.out ?_
              case yW1ff6 => (go_simp; try with_reducible rfl)
              refine wpAnyH_take (i := 7) (v := ?vW1ff7) rfl (by kernel_rfl) (by kernel_rfl) (by kernel_rfl) (fun _ _ _ h => h) (Or.inl ⟨by rfl, fun w' _ => ?yW1ff7⟩) HH.out ?_
              case yW1ff7 => (go_simp; try with_reducible rfl)
              try simp only [List.getElem_toArray, List.getElem_cons_succ, List.getElem_cons_zero, Act.put, List.setIfInBounds_toArray, List.set_cons_zero, List.set_cons_succ]
              refine wpAnyH_take (i := 8) (v := ?vW1ff8) rfl (by kernel_rfl) (by kernel_rfl) (by kernel_rfl) (fun _ _ _ h => h) (Or.inl ⟨by rfl, fun w' _ => ?yW1ff8⟩) HH.out ?_
              case yW1ff8 => (go_simp; try with_reducible rfl)
              refine wpAnyH_take (i := 9) (v := ?vW1ff9) rfl (by kernel_rfl) (by kernel_rfl) (by kernel_rfl) (fun _ _ _ h => h) (Or.inl ⟨by rfl, fun w' _ => ?yW1ff9⟩) HH.out ?_
              case yW1ff9 => (go_simp; try with_reducible rfl)
              refine wpAnyH_take (i := 10) (v := ?vW1ff10) rfl (by kernel_rfl) (by kernel_rfl) (by kernel_rfl) (fun _ _ _ h => h) (Or.inl ⟨by rfl, fun w' _ => ?yW1ff10⟩) HH.out ?_
              case yW1ff10 => (go_simp; try with_reducible rfl)
              try simp only [List.getElem_toArray, List.getElem_cons_succ, List.getElem_cons_zero, Act.put, List.setIfInBounds_toArray, List.set_cons_zero, List.set_cons_succ]
              refine wpAnyH_take (i := 11) (v := ?vW1ff11) rfl (by kernel_rfl) (by kernel_rfl) (by kernel_rfl) (fun _ _ _ h => h) (Or.inl ⟨by rfl, fun w' _ => ?yW1ff11⟩) HH.out ?_
              case yW1ff11 => (go_simp; try with_reducible rfl)
              try simp only [List.getElem_toArray, List.getElem_cons_succ, List.getElem_cons_zero, Act.put, List.setIfInBounds_toArray, List.set_cons_zero, List.set_cons_succ]
              refine wpAnyH_take (i := 12) (v := .bool false) rfl (by kernel_rfl) (by kernel_rfl) (by kernel_rfl) (fun _ _ _ h => h) (Or.inl ⟨by rfl, fun w' hw' => ?yW1ff12⟩) HH.out ?_
              case yW1ff12 => (have hc := hw'.2; go_simp; try with_reducible rfl)
              refine wpAnyH_take (i := 13) (v := ?vW1ff13) rfl (by kernel_rfl) (by kernel_rfl) (by kernel_rfl) (fun _ _ _ h => h) (Or.inl ⟨by rfl, fun w' _ => ?yW1ff13⟩) HH.out ?_
              case yW1ff13 => (go_simp; try with_reducible rfl)
              try simp only [List.getElem_toArray, List.getElem_cons_succ, List.getElem_cons_zero, Act.put, List.setIfInBounds_toArray, List.set_cons_zero, List.set_cons_succ]
              try simp only [List.getElem_toArray, List.getElem_cons_succ, List.getElem_cons_zero, Act.put, List.setIfInBounds_toArray, List.set_cons_zero, List.set_cons_succ]
              refine wpAnyH_ready (rs := [14]) (by kernel_rfl) (by simp) (AllReadyH.cons rfl (fun K hK => ?_) AllReadyH.nil)
              go_simp
              refine hK.out _ _ ⟨?kp0, ?kp1⟩ (fun hh => ?_)
              case kp0 => exact (cell_other (show wr.drew.cell? ⟨g, 5, none⟩ = _ from HC4.out) (fun e => HQG.out e.symm))
              case kp1 => exact (cell_other (show wr.drew.cell? ⟨g, 3, none⟩ = _ from HC2.out) (fun e => HQG.out e.symm))
              clear hh hK K HH
              try simp only [List.getElem_toArray, List.getElem_cons_succ, List.getElem_cons_zero, Act.put, List.setIfInBounds_toArray, List.set_cons_zero, List.set_cons_succ]
              refine wpAnyH_done (by kernel_rfl) ?_ _
              obtain ⟨wa, hwa⟩ : ∃ wa, wa = World.drew (World.setCell wr ⟨q, k, none⟩ (.bool false)) := ⟨_, rfl⟩
              rw [← hwa]
              have HBA := Lib.hid (show But (fun y => y = q) wr wa from by rw [hwa]; exact (show But (fun y => y = q) wr (wr.setCell ⟨q, k, none⟩ (.bool false)) from but_one _).drew)
              have HMA := Lib.hid (show RmAt wa g ((wr1 x k y).put 1 k false) F from by rw [hwa]; exact HSET.out.below (Below.refl _ _).drew)
              have HXA := Lib.hid (X.out.but HBA.out (fun e => HNF.out (by rw [e]; exact HFQ.out)))
              have HTA := Lib.hid (BT.out.trans (HBA.out.mono (fun y hy => by rw [hy]; exact HFQ.out)))
              have c2 : wa.cell? ⟨g, 3, none⟩ = some (.bool false) := by rw [hwa]; exact cell_other (w := wr) HC2.out (fun e => HQG.out e.symm)
              clear hwa HBA HSET D0 D1 X M BT HC4 HC2
              have hxb : k < ((wr1 x k y).put 1 k false).a.length := by show k < (wr1 x k y).a.length; rw [(wr1_o x k y).2.2]; exact HK.out
              obtain ⟨u, n2, j2, hc0, hkn2, hnj2, hjm2, _, _, hth, hug, hFu, hul, _, hset2⟩ := HMA.out.sect1 hxb
              have HC0 := Lib.hid hc0
              have HTH := Lib.hid (show wa.drew.there u (k * 128) 128 from hth)
              have HSET2 := Lib.hid (hset2 y HY3.out)
              have HUG := Lib.hid hug
              have HFU := Lib.hid hFu
              have kn2 : (k : Int) < (n2 : Int) := by omega
              clear hc0 hkn2 hth hug hFu hul hset2 hxb hjm2
              go_upto_region 10 with fail
              refine wp_region_held_drew (S := fun w' => w'.cell? ⟨g, 1, none⟩ = some (.slice (some ⟨u, 0, none⟩) n2 j2) ∧ Blk w' b (bva y) 38) (by kernel_rfl) ⟨HC0.out, (show Blk _ _ _ _ from HXA.out)⟩ (fun hh => ?_)
              have HH := Lib.hid hh
              clear hh
              refine wpAnyH_take (i := 0) (v := ?vW1ffs0) rfl (by kernel_rfl) (by kernel_rfl) (by kernel_rfl) (fun _ _ _ h => h) (Or.inl ⟨by rfl, fun w' _ => ?yW1ffs0⟩) HH.out ?_
              case yW1ffs0 => (go_simp; try with_reducible rfl)
              refine wpAnyH_take (i := 1) (v := ?vW1ffs1) rfl (by kernel_rfl) (by kernel_rfl) (by kernel_rfl) (fun _ _ _ h => h) (Or.inl ⟨by rfl, fun w' _ => ?yW1ffs1⟩) HH.out ?_
              case yW1ffs1 => (go_simp; try with_reducible rfl)
              try simp only [List.getElem_toArray, List.getElem_cons_succ, List.getElem_cons_zero, Act.put, List.setIfInBounds_toArray, List.set_cons_zero, List.set_cons_succ]
              refine wpAnyH_take (i := 2) (v := ?vW1ffs2) rfl (by kernel_rfl) (by kernel_rfl) (by kernel_rfl) (fun _ _ _ h => h) (Or.inl ⟨by rfl, fun w' _ => ?yW1ffs2⟩) HH.out ?_
              case yW1ffs2 => (go_simp; try with_reducible rfl)
              refine wpAnyH_take (i := 3) (v := ?vW1ffs3) rfl (by kernel_rfl) (by kernel_rfl) (by kernel_rfl) (fun _ _ _ h => h) (Or.inl ⟨by rfl, fun w' _ => ?yW1ffs3⟩) HH.out ?_
              case yW1ffs3 => (go_simp; try with_reducible rfl)
              refine wpAnyH_take (i := 4) (v := ?vW1ffs4) rfl (by kernel_rfl) (by kernel_rfl) (by kernel_rfl) (fun _ _ _ h => h) (Or.inl ⟨by rfl, fun w' _ => ?yW1ffs4⟩) HH.out ?_
              case yW1ffs4 => (go_simp; try with_reducible rfl)
              try simp only [List.getElem_toArray, List.getElem_cons_succ, List.getElem_cons_zero, Act.put, List.setIfInBounds_toArray, List.set_cons_zero, List.set_cons_succ]
              try simp only [List.getElem_toArray, List.getElem_cons_succ, List.getElem_cons_zero, Act.put, List.setIfInBounds_toArray, List.set_cons_zero, List.set_cons_succ]
              refine wpAnyH_take (i := 5) (v := .slice (some ⟨u, 0, none⟩) n2 j2) rfl (by kernel_rfl) (by kernel_rfl) (by kernel_rfl) (fun _ _ _ h => h) (Or.inl ⟨by rfl, fun w' hw' => ?yW1ffs5⟩) HH.out ?_
              case yW1ffs5 => (have hc := hw'.1; go_simp; try with_reducible rfl)
              refine wpAnyH_take (i := 6) (v := ?vW1ffs6) rfl (by kernel_rfl) (by kernel_rfl) (by kernel_rfl) (fun _ _ _ h => h) (Or.inl ⟨by rfl, fun w' _ => ?yW1ffs6⟩) HH.out ?_
              case yW1ffs6 => (go_simp; try with_reducible rfl)
              try simp only [List.getElem_toArray, List.getElem_cons_succ, List.getElem_cons_zero, Act.put, List.setIfInBounds_toArray, List.set_cons_zero, List.set_cons_succ]
              refine wpAnyH_take (i := 7) (v := .agg (bva y)) rfl (by kernel_rfl) (by kernel_rfl) (by kernel_rfl) (fun _ _ _ h => h) (Or.inl ⟨by rfl, fun w' hw' => ?yW1ffs7⟩) HH.out ?_
              case yW1ffs7 => exact exec_load 38 (.tmp 5) rfl rfl hw'.2 Try.underlying38 rfl HIY.out
              try simp only [List.getElem_toArray, List.getElem_cons_succ, List.getElem_cons_zero, Act.put, List.setIfInBounds_toArray, List.set_cons_zero, List.set_cons_succ]
              refine wpAnyH_take (i := 8) (v := ?vW1ffs8) rfl (by kernel_rfl) (by kernel_rfl) (by kernel_rfl) (fun _ _ _ h => h) (Or.inl ⟨by rfl, fun w' _ => ?yW1ffs8⟩) HH.out ?_
              case yW1ffs8 => (go_simp; try with_reducible rfl)
              try simp only [List.getElem_toArray, List.getElem_cons_succ, List.getElem_cons_zero, Act.put, List.setIfInBounds_toArray, List.set_cons_zero, List.set_cons_succ]
              refine wpAnyH_ready (rs := [9]) (by kernel_rfl) (by simp) (AllReadyH.cons rfl (fun K hK => ?_) AllReadyH.nil)
              rw [if_pos (by rfl)]
              refine wp_store_mid 38 (.tmp 57) (.tmp 56) rfl u (k * 128) (bva y) rfl rfl (by rw [bva_size, HY3.out]; exact HTH.out) HIY.out (bva_one _) ?_
              refine hK.out _ _ ⟨?kq0, ?kq1⟩ (fun hh => ?_)
              case kq0 => exact cells_other (show wa.drew.cell? ⟨g, 1, none⟩ = _ from HC0.out) (fun e => HUG.out e.symm)
              case kq1 => exact Blk.but (show Blk wa.drew b (bva y) 38 from HXA.out) (but_cells _ _ _ _) (fun e => HNF.out (by rw [show b = u from e]; exact HFU.out))
              clear hh hK K HH
              try simp only [List.getElem_toArray, List.getElem_cons_succ, List.getElem_cons_zero, Act.put]
              refine wpAnyH_done (by kernel_rfl) ?_ _
              obtain ⟨wb, hwb⟩ : ∃ wb, wb = World.setCells wa.drew u (k * 128) (bva y).toList := ⟨_, rfl⟩
              rw [← hwb]
              have HBB := Lib.hid (show But (fun y => y = u) wa wb from by rw [hwb]; exact (((But.refl wa).drew).trans (but_cells _ _ _ _)))
              have HMB := Lib.hid (show RmAt wb g (((wr1 x k y).put 1 k false).setL 1 k y) F from by rw [hwb]; exact rm_drewL HSET2.out)
              have HXB := Lib.hid (HXA.out.but HBB.out (fun e => HNF.out (by rw [show b = u from e]; exact HFU.out)))
              have HTB := Lib.hid (HTA.out.trans (HBB.out.mono (fun y hy => by rw [show y = u from hy]; exact HFU.out)))
              clear hwb HBB HSET2 HXA HMA HTA HC0 HTH c2
              go_wp2_with fail
              go_roundw
              case rel => exact ⟨2, (wr2 x k y), rfl, (by rw [show (wr2 x k y) = ((wr1 x k y).put 1 k false).setL 1 k y from by rw [wr2, ← O1.out, Md.wd, show ((wr1 x k y).put 1 k false).o 1 = false from by show (wr1 x k y).o1 = false; rw [(wr1_o x k y).2.1, ← O1.out], if_neg (by simp)]]; exact HMB.out), HTB.out, HXB.out, .inr (.inr ⟨rfl, rfl⟩)⟩
              case measure => simp [intOf]
            · have M0 := Lib.hid (show RmAt wr g (wr2 x k y) F from by rw [← hs]; exact M.out)
              clear hs M
              go_wp2_with fail
              go_ret
              exact ⟨rfl, by rw [HRX.out]; exact M0.out, BT.out⟩
        · go_wp2_with fail
          go_loopw [7] (fun i wr => ∃ (j : Nat) (x' : Md), i = .int .i64 j ∧ RmAt wr g x' F ∧ But F w wr ∧ Blk wr b (bva y) 38 ∧ ((j = 0 ∧ x' = x) ∨ (j = 1 ∧ x' = wr1 x k y) ∨ (j = 2 ∧ x' = wr2 x k y))) (fun i _ => 2 - (intOf i).toNat)
          case atStart => exact ⟨0, x, rfl, H1.out, HB1.out, X1.out, .inl ⟨rfl, rfl⟩⟩
          case round =>
            clear H1 X1 HB1
            obtain ⟨j, x', rfl, hm, hbt, hx, hj⟩ := hrel
            have M := Lib.hid hm
            have BT := Lib.hid hbt
            have X := Lib.hid hx
            clear hm hbt hx
            rcases hj with ⟨rfl, hs⟩ | ⟨rfl, hs⟩ | ⟨rfl, hs⟩
            · have M0 := Lib.hid (show RmAt wr g x F from by rw [← hs]; exact M.out)
              clear M hs
              have M := Lib.hid M0.out
              clear M0
              have hxa : k < x.a.length := by exact HK.out
              obtain ⟨q, n', j', hc4, hkn, hnj, hjm, hcq, hfq, hqg, hFq, hql, hset⟩ := M.out.mark0 hxa
              have HC4 := Lib.hid hc4
              have HC2 := Lib.hid (show wr.cell? ⟨g, 2, none⟩ = some (.bool false) from by
                have h := M.out.out0
                rw [show x.o0 = false by rw [← O0.out]] at h
                exact h)
              have HSET := Lib.hid (hset false)
              have HQG := Lib.hid hqg
              have HFQ := Lib.hid hFq
              have HQL := Lib.hid hql
              have kn1 : (k : Int) < (n' : Int) := by omega
              have D0 : wr.drew.cell? ⟨q, k, none⟩ = some (.bool (x.a.getD k false)) := hcq
              have D1 : wr.drew.frozen? ⟨q, k, none⟩ = false := hfq
              obtain ⟨bq, hbq⟩ : ∃ bq, bq = x.a.getD k false := ⟨_, rfl⟩
              rw [← hbq] at D0
              clear hc4 hkn hcq hfq hqg hFq hql hset hbq hxa hjm
              go_upto_region 8 with fail
              refine wp_region_held_drew (S := fun w' => w'.cell? ⟨g, 4, none⟩ = some (.slice (some ⟨q, 0, none⟩) n' j') ∧ w'.cell? ⟨g, 2, none⟩ = some (.bool false)) (by kernel_rfl) ⟨HC4.out, HC2.out⟩ (fun hh => ?_)
              have HH := Lib.hid hh
              clear hh
              refine wpAnyH_take (i := 0) (v := ?vW0ft0) rfl (by kernel_rfl) (by kernel_rfl) (by kernel_rfl) (fun _ _ _ h => h) (Or.inl ⟨by rfl, fun w' _ => ?yW0ft0⟩) HH.out ?_
              case yW0ft0 => (go_simp; try with_reducible rfl)
              refine wpAnyH_take (i := 1) (v := ?vW0ft1) rfl (by kernel_rfl) (by kernel_rfl) (by kernel_rfl) (fun _ _ _ h => h) (Or.inl ⟨by rfl, fun w' _ => ?yW0ft1⟩) HH.out ?_
              case yW0ft1 => (go_simp; try with_reducible rfl)
              try simp only [List.getElem_toArray, List.getElem_cons_succ, List.getElem_cons_zero, Act.put, List.setIfInBounds_toArray, List.set_cons_zero, List.set_cons_succ]
              refine wpAnyH_take (i := 2) (v := ?vW0ft2) rfl (by kernel_rfl) (by kernel_rfl) (by kernel_rfl) (fun _ _ _ h => h) (Or.inl ⟨by rfl, fun w' _ => ?yW0ft2⟩) HH.out ?_
              case yW0ft2 => (go_simp; try with_reducible rfl)
              refine wpAnyH_take (i := 3) (v := ?vW0ft3) rfl (by kernel_rfl) (by kernel_rfl) (by kernel_rfl) (fun _ _ _ h => h) (Or.inl ⟨by rfl, fun w' _ => ?yW0ft3⟩) HH.out ?_
              case yW0ft3 => (go_simp; try with_reducible rfl)
              refine wpAnyH_take (i := 4) (v := ?vW0ft4) rfl (by kernel_rfl) (by kernel_rfl) (by kernel_rfl) (fun _ _ _ h => h) (Or.inl ⟨by rfl, fun w' _ => ?yW0ft4⟩) HH.out ?_
              case yW0ft4 => (go_simp; try with_reducible rfl)
              try simp only [List.getElem_toArray, List.getElem_cons_succ, List.getElem_cons_zero, Act.put, List.setIfInBounds_toArray, List.set_cons_zero, List.set_cons_succ]
              try simp only [List.getElem_toArray, List.getElem_cons_succ, List.getElem_cons_zero, Act.put, List.setIfInBounds_toArray, List.set_cons_zero, List.set_cons_succ]
              refine wpAnyH_take (i := 5) (v := .slice (some ⟨q, 0, none⟩) n' j') rfl (by kernel_rfl) (by kernel_rfl) (by kernel_rfl) (fun _ _ _ h => h) (Or.inl ⟨by rfl, fun w' hw' => ?yW0ft5⟩) HH.out ?_
              case yW0ft5 => (have hc := hw'.1; go_simp; try with_reducible rfl)
              refine wpAnyH_take (i := 6) (v := ?vW0ft6) rfl (by kernel_rfl) (by kernel_rfl) (by kernel_rfl) (fun _ _ _ h => h) (Or.inl ⟨by rfl, fun w' _ => ?yW0ft6⟩) HH.out ?_
              case yW0ft6 => (go_simp; try with_reducible rfl)
              refine wpAnyH_take (i := 7) (v := ?vW0ft7) rfl (by kernel_rfl) (by kernel_rfl) (by kernel_rfl) (fun _ _ _ h => h) (Or.inl ⟨by rfl, fun w' _ => ?yW0ft7⟩) HH.out ?_
              case yW0ft7 => (go_simp; try with_reducible rfl)
              try simp only [List.getElem_toArray, List.getElem_cons_succ, List.getElem_cons_zero, Act.put, List.setIfInBounds_toArray, List.set_cons_zero, List.set_cons_succ]
              refine wpAnyH_take (i := 8) (v := ?vW0ft8) rfl (by kernel_rfl) (by kernel_rfl) (by kernel_rfl) (fun _ _ _ h => h) (Or.inl ⟨by rfl, fun w' _ => ?yW0ft8⟩) HH.out ?_
              case yW0ft8 => (go_simp; try with_reducible rfl)
              refine wpAnyH_take (i := 9) (v := ?vW0ft9) rfl (by kernel_rfl) (by kernel_rfl) (by kernel_rfl) (fun _ _ _ h => h) (Or.inl ⟨by rfl, fun w' _ => ?yW0ft9⟩) HH.out ?_
              case yW0ft9 => (go_simp; try with_reducible rfl)
              refine wpAnyH_take (i := 10) (v := ?vW0ft10) rfl (by kernel_rfl) (by kernel_rfl) (by kernel_rfl) (fun _ _ _ h => h) (Or.inl ⟨by rfl, fun w' _ => ?yW0ft10⟩) HH.out ?_
              case yW0ft10 => (go_simp; try with_reducible rfl)
              try simp only [List.getElem_toArray, List.getElem_cons_succ, List.getElem_cons_zero, Act.put, List.setIfInBounds_toArray, List.set_cons_zero, List.set_cons_succ]
              refine wpAnyH_take (i := 11) (v := ?vW0ft11) rfl (by kernel_rfl) (by kernel_rfl) (by kernel_rfl) (fun _ _ _ h => h) (Or.inl ⟨by rfl, fun w' _ => ?yW0ft11⟩) HH.out ?_
              case yW0ft11 => (go_simp; try with_reducible rfl)
              try simp only [List.getElem_toArray, List.getElem_cons_succ, List.getElem_cons_zero, Act.put, List.setIfInBounds_toArray, List.set_cons_zero, List.set_cons_succ]
              refine wpAnyH_take (i := 12) (v := .bool false) rfl (by kernel_rfl) (by kernel_rfl) (by kernel_rfl) (fun _ _ _ h => h) (Or.inl ⟨by rfl, fun w' hw' => ?yW0ft12⟩) HH.out ?_
              case yW0ft12 => (have hc := hw'.2; go_simp; try with_reducible rfl)
              refine wpAnyH_take (i := 13) (v := ?vW0ft13) rfl (by kernel_rfl) (by kernel_rfl) (by kernel_rfl) (fun _ _ _ h => h) (Or.inl ⟨by rfl, fun w' _ => ?yW0ft13⟩) HH.out ?_
              case yW0ft13 => (go_simp; try with_reducible rfl)
              try simp only [List.getElem_toArray, List.getElem_cons_succ, List.getElem_cons_zero, Act.put, List.setIfInBounds_toArray, List.set_cons_zero, List.set_cons_succ]
              try simp only [List.getElem_toArray, List.getElem_cons_succ, List.getElem_cons_zero, Act.put, List.setIfInBounds_toArray, List.set_cons_zero, List.set_cons_succ]
              refine wpAnyH_ready (rs := [14]) (by kernel_rfl) (by simp) (AllReadyH.cons rfl (fun K hK => ?_) AllReadyH.nil)
              go_simp
              refine hK.out _ _ ⟨?kp0, ?kp1⟩ (fun hh => ?_)
              case kp0 => exact (cell_other (show wr.drew.cell? ⟨g, 4, none⟩ = _ from HC4.out) (fun e => HQG.out e.symm))
              case kp1 => exact (cell_other (show wr.drew.cell? ⟨g, 2, none⟩ = _ from HC2.out) (fun e => HQG.out e.symm))
              clear hh hK K HH
              try simp only [List.getElem_toArray, List.getElem_cons_succ, List.getElem_cons_zero, Act.put, List.setIfInBounds_toArray, List.set_cons_zero, List.set_cons_succ]
              refine wpAnyH_done (by kernel_rfl) ?_ _
              obtain ⟨wa, hwa⟩ : ∃ wa, wa = World.drew (World.setCell wr ⟨q, k, none⟩ (.bool false)) := ⟨_, rfl⟩
              rw [← hwa]
              have HBA := Lib.hid (show But (fun y => y = q) wr wa from by rw [hwa]; exact (show But (fun y => y = q) wr (wr.setCell ⟨q, k, none⟩ (.bool false)) from but_one _).drew)
              have HMA := Lib.hid (show RmAt wa g (x.put 0 k false) F from by rw [hwa]; exact HSET.out.below (Below.refl _ _).drew)
              have HXA := Lib.hid (X.out.but HBA.out (fun e => HNF.out (by rw [e]; exact HFQ.out)))
              have HTA := Lib.hid (BT.out.trans (HBA.out.mono (fun y hy => by rw [hy]; exact HFQ.out)))
              have c2 : wa.cell? ⟨g, 2, none⟩ = some (.bool false) := by rw [hwa]; exact cell_other (w := wr) HC2.out (fun e => HQG.out e.symm)
              clear hwa HBA HSET D0 D1 X M BT HC4 HC2
              have hxb : k < (x.put 0 k false).a.length := by show k < (x.a.set k false).length; rw [List.length_set]; exact HK.out
              obtain ⟨u, n2, j2, hc0, hkn2, hnj2, hjm2, _, _, hth, hug, hFu, hul, _, hset2⟩ := HMA.out.sect0 hxb
              have HC0 := Lib.hid hc0
              have HTH := Lib.hid (show wa.drew.there u (k * 128) 128 from hth)
              have HSET2 := Lib.hid (hset2 y HY3.out)
              have HUG := Lib.hid hug
              have HFU := Lib.hid hFu
              have kn2 : (k : Int) < (n2 : Int) := by omega
              clear hc0 hkn2 hth hug hFu hul hset2 hxb hjm2
              go_upto_region 10 with fail
              refine wp_region_held_drew (S := fun w' => w'.cell? ⟨g, 0, none⟩ = some (.slice (some ⟨u, 0, none⟩) n2 j2) ∧ Blk w' b (bva y) 38) (by kernel_rfl) ⟨HC0.out, (show Blk _ _ _ _ from HXA.out)⟩ (fun hh => ?_)
              have HH := Lib.hid hh
              clear hh
              refine wpAnyH_take (i := 0) (v := ?vW0fts0) rfl (by kernel_rfl) (by kernel_rfl) (by kernel_rfl) (fun _ _ _ h => h) (Or.inl ⟨by rfl, fun w' _ => ?yW0fts0⟩) HH.out ?_
              case yW0fts0 => (go_simp; try with_reducible rfl)
              refine wpAnyH_take (i := 1) (v := ?vW0fts1) rfl (by kernel_rfl) (by kernel_rfl) (by kernel_rfl) (fun _ _ _ h => h) (Or.inl ⟨by rfl, fun w' _ => ?yW0fts1⟩) HH.out ?_
              case yW0fts1 => (go_simp; try with_reducible rfl)
              try simp only [List.getElem_toArray, List.getElem_cons_succ, List.getElem_cons_zero, Act.put, List.setIfInBounds_toArray, List.set_cons_zero, List.set_cons_succ]
              refine wpAnyH_take (i := 2) (v := ?vW0fts2) rfl (by kernel_rfl) (by kernel_rfl) (by kernel_rfl) (fun _ _ _ h => h) (Or.inl ⟨by rfl, fun w' _ => ?yW0fts2⟩) HH.out ?_
              case yW0fts2 => (go_simp; try with_reducible rfl)
              refine wpAnyH_take (i := 3) (v := ?vW0fts3) rfl (by kernel_rfl) (by kernel_rfl) (by kernel_rfl) (fun _ _ _ h => h) (Or.inl ⟨by rfl, fun w' _ => ?yW0fts3⟩) HH.out ?_
              case yW0fts3 => (go_simp; try with_reducible rfl)
              refine wpAnyH_take (i := 4) (v := ?vW0fts4) rfl (by kernel_rfl) (by kernel_rfl) (by kernel_rfl) (fun _ _ _ h => h) (Or.inl ⟨by rfl, fun w' _ => ?yW0fts4⟩) HH.out ?_
              case yW0fts4 => (go_simp; try with_reducible rfl)
              try simp only [List.getElem_toArray, List.getElem_cons_succ, List.getElem_cons_zero, Act.put, List.setIfInBounds_toArray, List.set_cons_zero, List.set_cons_succ]
              try simp only [List.getElem_toArray, List.getElem_cons_succ, List.getElem_cons_zero, Act.put, List.setIfInBounds_toArray, List.set_cons_zero, List.set_cons_succ]
              refine wpAnyH_take (i := 5) (v := .slice (some ⟨u, 0, none⟩) n2 j2) rfl (by kernel_rfl) (by kernel_rfl) (by kernel_rfl) (fun _ _ _ h => h) (Or.inl ⟨by rfl, fun w' hw' => ?yW0fts5⟩) HH.out ?_
              case yW0fts5 => (have hc := hw'.1; go_simp; try with_reducible rfl)
              refine wpAnyH_take (i := 6) (v := ?vW0fts6) rfl (by kernel_rfl) (by kernel_rfl) (by kernel_rfl) (fun _ _ _ h => h) (Or.inl ⟨by rfl, fun w' _ => ?yW0fts6⟩) HH.out ?_
              case yW0fts6 => (go_simp; try with_reducible rfl)
              try simp only [List.getElem_toArray, List.getElem_cons_succ, List.getElem_cons_zero, Act.put, List.setIfInBounds_toArray, List.set_cons_zero, List.set_cons_succ]
              refine wpAnyH_take (i := 7) (v := .agg (bva y)) rfl (by kernel_rfl) (by kernel_rfl) (by kernel_rfl) (fun _ _ _ h => h) (Or.inl ⟨by rfl, fun w' hw' => ?yW0fts7⟩) HH.out ?_
              case yW0fts7 => exact exec_load 38 (.tmp 5) rfl rfl hw'.2 Try.underlying38 rfl HIY.out
              try simp only [List.getElem_toArray, List.getElem_cons_succ, List.getElem_cons_zero, Act.put, List.setIfInBounds_toArray, List.set_cons_zero, List.set_cons_succ]
              refine wpAnyH_take (i := 8) (v := ?vW0fts8) rfl (by kernel_rfl) (by kernel_rfl) (by kernel_rfl) (fun _ _ _ h => h) (Or.inl ⟨by rfl, fun w' _ => ?yW0fts8⟩) HH.out ?_
              case yW0fts8 => (go_simp; try with_reducible rfl)
              try simp only [List.getElem_toArray, List.getElem_cons_succ, List.getElem_cons_zero, Act.put, List.setIfInBounds_toArray, List.set_cons_zero, List.set_cons_succ]
              refine wpAnyH_ready (rs := [9]) (by kernel_rfl) (by simp) (AllReadyH.cons rfl (fun K hK => ?_) AllReadyH.nil)
              rw [if_pos (by rfl)]
              refine wp_store_mid 38 (.tmp 57) (.tmp 56) rfl u (k * 128) (bva y) rfl rfl (by rw [bva_size, HY3.out]; exact HTH.out) HIY.out (bva_one _) ?_
              refine hK.out _ _ ⟨?kq0, ?kq1⟩ (fun hh => ?_)
              case kq0 => exact cells_other (show wa.drew.cell? ⟨g, 0, none⟩ = _ from HC0.out) (fun e => HUG.out e.symm)
              case kq1 => exact Blk.but (show Blk wa.drew b (bva y) 38 from HXA.out) (but_cells _ _ _ _) (fun e => HNF.out (by rw [show b = u from e]; exact HFU.out))
              clear hh hK K HH
              try simp only [List.getElem_toArray, List.getElem_cons_succ, List.getElem_cons_zero, Act.put]
              refine wpAnyH_done (by kernel_rfl) ?_ _
              obtain ⟨wb, hwb⟩ : ∃ wb, wb = World.setCells wa.drew u (k * 128) (bva y).toList := ⟨_, rfl⟩
              rw [← hwb]
              have HBB := Lib.hid (show But (fun y => y = u) wa wb from by rw [hwb]; exact (((But.refl wa).drew).trans (but_cells _ _ _ _)))
              have HMB := Lib.hid (show RmAt wb g ((x.put 0 k false).setL 0 k y) F from by rw [hwb]; exact rm_drewL HSET2.out)
              have HXB := Lib.hid (HXA.out.but HBB.out (fun e => HNF.out (by rw [show b = u from e]; exact HFU.out)))
              have HTB := Lib.hid (HTA.out.trans (HBB.out.mono (fun y hy => by rw [show y = u from hy]; exact HFU.out)))
              clear hwb HBB HSET2 HXA HMA HTA HC0 HTH c2
              go_wp2_with fail
              go_roundw
              case rel => exact ⟨1, (wr1 x k y), rfl, (by rw [show (wr1 x k y) = (x.put 0 k false).setL 0 k y from by rw [wr1, ← O0.out]; rw [Md.wd, show (x.put 0 k false).o 0 = false from O0.out.symm, if_neg (by simp)]]; exact HMB.out), HTB.out, HXB.out, .inr (.inl ⟨rfl, rfl⟩)⟩
              case measure => simp [intOf]
            · have M0 := Lib.hid (show RmAt wr g (wr1 x k y) F from by rw [← hs]; exact M.out)
              clear M hs
              have M := Lib.hid M0.out
              clear M0
              have hxa : k < (wr1 x k y).a.length := by rw [(wr1_o x k y).2.2]; exact HK.out
              obtain ⟨q, n', j', hc4, hkn, hnj, hjm, hcq, hfq, hqg, hFq, hql, hset⟩ := M.out.mark1 hxa
              have HC4 := Lib.hid hc4
              have HC2 := Lib.hid (show wr.cell? ⟨g, 3, none⟩ = some (.bool true) from by
                have h := M.out.out1
                rw [show (wr1 x k y).o1 = true by rw [(wr1_o x k y).2.1, ← O1.out]] at h
                exact h)
              have HSET := Lib.hid (hset true)
              have HQG := Lib.hid hqg
              have HFQ := Lib.hid hFq
              have HQL := Lib.hid hql
              have kn1 : (k : Int) < (n' : Int) := by omega
              have D0 : wr.drew.cell? ⟨q, k, none⟩ = some (.bool ((wr1 x k y).b.getD k false)) := hcq
              have D1 : wr.drew.frozen? ⟨q, k, none⟩ = false := hfq
              obtain ⟨bq, hbq⟩ : ∃ bq, bq = (wr1 x k y).b.getD k false := ⟨_, rfl⟩
              rw [← hbq] at D0
              clear hc4 hkn hcq hfq hqg hFq hql hset hbq hxa hjm
              go_upto_region 8 with fail
              refine wp_region_held_drew (S := fun w' => w'.cell? ⟨g, 5, none⟩ = some (.slice (some ⟨q, 0, none⟩) n' j') ∧ w'.cell? ⟨g, 3, none⟩ = some (.bool true)) (by kernel_rfl) ⟨HC4.out, HC2.out⟩ (fun hh => ?_)
              have HH := Lib.hid hh
              clear hh
              refine wpAnyH_take (i := 0) (v := ?vW1ft0) rfl (by kernel_rfl) (by kernel_rfl) (by kernel_rfl) (fun _ _ _ h => h) (Or.inl ⟨by rfl, fun w' _ => ?yW1ft0⟩) HH.out ?_
              case yW1ft0 => (go_simp; try with_reducible rfl)
              refine wpAnyH_take (i := 1) (v := ?vW1ft1) rfl (by kernel_rfl) (by kernel_rfl) (by kernel_rfl) (fun _ _ _ h => h) (Or.inl ⟨by rfl, fun w' _ => ?yW1ft1⟩) HH.out ?_
              case yW1ft1 => (go_simp; try with_reducible rfl)
              try simp only [List.getElem_toArray, List.getElem_cons_succ, List.getElem_cons_zero, Act.put, List.setIfInBounds_toArray, List.set_cons_zero, List.set_cons_succ]
              refine wpAnyH_take (i := 2) (v := ?vW1ft2) rfl (by kernel_rfl) (by kernel_rfl) (by kernel_rfl) (fun _ _ _ h => h) (Or.inl ⟨by rfl, fun w' _ => ?yW1ft2⟩) HH.out ?_
              case yW1ft2 => (go_simp; try with_reducible rfl)
              refine wpAnyH_take (i := 3) (v := ?vW1ft3) rfl (by kernel_rfl) (by kernel_rfl) (by kernel_rfl) (fun _ _ _ h => h) (Or.inl ⟨by rfl, fun w' _ => ?yW1ft3⟩) HH.out ?_
              case yW1ft3 => (go_simp; try with_reducible rfl)
              refine wpAnyH_take (i := 4) (v := ?vW1ft4) rfl (by kernel_rfl) (by kernel_rfl) (by kernel_rfl) (fun _ _ _ h => h) (Or.inl ⟨by rfl, fun w' _ => ?yW1ft4⟩) HH.out ?_
              case yW1ft4 => (go_simp; try with_reducible rfl)
              try simp only [List.getElem_toArray, List.getElem_cons_succ, List.getElem_cons_zero, Act.put, List.setIfInBounds_toArray, List.set_cons_zero, List.set_cons_succ]
              try simp only [List.getElem_toArray, List.getElem_cons_succ, List.getElem_cons_zero, Act.put, List.setIfInBounds_toArray, List.set_cons_zero, List.set_cons_succ]
              refine wpAnyH_take (i := 5) (v := .slice (some ⟨q, 0, none⟩) n' j') rfl (by kernel_rfl) (by kernel_rfl) (by kernel_rfl) (fun _ _ _ h => h) (Or.inl ⟨by rfl, fun w' hw' => ?yW1ft5⟩) HH.out ?_
              case yW1ft5 => (have hc := hw'.1; go_simp; try with_reducible rfl)
              refine wpAnyH_take (i := 6) (v := ?vW1ft6) rfl (by kernel_rfl) (by kernel_rfl) (by kernel_rfl) (fun _ _ _ h => h) (Or.inl ⟨by rfl, fun w' _ => ?yW1ft6⟩) HH.out ?_
              case yW1ft6 => (go_simp; try with_reducible rfl)
              refine wpAnyH_take (i := 7) (v := ?vW1ft7) rfl (by kernel_rfl) (by kernel_rfl) (by kernel_rfl) (fun _ _ _ h => h) (Or.inl ⟨by rfl, fun w' _ => ?yW1ft7⟩) HH.out ?_
              case yW1ft7 => (go_simp; try with_reducible rfl)
              try simp only [List.getElem_toArray, List.getElem_cons_succ, List.getElem_cons_zero, Act.put, List.setIfInBounds_toArray, List.set_cons_zero, List.set_cons_succ]
              refine wpAnyH_take (i := 8) (v := ?vW1ft8) rfl (by kernel_rfl) (by kernel_rfl) (by kernel_rfl) (fun _ _ _ h => h) (Or.inl ⟨by rfl, fun w' _ => ?yW1ft8⟩) HH.out ?_
              case yW1ft8 => (go_simp; try with_reducible rfl)
              refine wpAnyH_take (i := 9) (v := ?vW1ft9) rfl (by kernel_rfl) (by kernel_rfl) (by kernel_rfl) (fun _ _ _ h => h) (Or.inl ⟨by rfl, fun w' _ => ?yW1ft9⟩) HH.out ?_
              case yW1ft9 => (go_simp; try with_reducible rfl)
              refine wpAnyH_take (i := 10) (v := ?vW1ft10) rfl (by kernel_rfl) (by kernel_rfl) (by kernel_rfl) (fun _ _ _ h => h) (Or.inl ⟨by rfl, fun w' _ => ?yW1ft10⟩) HH.out ?_
              case yW1ft10 => (go_simp; try with_reducible rfl)
              try simp only [List.getElem_toArray, List.getElem_cons_succ, List.getElem_cons_zero, Act.put, List.setIfInBounds_toArray, List.set_cons_zero, List.set_cons_succ]
              refine wpAnyH_take (i := 11) (v := ?vW1ft11) rfl (by kernel_rfl) (by kernel_rfl) (by kernel_rfl) (fun _ _ _ h => h) (Or.inl ⟨by rfl, fun w' _ => ?yW1ft11⟩) HH.out ?_
              case yW1ft11 => (go_simp; try with_reducible rfl)
              try simp only [List.getElem_toArray, List.getElem_cons_succ, List.getElem_cons_zero, Act.put, List.setIfInBounds_toArray, List.set_cons_zero, List.set_cons_succ]
              refine wpAnyH_take (i := 12) (v := .bool true) rfl (by kernel_rfl) (by kernel_rfl) (by kernel_rfl) (fun _ _ _ h => h) (Or.inl ⟨by rfl, fun w' hw' => ?yW1ft12⟩) HH.out ?_
              case yW1ft12 => (have hc := hw'.2; go_simp; try with_reducible rfl)
              refine wpAnyH_take (i := 13) (v := ?vW1ft13) rfl (by kernel_rfl) (by kernel_rfl) (by kernel_rfl) (fun _ _ _ h => h) (Or.inl ⟨by rfl, fun w' _ => ?yW1ft13⟩) HH.out ?_
              case yW1ft13 => (go_simp; try with_reducible rfl)
              try simp only [List.getElem_toArray, List.getElem_cons_succ, List.getElem_cons_zero, Act.put, List.setIfInBounds_toArray, List.set_cons_zero, List.set_cons_succ]
              try simp only [List.getElem_toArray, List.getElem_cons_succ, List.getElem_cons_zero, Act.put, List.setIfInBounds_toArray, List.set_cons_zero, List.set_cons_succ]
              refine wpAnyH_ready (rs := [14]) (by kernel_rfl) (by simp) (AllReadyH.cons rfl (fun K hK => ?_) AllReadyH.nil)
              go_simp
              refine hK.out _ _ ⟨?kp0, ?kp1⟩ (fun hh => ?_)
              case kp0 => exact (cell_other (show wr.drew.cell? ⟨g, 5, none⟩ = _ from HC4.out) (fun e => HQG.out e.symm))
              case kp1 => exact (cell_other (show wr.drew.cell? ⟨g, 3, none⟩ = _ from HC2.out) (fun e => HQG.out e.symm))
              clear hh hK K HH
              try simp only [List.getElem_toArray, List.getElem_cons_succ, List.getElem_cons_zero, Act.put, List.setIfInBounds_toArray, List.set_cons_zero, List.set_cons_succ]
              refine wpAnyH_done (by kernel_rfl) ?_ _
              obtain ⟨wa, hwa⟩ : ∃ wa, wa = World.drew (World.setCell wr ⟨q, k, none⟩ (.bool true)) := ⟨_, rfl⟩
              rw [← hwa]
              have HBA := Lib.hid (show But (fun y => y = q) wr wa from by rw [hwa]; exact (show But (fun y => y = q) wr (wr.setCell ⟨q, k, none⟩ (.bool true)) from but_one _).drew)
              have HMA := Lib.hid (show RmAt wa g ((wr1 x k y).put 1 k true) F from by rw [hwa]; exact HSET.out.below (Below.refl _ _).drew)
              have HXA := Lib.hid (X.out.but HBA.out (fun e => HNF.out (by rw [e]; exact HFQ.out)))
              have HTA := Lib.hid (BT.out.trans (HBA.out.mono (fun y hy => by rw [hy]; exact HFQ.out)))
              have c2 : wa.cell? ⟨g, 3, none⟩ = some (.bool true) := by rw [hwa]; exact cell_other (w := wr) HC2.out (fun e => HQG.out e.symm)
              clear hwa HBA HSET D0 D1 X M BT HC4 HC2
              go_wp2_with fail
              go_roundw
              case rel => exact ⟨2, (wr2 x k y), rfl, (by rw [show (wr2 x k y) = (wr1 x k y).put 1 k true from by rw [wr2, ← O1.out, Md.wd, show ((wr1 x k y).put 1 k true).o 1 = true from by show (wr1 x k y).o1 = true; rw [(wr1_o x k y).2.1, ← O1.out], if_pos rfl]]; exact HMA.out), HTA.out, HXA.out, .inr (.inr ⟨rfl, rfl⟩)⟩
              case measure => simp [intOf]
            · have M0 := Lib.hid (show RmAt wr g (wr2 x k y) F from by rw [← hs]; exact M.out)
              clear hs M
              go_wp2_with fail
              go_ret
              exact ⟨rfl, by rw [HRX.out]; exact M0.out, BT.out⟩
      · cases o1
        · go_wp2_with fail
          go_loopw [7] (fun i wr => ∃ (j : Nat) (x' : Md), i = .int .i64 j ∧ RmAt wr g x' F ∧ But F w wr ∧ Blk wr b (bva y) 38 ∧ ((j = 0 ∧ x' = x) ∨ (j = 1 ∧ x' = wr1 x k y) ∨ (j = 2 ∧ x' = wr2 x k y))) (fun i _ => 2 - (intOf i).toNat)
          case atStart => exact ⟨0, x, rfl, H1.out, HB1.out, X1.out, .inl ⟨rfl, rfl⟩⟩
          case round =>
            clear H1 X1 HB1
            obtain ⟨j, x', rfl, hm, hbt, hx, hj⟩ := hrel
            have M := Lib.hid hm
            have BT := Lib.hid hbt
            have X := Lib.hid hx
            clear hm hbt hx
            rcases hj with ⟨rfl, hs⟩ | ⟨rfl, hs⟩ | ⟨rfl, hs⟩
            · have M0 := Lib.hid (show RmAt wr g x F from by rw [← hs]; exact M.out)
              clear M hs
              have M := Lib.hid M0.out
              clear M0
              have hxa : k < x.a.length := by exact HK.out
              obtain ⟨q, n', j', hc4, hkn, hnj, hjm, hcq, hfq, hqg, hFq, hql, hset⟩ := M.out.mark0 hxa
              have HC4 := Lib.hid hc4
              have HC2 := Lib.hid (show wr.cell? ⟨g, 2, none⟩ = some (.bool true) from by
                have h := M.out.out0
                rw [show x.o0 = true by rw [← O0.out]] at h
                exact h)
              have HSET := Lib.hid (hset true)
              have HQG := Lib.hid hqg
              have HFQ := Lib.hid hFq
              have HQL := Lib.hid hql
              have kn1 : (k : Int) < (n' : Int) := by omega
              have D0 : wr.drew.cell? ⟨q, k, none⟩ = some (.bool (x.a.getD k false)) := hcq
              have D1 : wr.drew.frozen? ⟨q, k, none⟩ = false := hfq
              obtain ⟨bq, hbq⟩ : ∃ bq, bq = x.a.getD k false := ⟨_, rfl⟩
              rw [← hbq] at D0
              clear hc4 hkn hcq hfq hqg hFq hql hset hbq hxa hjm
              go_upto_region 8 with fail
              refine wp_region_held_drew (S := fun w' => w'.cell? ⟨g, 4, none⟩ = some (.slice (some ⟨q, 0, none⟩) n' j') ∧ w'.cell? ⟨g, 2, none⟩ = some (.bool true)) (by kernel_rfl) ⟨HC4.out, HC2.out⟩ (fun hh => ?_)
              have HH := Lib.hid hh
              clear hh
              refine wpAnyH_take (i := 0) (v := ?vW0tf0) rfl (by kernel_rfl) (by kernel_rfl) (by kernel_rfl) (fun _ _ _ h => h) (Or.inl ⟨by rfl, fun w' _ => ?yW0tf0⟩) HH.out ?_
              case yW0tf0 => (go_simp; try with_reducible rfl)
              refine wpAnyH_take (i := 1) (v := ?vW0tf1) rfl (by kernel_rfl) (by kernel_rfl) (by kernel_rfl) (fun _ _ _ h => h) (Or.inl ⟨by rfl, fun w' _ => ?yW0tf1⟩) HH.out ?_
              case yW0tf1 => (go_simp; try with_reducible rfl)
              try simp only [List.getElem_toArray, List.getElem_cons_succ, List.getElem_cons_zero, Act.put, List.setIfInBounds_toArray, List.set_cons_zero, List.set_cons_succ]
              refine wpAnyH_take (i := 2) (v := ?vW0tf2) rfl (by kernel_rfl) (by kernel_rfl) (by kernel_rfl) (fun _ _ _ h => h) (Or.inl ⟨by rfl, fun w' _ => ?yW0tf2⟩) HH.out ?_
              case yW0tf2 => (go_simp; try with_reducible rfl)
              refine wpAnyH_take (i := 3) (v := ?vW0tf3) rfl (by kernel_rfl) (by kernel_rfl) (by kernel_rfl) (fun _ _ _ h => h) (Or.inl ⟨by rfl, fun w' _ => ?yW0tf3⟩) HH.out ?_
              case yW0tf3 => (go_simp; try with_reducible rfl)
              refine wpAnyH_take (i := 4) (v := ?vW0tf4) rfl (by kernel_rfl) (by kernel_rfl) (by kernel_rfl) (fun _ _ _ h => h) (Or.inl ⟨by rfl, fun w' _ => ?yW0tf4⟩) HH.out ?_
              case yW0tf4 => (go_simp; try with_reducible rfl)
              try simp only [List.getElem_toArray, List.getElem_cons_succ, List.getElem_cons_zero, Act.put, List.setIfInBounds_toArray, List.set_cons_zero, List.set_cons_succ]
              try simp only [List.getElem_toArray, List.getElem_cons_succ, List.getElem_cons_zero, Act.put, List.setIfInBounds_toArray, List.set_cons_zero, List.set_cons_succ]
              refine wpAnyH_take (i := 5) (v := .slice (some ⟨q, 0, none⟩) n' j') rfl (by kernel_rfl) (by kernel_rfl) (by kernel_rfl) (fun _ _ _ h => h) (Or.inl ⟨by rfl, fun w' hw' => ?yW0tf5⟩) HH.out ?_
              case yW0tf5 => (have hc := hw'.1; go_simp; try with_reducible rfl)
              refine wpAnyH_take (i := 6) (v := ?vW0tf6) rfl (by kernel_rfl) (by kernel_rfl) (by kernel_rfl) (fun _ _ _ h => h) (Or.inl ⟨by rfl, fun w' _ => ?yW0tf6⟩) HH.out ?_
              case yW0tf6 => (go_simp; try with_reducible rfl)
              refine wpAnyH_take (i := 7) (v := ?vW0tf7) rfl (by kernel_rfl) (by kernel_rfl) (by kernel_rfl) (fun _ _ _ h => h) (Or.inl ⟨by rfl, fun w' _ => ?yW0tf7⟩) HH.out ?_
              case yW0tf7 => (go_simp; try with_reducible rfl)
              try simp only [List.getElem_toArray, List.getElem_cons_succ, List.getElem_cons_zero, Act.put, List.setIfInBounds_toArray, List.set_cons_zero, List.set_cons_succ]
              refine wpAnyH_take (i := 8) (v := ?vW0tf8) rfl (by kernel_rfl) (by kernel_rfl) (by kernel_rfl) (fun _ _ _ h => h) (Or.inl ⟨by rfl, fun w' _ => ?yW0tf8⟩) HH.out ?_
              case yW0tf8 => (go_simp; try with_reducible rfl)
              refine wpAnyH_take (i := 9) (v := ?vW0tf9) rfl (by kernel_rfl) (by kernel_rfl) (by kernel_rfl) (fun _ _ _ h => h) (Or.inl ⟨by rfl, fun w' _ => ?yW0tf9⟩) HH.out ?_
              case yW0tf9 => (go_simp; try with_reducible rfl)
              refine wpAnyH_take (i := 10) (v := ?vW0tf10) rfl (by kernel_rfl) (by kernel_rfl) (by kernel_rfl) (fun _ _ _ h => h) (Or.inl ⟨by rfl, fun w' _ => ?yW0tf10⟩) HH.out ?_
              case yW0tf10 => (go_simp; try with_reducible rfl)
              try simp only [List.getElem_toArray, List.getElem_cons_succ, List.getElem_cons_zero, Act.put, List.setIfInBounds_toArray, List.set_cons_zero, List.set_cons_succ]
              refine wpAnyH_take (i := 11) (v := ?vW0tf11) rfl (by kernel_rfl) (by kernel_rfl) (by kernel_rfl) (fun _ _ _ h => h) (Or.inl ⟨by rfl, fun w' _ => ?yW0tf11⟩) HH.out ?_
              case yW0tf11 => (go_simp; try with_reducible rfl)
              try simp only [List.getElem_toArray, List.getElem_cons_succ, List.getElem_cons_zero, Act.put, List.setIfInBounds_toArray, List.set_cons_zero, List.set_cons_succ]
              refine wpAnyH_take (i := 12) (v := .bool true) rfl (by kernel_rfl) (by kernel_rfl) (by kernel_rfl) (fun _ _ _ h => h) (Or.inl ⟨by rfl, fun w' hw' => ?yW0tf12⟩) HH.out ?_
              case yW0tf12 => (have hc := hw'.2; go_simp; try with_reducible rfl)
              refine wpAnyH_take (i := 13) (v := ?vW0tf13) rfl (by kernel_rfl) (by kernel_rfl) (by kernel_rfl) (fun _ _ _ h => h) (Or.inl ⟨by rfl, fun w' _ => ?yW0tf13⟩) HH.out ?_
              case yW0tf13 => (go_simp; try with_reducible rfl)
              try simp only [List.getElem_toArray, List.getElem_cons_succ, List.getElem_cons_zero, Act.put, List.setIfInBounds_toArray, List.set_cons_zero, List.set_cons_succ]
              try simp only [List.getElem_toArray, List.getElem_cons_succ, List.getElem_cons_zero, Act.put, List.setIfInBounds_toArray, List.set_cons_zero, List.set_cons_succ]
              refine wpAnyH_ready (rs := [14]) (by kernel_rfl) (by simp) (AllReadyH.cons rfl (fun K hK => ?_) AllReadyH.nil)
              go_simp
              refine hK.out _ _ ⟨?kp0, ?kp1⟩ (fun hh => ?_)
              case kp0 => exact (cell_other (show wr.drew.cell? ⟨g, 4, none⟩ = _ from HC4.out) (fun e => HQG.out e.symm))
              case kp1 => exact (cell_other (show wr.drew.cell? ⟨g, 2, none⟩ = _ from HC2.out) (fun e => HQG.out e.symm))
              clear hh hK K HH
              try simp only [List.getElem_toArray, List.getElem_cons_succ, List.getElem_cons_zero, Act.put, List.setIfInBounds_toArray, List.set_cons_zero, List.set_cons_succ]
              refine wpAnyH_done (by kernel_rfl) ?_ _
              obtain ⟨wa, hwa⟩ : ∃ wa, wa = World.drew (World.setCell wr ⟨q, k, none⟩ (.bool true)) := ⟨_, rfl⟩
              rw [← hwa]
              have HBA := Lib.hid (show But (fun y => y = q) wr wa from by rw [hwa]; exact (show But (fun y => y = q) wr (wr.setCell ⟨q, k, none⟩ (.bool true)) from but_one _).drew)
              have HMA := Lib.hid (show RmAt wa g (x.put 0 k true) F from by rw [hwa]; exact HSET.out.below (Below.refl _ _).drew)
              have HXA := Lib.hid (X.out.but HBA.out (fun e => HNF.out (by rw [e]; exact HFQ.out)))
              have HTA := Lib.hid (BT.out.trans (HBA.out.mono (fun y hy => by rw [hy]; exact HFQ.out)))
              have c2 : wa.cell? ⟨g, 2, none⟩ = some (.bool true) := by rw [hwa]; exact cell_other (w := wr) HC2.out (fun e => HQG.out e.symm)
              clear hwa HBA HSET D0 D1 X M BT HC4 HC2
              go_wp2_with fail
              go_roundw
              case rel => exact ⟨1, (wr1 x k y), rfl, (by rw [show (wr1 x k y) = x.put 0 k true from by rw [wr1, ← O0.out, Md.wd, show (x.put 0 k true).o 0 = true from O0.out.symm, if_pos rfl]]; exact HMA.out), HTA.out, HXA.out, .inr (.inl ⟨rfl, rfl⟩)⟩
              case measure => simp [intOf]
            · have M0 := Lib.hid (show RmAt wr g (wr1 x k y) F from by rw [← hs]; exact M.out)
              clear M hs
              have M := Lib.hid M0.out
              clear M0
              have hxa : k < (wr1 x k y).a.length := by rw [(wr1_o x k y).2.2]; exact HK.out
              obtain ⟨q, n', j', hc4, hkn, hnj, hjm, hcq, hfq, hqg, hFq, hql, hset⟩ := M.out.mark1 hxa
              have HC4 := Lib.hid hc4
              have HC2 := Lib.hid (show wr.cell? ⟨g, 3, none⟩ = some (.bool false) from by
                have h := M.out.out1
                rw [show (wr1 x k y).o1 = false by rw [(wr1_o x k y).2.1, ← O1.out]] at h
                exact h)
              have HSET := Lib.hid (hset false)
              have HQG := Lib.hid hqg
              have HFQ := Lib.hid hFq
              have HQL := Lib.hid hql
              have kn1 : (k : Int) < (n' : Int) := by omega
              have D0 : wr.drew.cell? ⟨q, k, none⟩ = some (.bool ((wr1 x k y).b.getD k false)) := hcq
              have D1 : wr.drew.frozen? ⟨q, k, none⟩ = false := hfq
              obtain ⟨bq, hbq⟩ : ∃ bq, bq = (wr1 x k y).b.getD k false := ⟨_, rfl⟩
              rw [← hbq] at D0
              clear hc4 hkn hcq hfq hqg hFq hql hset hbq hxa hjm
              go_upto_region 8 with fail
              refine wp_region_held_drew (S := fun w' => w'.cell? ⟨g, 5, none⟩ = some (.slice (some ⟨q, 0, none⟩) n' j') ∧ w'.cell? ⟨g, 3, none⟩ = some (.bool false)) (by kernel_rfl) ⟨HC4.out, HC2.out⟩ (fun hh => ?_)
              have HH := Lib.hid hh
              clear hh
              refine wpAnyH_take (i := 0) (v := ?vW1tf0) rfl (by kernel_rfl) (by kernel_rfl) (by kernel_rfl) (fun _ _ _ h => h) (Or.inl ⟨by rfl, fun w' _ => ?yW1tf0⟩) HH.out ?_
              case yW1tf0 => (go_simp; try with_reducible rfl)
              refine wpAnyH_take (i := 1) (v := ?vW1tf1) rfl (by kernel_rfl) (by kernel_rfl) (by kernel_rfl) (fun _ _ _ h => h) (Or.inl ⟨by rfl, fun w' _ => ?yW1tf1⟩) HH.out ?_
              case yW1tf1 => (go_simp; try with_reducible rfl)
              try simp only [List.getElem_toArray, List.getElem_cons_succ, List.getElem_cons_zero, Act.put, List.setIfInBounds_toArray, List.set_cons_zero, List.set_cons_succ]
              refine wpAnyH_take (i := 2) (v := ?vW1tf2) rfl (by kernel_rfl) (by kernel_rfl) (by kernel_rfl) (fun _ _ _ h => h) (Or.inl ⟨by rfl, fun w' _ => ?yW1tf2⟩) HH.out ?_
              case yW1tf2 => (go_simp; try with_reducible rfl)
              refine wpAnyH_take (i := 3) (v := ?vW1tf3) rfl (by kernel_rfl) (by kernel_rfl) (by kernel_rfl) (fun _ _ _ h => h) (Or.inl ⟨by rfl, fun w' _ => ?yW1tf3⟩) HH.out ?_
              case yW1tf3 => (go_simp; try with_reducible rfl)
              refine wpAnyH_take (i := 4) (v := ?vW1tf4) rfl (by kernel_rfl) (by kernel_rfl) (by kernel_rfl) (fun _ _ _ h => h) (Or.inl ⟨by rfl, fun w' _ => ?yW1tf4⟩) HH.out ?_
              case yW1tf4 => (go_simp; try with_reducible rfl)
              try simp only [List.getElem_toArray, List.getElem_cons_succ, List.getElem_cons_zero, Act.put, List.setIfInBounds_toArray, List.set_cons_zero, List.set_cons_succ]
              try simp only [List.getElem_toArray, List.getElem_cons_succ, List.getElem_cons_zero, Act.put, List.setIfInBounds_toArray, List.set_cons_zero, List.set_cons_succ]
              refine wpAnyH_take (i := 5) (v := .slice (some ⟨q, 0, none⟩) n' j') rfl (by kernel_rfl) (by kernel_rfl) (by kernel_rfl) (fun _ _ _ h => h) (Or.inl ⟨by rfl, fun w' hw' => ?yW1tf5⟩) HH.out ?_
              case yW1tf5 => (have hc := hw'.1; go_simp; try with_reducible rfl)
              refine wpAnyH_take (i := 6) (v := ?vW1tf6) rfl (by kernel_rfl) (by kernel_rfl) (by kernel_rfl) (fun _ _ _ h => h) (Or.inl ⟨by rfl, fun w' _ => ?yW1tf6⟩) HH.out ?_
              case yW1tf6 => (go_simp; try with_reducible rfl)
              refine wpAnyH_take (i := 7) (v := ?vW1tf7) rfl (by kernel_rfl) (by kernel_rfl) (by kernel_rfl) (fun _ _ _ h => h) (Or.inl ⟨by rfl, fun w' _ => ?yW1tf7⟩) HH.out ?_
              case yW1tf7 => (go_simp; try with_reducible rfl)
              try simp only [List.getElem_toArray, List.getElem_cons_succ, List.getElem_cons_zero, Act.put, List.setIfInBounds_toArray, List.set_cons_zero, List.set_cons_succ]
              refine wpAnyH_take (i := 8) (v := ?vW1tf8) rfl (by kernel_rfl) (by kernel_rfl) (by kernel_rfl) (fun _ _ _ h => h) (Or.inl ⟨by rfl, fun w' _ => ?yW1tf8⟩) HH.out ?_
              case yW1tf8 => (go_simp; try with_reducible rfl)
              refine wpAnyH_take (i := 9) (v := ?vW1tf9) rfl (by kernel_rfl) (by kernel_rfl) (by kernel_rfl) (fun _ _ _ h => h) (Or.inl ⟨by rfl, fun w' _ => ?yW1tf9⟩) HH.out ?_
              case yW1tf9 => (go_simp; try with_reducible rfl)
              refine wpAnyH_take (i := 10) (v := ?vW1tf10) rfl (by kernel_rfl) (by kernel_rfl) (by kernel_rfl) (fun _ _ _ h => h) (Or.inl ⟨by rfl, fun w' _ => ?yW1tf10⟩) HH.out ?_
              case yW1tf10 => (go_simp; try with_reducible rfl)
              try simp only [List.getElem_toArray, List.getElem_cons_succ, List.getElem_cons_zero, Act.put, List.setIfInBounds_toArray, List.set_cons_zero, List.set_cons_succ]
              refine wpAnyH_take (i := 11) (v := ?vW1tf11) rfl (by kernel_rfl) (by kernel_rfl) (by kernel_rfl) (fun _ _ _ h => h) (Or.inl ⟨by rfl, fun w' _ => ?yW1tf11⟩) HH.out ?_
              case yW1tf11 => (go_simp; try with_reducible rfl)
              try simp only [List.getElem_toArray, List.getElem_cons_succ, List.getElem_cons_zero, Act.put, List.setIfInBounds_toArray, List.set_cons_zero, List.set_cons_succ]
              refine wpAnyH_take (i := 12) (v := .bool false) rfl (by kernel_rfl) (by kernel_rfl) (by kernel_rfl) (fun _ _ _ h => h) (Or.inl ⟨by rfl, fun w' hw' => ?yW1tf12⟩) HH.out ?_
              case yW1tf12 => (have hc := hw'.2; go_simp; try with_reducible rfl)
              refine wpAnyH_take (i := 13) (v := ?vW1tf13) rfl (by kernel_rfl) (by kernel_rfl) (by kernel_rfl) (fun _ _ _ h => h) (Or.inl ⟨by rfl, fun w' _ => ?yW1tf13⟩) HH.out ?_
              case yW1tf13 => (go_simp; try with_reducible rfl)
              try simp only [List.getElem_toArray, List.getElem_cons_succ, List.getElem_cons_zero, Act.put, List.setIfInBounds_toArray, List.set_cons_zero, List.set_cons_succ]
              try simp only [List.getElem_toArray, List.getElem_cons_succ, List.getElem_cons_zero, Act.put, List.setIfInBounds_toArray, List.set_cons_zero, List.set_cons_succ]
              refine wpAnyH_ready (rs := [14]) (by kernel_rfl) (by simp) (AllReadyH.cons rfl (fun K hK => ?_) AllReadyH.nil)
              go_simp
              refine hK.out _ _ ⟨?kp0, ?kp1⟩ (fun hh => ?_)
              case kp0 => exact (cell_other (show wr.drew.cell? ⟨g, 5, none⟩ = _ from HC4.out) (fun e => HQG.out e.symm))
              case kp1 => exact (cell_other (show wr.drew.cell? ⟨g, 3, none⟩ = _ from HC2.out) (fun e => HQG.out e.symm))
              clear hh hK K HH
              try simp only [List.getElem_toArray, List.getElem_cons_succ, List.getElem_cons_zero, Act.put, List.setIfInBounds_toArray, List.set_cons_zero, List.set_cons_succ]
              refine wpAnyH_done (by kernel_rfl) ?_ _
              obtain ⟨wa, hwa⟩ : ∃ wa, wa = World.drew (World.setCell wr ⟨q, k, none⟩ (.bool false)) := ⟨_, rfl⟩
              rw [← hwa]
              have HBA := Lib.hid (show But (fun y => y = q) wr wa from by rw [hwa]; exact (show But (fun y => y = q) wr (wr.setCell ⟨q, k, none⟩ (.bool false)) from but_one _).drew)
              have HMA := Lib.hid (show RmAt wa g ((wr1 x k y).put 1 k false) F from by rw [hwa]; exact HSET.out.below (Below.refl _ _).drew)
              have HXA := Lib.hid (X.out.but HBA.out (fun e => HNF.out (by rw [e]; exact HFQ.out)))
              have HTA := Lib.hid (BT.out.trans (HBA.out.mono (fun y hy => by rw [hy]; exact HFQ.out)))
              have c2 : wa.cell? ⟨g, 3, none⟩ = some (.bool false) := by rw [hwa]; exact cell_other (w := wr) HC2.out (fun e => HQG.out e.symm)
              clear hwa HBA HSET D0 D1 X M BT HC4 HC2
              have hxb : k < ((wr1 x k y).put 1 k false).a.length := by show k < (wr1 x k y).a.length; rw [(wr1_o x k y).2.2]; exact HK.out
              obtain ⟨u, n2, j2, hc0, hkn2, hnj2, hjm2, _, _, hth, hug, hFu, hul, _, hset2⟩ := HMA.out.sect1 hxb
              have HC0 := Lib.hid hc0
              have HTH := Lib.hid (show wa.drew.there u (k * 128) 128 from hth)
              have HSET2 := Lib.hid (hset2 y HY3.out)
              have HUG := Lib.hid hug
              have HFU := Lib.hid hFu
              have kn2 : (k : Int) < (n2 : Int) := by omega
              clear hc0 hkn2 hth hug hFu hul hset2 hxb hjm2
              go_upto_region 10 with fail
              refine wp_region_held_drew (S := fun w' => w'.cell? ⟨g, 1, none⟩ = some (.slice (some ⟨u, 0, none⟩) n2 j2) ∧ Blk w' b (bva y) 38) (by kernel_rfl) ⟨HC0.out, (show Blk _ _ _ _ from HXA.out)⟩ (fun hh => ?_)
              have HH := Lib.hid hh
              clear hh
              refine wpAnyH_take (i := 0) (v := ?vW1tfs0) rfl (by kernel_rfl) (by kernel_rfl) (by kernel_rfl) (fun _ _ _ h => h) (Or.inl ⟨by rfl, fun w' _ => ?yW1tfs0⟩) HH.out ?_
              case yW1tfs0 => (go_simp; try with_reducible rfl)
              refine wpAnyH_take (i := 1) (v := ?vW1tfs1) rfl (by kernel_rfl) (by kernel_rfl) (by kernel_rfl) (fun _ _ _ h => h) (Or.inl ⟨by rfl, fun w' _ => ?yW1tfs1⟩) HH.out ?_
              case yW1tfs1 => (go_simp; try with_reducible rfl)
              try simp only [List.getElem_toArray, List.getElem_cons_succ, List.getElem_cons_zero, Act.put, List.setIfInBounds_toArray, List.set_cons_zero, List.set_cons_succ]
              refine wpAnyH_take (i := 2) (v := ?vW1tfs2) rfl (by kernel_rfl) (by kernel_rfl) (by kernel_rfl) (fun _ _ _ h => h) (Or.inl ⟨by rfl, fun w' _ => ?yW1tfs2⟩) HH.out ?_
              case yW1tfs2 => (go_simp; try with_reducible rfl)
              refine wpAnyH_take (i := 3) (v := ?vW1tfs3) rfl (by kernel_rfl) (by kernel_rfl) (by kernel_rfl) (fun _ _ _ h => h) (Or.inl ⟨by rfl, fun w' _ => ?yW1tfs3⟩) HH.out ?_
              case yW1tfs3 => (go_simp; try with_reducible rfl)
              refine wpAnyH_take (i := 4) (v := ?vW1tfs4) rfl (by kernel_rfl) (by kernel_rfl) (by kernel_rfl) (fun _ _ _ h => h) (Or.inl ⟨by rfl, fun w' _ => ?yW1tfs4⟩) HH.out ?_
              case yW1tfs4 => (go_simp; try with_reducible rfl)
              try simp only [List.getElem_toArray, List.getElem_cons_succ, List.getElem_cons_zero, Act.put, List.setIfInBounds_toArray, List.set_cons_zero, List.set_cons_succ]
              try simp only [List.getElem_toArray, List.getElem_cons_succ, List.getElem_cons_zero, Act.put, List.setIfInBounds_toArray, List.set_cons_zero, List.set_cons_succ]
              refine wpAnyH_take (i := 5) (v := .slice (some ⟨u, 0, none⟩) n2 j2) rfl (by kernel_rfl) (by kernel_rfl) (by kernel_rfl) (fun _ _ _ h => h) (Or.inl ⟨by rfl, fun w' hw' => ?yW1tfs5⟩) HH.out ?_
              case yW1tfs5 => (have hc := hw'.1; go_simp; try with_reducible rfl)
              refine wpAnyH_take (i := 6) (v := ?vW1tfs6) rfl (by kernel_rfl) (by kernel_rfl) (by kernel_rfl) (fun _ _ _ h => h) (Or.inl ⟨by rfl, fun w' _ => ?yW1tfs6⟩) HH.out ?_
              case yW1tfs6 => (go_simp; try with_reducible rfl)
              try simp only [List.getElem_toArray, List.getElem_cons_succ, List.getElem_cons_zero, Act.put, List.setIfInBounds_toArray, List.set_cons_zero, List.set_cons_succ]
              refine wpAnyH_take (i := 7) (v := .agg (bva y)) rfl (by kernel_rfl) (by kernel_rfl) (by kernel_rfl) (fun _ _ _ h => h) (Or.inl ⟨by rfl, fun w' hw' => ?yW1tfs7⟩) HH.out ?_
              case yW1tfs7 => exact exec_load 38 (.tmp 5) rfl rfl hw'.2 Try.underlying38 rfl HIY.out
              try simp only [List.getElem_toArray, List.getElem_cons_succ, List.getElem_cons_zero, Act.put, List.setIfInBounds_toArray, List.set_cons_zero, List.set_cons_succ]
              refine wpAnyH_take (i := 8) (v := ?vW1tfs8) rfl (by kernel_rfl) (by kernel_rfl) (by kernel_rfl) (fun _ _ _ h => h) (Or.inl ⟨by rfl, fun w' _ => ?yW1tfs8⟩) HH.out ?_
              case yW1tfs8 => (go_simp; try with_reducible rfl)
              try simp only [List.getElem_toArray, List.getElem_cons_succ, List.getElem_cons_zero, Act.put, List.setIfInBounds_toArray, List.set_cons_zero, List.set_cons_succ]
              refine wpAnyH_ready (rs := [9]) (by kernel_rfl) (by simp) (AllReadyH.cons rfl (fun K hK => ?_) AllReadyH.nil)
              rw [if_pos (by rfl)]
              refine wp_store_mid 38 (.tmp 57) (.tmp 56) rfl u (k * 128) (bva y) rfl rfl (by rw [bva_size, HY3.out]; exact HTH.out) HIY.out (bva_one _) ?_
              refine hK.out _ _ ⟨?kq0, ?kq1⟩ (fun hh => ?_)
              case kq0 => exact cells_other (show wa.drew.cell? ⟨g, 1, none⟩ = _ from HC0.out) (fun e => HUG.out e.symm)
              case kq1 => exact Blk.but (show Blk wa.drew b (bva y) 38 from HXA.out) (but_cells _ _ _ _) (fun e => HNF.out (by rw [show b = u from e]; exact HFU.out))
              clear hh hK K HH
              try simp only [List.getElem_toArray, List.getElem_cons_succ, List.getElem_cons_zero, Act.put]
              refine wpAnyH_done (by kernel_rfl) ?_ _
              obtain ⟨wb, hwb⟩ : ∃ wb, wb = World.setCells wa.drew u (k * 128) (bva y).toList := ⟨_, rfl⟩
              rw [← hwb]
              have HBB := Lib.hid (show But (fun y => y = u) wa wb from by rw [hwb]; exact (((But.refl wa).drew).trans (but_cells _ _ _ _)))
              have HMB := Lib.hid (show RmAt wb g (((wr1 x k y).put 1 k false).setL 1 k y) F from by rw [hwb]; exact rm_drewL HSET2.out)
              have HXB := Lib.hid (HXA.out.but HBB.out (fun e => HNF.out (by rw [show b = u from e]; exact HFU.out)))
              have HTB := Lib.hid (HTA.out.trans (HBB.out.mono (fun y hy => by rw [show y = u from hy]; exact HFU.out)))
              clear hwb HBB HSET2 HXA HMA HTA HC0 HTH c2
              go_wp2_with fail
              go_roundw
              case rel => exact ⟨2, (wr2 x k y), rfl, (by rw [show (wr2 x k y) = ((wr1 x k y).put 1 k false).setL 1 k y from by rw [wr2, ← O1.out, Md.wd, show ((wr1 x k y).put 1 k false).o 1 = false from by show (wr1 x k y).o1 = false; rw [(wr1_o x k y).2.1, ← O1.out], if_neg (by simp)]]; exact HMB.out), HTB.out, HXB.out, .inr (.inr ⟨rfl, rfl⟩)⟩
              case measure => simp [intOf]
            · have M0 := Lib.hid (show RmAt wr g (wr2 x k y) F from by rw [← hs]; exact M.out)
              clear hs M
              go_wp2_with fail
              go_ret
              exact ⟨rfl, by rw [HRX.out]; exact M0.out, BT.out⟩
        · exact absurd rfl hoo
end
end Go.Proofs.Ytdjiagcnaogebaa.Mr
/-
  The contracts of the reference's Good, the laws' Sector, the reference's Sectors.
-/
namespace Go.Proofs.Ytdjiagcnaogebaa.Mi
open Go.RowKit Kd
attribute [local go_sem ↓] Go.wp_at_zero Go.wp_at_succ
/-- The little rule by which the laws call sectors good. -/
def goodN (n : Int) (x : List UInt8) : Bool := (wrap64 (((x.getD 0 0).toNat : Int) + ((x.getD 1 0).toNat : Int) + n)).tmod 4 != 3
theorem byte_cell {w : World} {g : Nat} {x : List UInt8} {t : TypeId} (h : Blk w g (bva x) t) {j : Nat} (hj : j < x.length) : w.cell? ⟨g, j, none⟩ = some (.int .u8 ((x.getD j 0).toNat : Int)) := by
  rw [h.cell j, bva]
  show (bv x).toArray[j]? = _
  rw [List.getElem?_toArray, bv, List.getElem?_map, List.getElem?_eq_getElem hj, List.getD_eq_getElem?_getD, List.getElem?_eq_getElem hj]; rfl
set_option maxRecDepth 100000 in
set_option maxHeartbeats 3200000 in
theorem good_any (w : World) (n : Int) (x : List UInt8) (hx : x.length = 128) : Calls Try.prog 22 #[.int .i64 n, .agg (bva x)] w (RetB (.bool (goodN n x)) w) := by
  obtain ⟨w1, hw1⟩ : ∃ w1, w1 = w.alloc (.cells (bva x) 38) := ⟨_, rfl⟩
  have hb : Blk w1 w.heap.size (bva x) 38 := by rw [hw1]; exact heap_alloc_new _ _
  have B1 := Lib.hid (show Below w.heap.size w w1 from by rw [hw1]; exact (Below.refl _ _).alloc (Nat.le_refl _) _)
  have c0 := byte_cell hb (j := 0) (by omega)
  have c1 := byte_cell hb (j := 1) (by omega)
  obtain ⟨a, ha⟩ : ∃ a, a = (x.getD 0 0).toNat := ⟨_, rfl⟩
  obtain ⟨b, hb2⟩ : ∃ b, b = (x.getD 1 0).toNat := ⟨_, rfl⟩
  have a1 : a < 256 := by rw [ha]; exact UInt8.toNat_lt _
  have b1 : b < 256 := by rw [hb2]; exact UInt8.toNat_lt _
  have HV := Lib.hid (show goodN n x = ((wrap64 ((a : Int) + (b : Int) + n)).tmod 4 != 3) by rw [goodN, ha, hb2])
  rw [← ha] at c0
  rw [← hb2] at c1
  have wab : IntKind.i64.wrap ((a : Int) + (b : Int)) = ((a + b : Nat) : Int) := by rw [show (a : Int) + (b : Int) = ((a + b : Nat) : Int) by omega]; exact IntWalk.i64_in _ (by omega)
  have wa : IntKind.i64.wrap (a : Int) = (a : Int) := IntWalk.i64_in _ (by omega)
  have wb : IntKind.i64.wrap (b : Int) = (b : Int) := IntWalk.i64_in _ (by omega)
  rw [HV.out]
  clear hb hx ha hb2 HV
  go_enter Try.func22, Try.ntmps22
  go_upto_region 1 with fail
  rw [← hw1]
  clear hw1
  go_wp2_with fail
  go_ret
  exact ⟨rfl, B1.out⟩
theorem good_enter (args : Array Value) (W : World) : (callFunc 22 args).run Try.prog W = .ok (.enter 22 args) W := by kernel_rfl
set_option maxRecDepth 100000 in
def gG : Gd where
  k := some 22
  f := goodN
  R _ _ _ _ _ _ := True
  none_ h := by cases h
  enter k' h args W := by injection h with h; subst h; exact good_enter args W
  call k' h w n x _ hx := by injection h with h; subst h; exact good_any w n x hx
/-- A sector with two bytes ahead. -/
def secN (x y : UInt8) : List UInt8 := x :: y :: 9 :: List.replicate 125 0
theorem secN_length (x y : UInt8) : (secN x y).length = 128 := by simp [secN]
theorem good_sec (n : Int) (x y : UInt8) : goodN n (secN x y) = ((wrap64 ((x.toNat : Int) + (y.toNat : Int) + n)).tmod 4 != 3) := rfl
set_option maxRecDepth 100000 in
set_option maxHeartbeats 3200000 in
theorem sector9_any (w : World) (x y : UInt8) : Calls Try.prog 33 #[.int .u8 (x.toNat : Int), .int .u8 (y.toNat : Int)] w (RetB (.agg (bva (secN x y))) w) := by
  obtain ⟨z, hz0⟩ : ∃ z : List UInt8, z = zeroS := ⟨_, rfl⟩
  have hz : ∀ W, (zeroValue 38).run Try.prog W = .ok (.agg (bva z)) W := fun _ => by rw [hz0]; kernel_rfl
  have HZ3 := Lib.hid (show z.length = 128 by rw [hz0]; exact zeroS_length)
  obtain ⟨o, ho⟩ : ∃ o, o = secN x y := ⟨_, rfl⟩
  have HBS := Lib.hid (show ∀ W, (Instr.build 38 #[(0, .int .u8 (x.toNat : Int)), (1, .int .u8 (y.toNat : Int)), (2, .int .u8 9)]).run Try.prog W = .ok (.agg (bva o)) W from fun _ => by rw [ho]; kernel_rfl)
  have HO3 := Lib.hid (show o.length = 128 by rw [ho]; exact secN_length x y)
  have HI : Hid ((Try.prog.info? 38).map (·.size) = some (bva o).size) := by rw [bva_size, HO3.out]; exact info_sec
  have R0 := Lib.hid (show Blk (w.alloc (.cells (bva z) 38)) w.heap.size (bva z) 38 from heap_alloc_new _ _)
  rw [← ho]
  clear ho hz0
  go_enter Try.func33, Try.ntmps33
  go_wp2_with (first
    | (refine wpList_build rfl 38 #[(0, .tmp 5), (1, .tmp 6), (2, .const (.int .u8 9))] rfl (v := .agg (bva o)) ?hbld ?_; case hbld => (simp only [List.map_toArray, List.map_cons, List.map_nil]; exact HBS.out _))
    | (refine wpList_store_row rfl 38 (.tmp 4) (.tmp 7) rfl w.heap.size (bva o) rfl rfl 38 (bva z) R0.out HI.out (by rw [bva_size, bva_size, HO3.out, HZ3.out]) (bva_one _) ?_))
  exact bodyPost_ret (v := .agg (bva o)) (results_cell_row Try.results33 _ _ w.heap.size 38 (bva o) (0, 0) _ rfl (setRow_heap _ _ _ _ _ _ R0.out) Try.underlying38 rfl HI.out) rfl ⟨rfl, below_setRow ((Below.refl _ _).alloc (Nat.le_refl _) _) (Nat.le_refl _) _⟩
end Go.Proofs.Ytdjiagcnaogebaa.Mi
