/-
  Texts of this seat, one behind the other: MiSync, Open, KdDeed, KdLieP, MiBoth, MiRead, MiRepeat, MiNew, MiMd, MiMd2, MiMd3, MiLaw, MiGood, MiAwake, MuSee, MuMd, MuMd2, MuMd3, MuLaw, MuTorn, MuTornL, OpenA.
-/
import Derived.Deep.Slices
import Derived.OpenShut
import Derived.Laws.Bits64b
import Derived.OrdersHeld
import Derived.Deep.RegionHeld
import Derived.ProofKit
import Derived.Test.YtgfldfofiglefaaMf2
/-
  The contracts of catchUp and Sync.
-/
namespace Go.Proofs.Ytgfldfofiglefaa.Mi
open Go.RowKit Kd
attribute [local go_sem ↓] Go.wp_at_zero Go.wp_at_succ
section
variable {C : Duo} {G : Gd} {g : Nat} {w : World} {s : Mr C} {F : Nat → Prop}
/-- One place of a device catches up. -/
def Mr.catch1 (G : Gd) (s : Mr C) (i n : Nat) : Mr C := if (s.st i).getD n false && right C G s (1 - i) n then (s.mend i n (rightV C G s (1 - i) n)).2 else s
def Mr.catchTo (G : Gd) (s : Mr C) (i : Nat) : Nat → Mr C
  | 0 => s
  | n + 1 => (s.catchTo G i n).catch1 G i n
theorem mend_ok {k i n : Nat} {x : List UInt8} (h : s.ok k) : (s.mend i n x).2.ok k := by
  unfold Mr.mend; dsimp only; split
  · exact Mr.ok.put h
  · exact h
theorem mend_most {i n : Nat} {x : List UInt8} (hi : i < 2) : C.most (s.mend i n x).2.d ≤ C.most s.d + 1 := by
  unfold Mr.mend; dsimp only; split
  · rw [put_d]; exact C.wr_most hi
  · exact C.wr_most hi
theorem catch1_ok {k i n : Nat} (h : s.ok k) : (s.catch1 G i n).ok k := by
  unfold Mr.catch1; split
  · exact mend_ok h
  · exact h
theorem catch1_most {i n : Nat} (hi : i < 2) : C.most (s.catch1 G i n).d ≤ C.most s.d + 1 := by
  unfold Mr.catch1; split
  · exact mend_most hi
  · exact Nat.le_succ _
theorem catchTo_ok {k i : Nat} (h : s.ok k) : ∀ n, (s.catchTo G i n).ok k
  | 0 => h
  | n + 1 => catch1_ok (catchTo_ok h n)
theorem catchTo_most {i : Nat} (hi : i < 2) : ∀ n, C.most (s.catchTo G i n).d ≤ C.most s.d + n
  | 0 => Nat.le_refl _
  | n + 1 => Nat.le_trans (catch1_most hi) (by have := catchTo_most hi n; omega)
theorem pin_cell {A B : Option Addr} {n c m e : Nat} {w : World} {s : Mr C} (h : (ML C (G.at A n c B m e) g).At w s F) {i : Nat} (hi : i < 2) :
    w.cell? ⟨g, 2 + i, none⟩ = some (if i = 0 then .slice A n c else .slice B m e) ∧ (s.st i).length = (if i = 0 then n else m) := by
  obtain ⟨A', n', c', B', m', e', F1, h, _⟩ := h
  obtain ⟨rfl, rfl, rfl, rfl, rfl, rfl⟩ := h.pin
  rcases two hi with rfl | rfl
  · exact ⟨h.blk.cell 2, h.an⟩
  · exact ⟨h.blk.cell 3, h.bn⟩
set_option maxRecDepth 100000 in
set_option maxHeartbeats 12800000 in
theorem catch_any (h : (ML C G g).At w s F) {k : Nat} (hk : s.ok k) (hkm : k ≤ 5000) {i : Nat} (hi : i < 2) (hm : C.most s.d < 800000) : Calls Try.prog 87 #[.pointer (some ⟨g, 0, none⟩), .int .i64 i] w (RetA (ML C G g) (.tuple #[]) (s.catchTo G i k) F w) := by
  obtain ⟨A, n, c, B, m, e, hR, hp⟩ := ml_pin h
  obtain ⟨G', hG'⟩ : ∃ G', G' = G.at A n c B m e := ⟨_, rfl⟩
  have HUN := Lib.hid (show ∀ w' s' F', Mv (ML C G' g) w F w' s' F' → Mv (ML C G g) w F w' s' F' from fun _ _ _ h => mv_unpin hR (by rw [← hG']; exact h))
  have HCT := Lib.hid (show ∀ s n, Mr.catchTo (C := C) G' s i n = Mr.catchTo G s i n from fun s n => by rw [hG']; induction n with
    | zero => rfl
    | succ n ih => rw [Mr.catchTo, Mr.catchTo, ih]; rfl)
  obtain ⟨V, hV⟩ : ∃ V : Option Addr × Nat × Nat, V = if i = 0 then (A, n, c) else (B, m, e) := ⟨_, rfl⟩
  have HPC := Lib.hid (show ∀ w' s' F', (ML C G' g).At w' s' F' → w'.cell? ⟨g, 2 + i, none⟩ = some (.slice V.1 V.2.1 V.2.2) ∧ (s'.st i).length = V.2.1 from fun w' s' F' h => by
    rw [hG'] at h
    obtain ⟨h1, h2⟩ := pin_cell h hi
    rw [h1, h2, hV]
    rcases two hi with rfl | rfl
    · exact ⟨rfl, rfl⟩
    · exact ⟨rfl, rfl⟩)
  rw [← hG'] at hp
  obtain ⟨D, N, j⟩ := V
  have hc2 := (HPC.out _ _ _ hp).1
  obtain rfl : k = N := by rw [← hk.st (i := i)]; exact (HPC.out _ _ _ hp).2
  have HK := Lib.hid hk
  have HI := Lib.hid hi
  have HM := Lib.hid hm
  have HKM := Lib.hid hkm
  have M0 := Lib.hid (Mv.start hp)
  have i0 : (0 : Int) ≤ (i : Int) := by omega
  have i1 : (i : Int) < 2 := by omega
  have w1i : IntKind.i64.wrap (1 - (i : Int)) = ((1 - i : Nat) : Int) := by rw [show (1 : Int) - (i : Int) = ((1 - i : Nat) : Int) by omega]; exact IntWalk.i64_in _ (by omega)
  obtain ⟨z, hz0⟩ : ∃ z : List UInt8, z = zeroS := ⟨_, rfl⟩
  have hz : ∀ W, (zeroValue 38).run Try.prog W = .ok (.agg (bva z)) W := fun _ => by rw [hz0]; kernel_rfl
  have HZ3 := Lib.hid (show z.length = 128 by rw [hz0]; exact zeroS_length)
  clear hz0 hk hkm hm hi h hp hR hG' hV
  go_enter Try.func87, Try.ntmps87
  go_wp2_with fail
  go_loopw [15] (fun x wr => ∃ (p : Nat) (F' : Nat → Prop), p ≤ k ∧ x = .int .i64 p ∧ Mv (ML C G' g) w F wr (s.catchTo G' i p) F') (fun x _ => k - (intOf x).toNat)
  case atStart => exact ⟨0, F, Nat.zero_le _, rfl, M0.out⟩
  case round =>
    clear M0 hc2
    obtain ⟨p, F', hpk, rfl, hmv⟩ := hrel
    have M := Lib.hid hmv
    have HP := Lib.hid hpk
    clear hmv hpk
    by_cases hlt : p < k
    · have HPL := Lib.hid hlt
      obtain ⟨s1, hs1⟩ : ∃ s1, s1 = s.catchTo G' i p := ⟨_, rfl⟩
      have HO1 := Lib.hid (show s1.ok k by rw [hs1]; exact catchTo_ok HK.out p)
      have HM1 := Lib.hid (show C.most s1.d < 900000 by rw [hs1]; have := catchTo_most (G := G') (s := s) HI.out p; have := HM.out; have := HKM.out; omega)
      have HS1 := Lib.hid (show s.catchTo G' i (p + 1) = s1.catch1 G' i p by rw [hs1]; rfl)
      rw [← hs1] at M
      obtain ⟨q, k', j', hc, hk', hkj', hj', hq, _, _⟩ := ml_stale M.out.at_ HI.out (show p < (s1.st i).length by rw [HO1.out.st]; exact hlt)
      have hsl := (HPC.out _ _ _ M.out.at_).1
      rw [hc] at hsl
      injection hsl with hsl
      injection hsl with e1 e2 e3
      replace e1 : D = some ⟨q, 0, none⟩ := e1.symm
      replace e2 : k' = k := e2
      replace e3 : j' = j := e3
      subst e1 e2 e3
      have p0 : (0 : Int) ≤ (p : Int) := by omega
      have p1 : (p : Int) < (k' : Int) := by omega
      have wp1 : IntKind.i64.wrap ((p : Int) + 1) = ((p + 1 : Nat) : Int) := IntWalk.i64_in _ (by have := HKM.out; omega)
      obtain ⟨t, ht⟩ : ∃ t, t = (s1.st i).getD p false := ⟨_, rfl⟩
      rw [← ht] at hq
      have HT := Lib.hid ht
      clear hs1 hc hk' hkj' hj' hlt ht
      cases t
      · have HE := Lib.hid (show s.catchTo G' i (p + 1) = s1 by rw [HS1.out, Mr.catch1, ← HT.out, Bool.false_and, if_neg (by simp)])
        go_wp2_with fail
        go_roundw
        case rel => exact ⟨p + 1, F', HPL.out, by go_num, by rw [HE.out]; exact M.out⟩
        case measure => (have := HPL.out; simp [intOf]; omega)
      · have HR := Lib.hid (right_any M.out.at_ (i := 1 - i) (n := p) (by omega) (by rw [HO1.out.st]; exact HPL.out))
        obtain ⟨y, hy⟩ : ∃ y, y = rightV C G' s1 (1 - i) p := ⟨_, rfl⟩
        obtain ⟨o, ho⟩ : ∃ o, o = right C G' s1 (1 - i) p := ⟨_, rfl⟩
        have HY3 := Lib.hid (show y.length = 128 by rw [hy]; exact rightV_len M.out.at_ (by omega) p)
        have HIY : Hid ((Try.prog.info? 38).map (·.size) = some (bva y).size) := by rw [bva_size, HY3.out]; exact info_sec
        have HE0 := Lib.hid (show s.catchTo G' i (p + 1) = if o then (s1.mend i p y).2 else s1 by rw [HS1.out, Mr.catch1, ← HT.out, Bool.true_and, ho, hy])
        rw [← hy, ← ho] at HR
        clear hy ho HS1 HT
        go_wp2_with fail
        refine HR.out.mono ?_
        rintro e w2 ⟨rfl, bw⟩
        have M2 := Lib.hid (M.out.below bw)
        clear bw M HR hq
        go_wp2_with (show wpList _ _ _ ({ dst := none, op := .store 38 (.tmp 6) (.tmp 28), type := _, pos := _, after := _, guard := _ } :: _) _ _; apply Classical.byContradiction; intro hneg)
        refine hneg ?_
        clear hneg
        refine wpList_store_row rfl 38 (.tmp 6) (.tmp 28) rfl w2.heap.size (bva y) rfl rfl 38 (bva z) (heap_alloc_new _ _) HIY.out (by rw [bva_size, bva_size, HY3.out, HZ3.out]) (bva_one _) ?_
        obtain ⟨w3, hw3⟩ : ∃ w3, w3 = (w2.alloc (.cells (bva z) 38)).setRow w2.heap.size (bva y) := ⟨_, rfl⟩
        have hbw3 : Below w2.heap.size w2 w3 := by rw [hw3]; exact below_setRow ((Below.refl _ _).alloc (Nat.le_refl _) _) (Nat.le_refl _) _
        have BXw3 := Lib.hid (show Blk w3 w2.heap.size (bva y) 38 from by rw [hw3]; exact setRow_heap _ _ _ _ _ _ (heap_alloc_new _ _))
        rw [← hw3]
        clear hw3
        have M3 := Lib.hid (M2.out.below hbw3)
        clear hbw3 M2
        cases o
        · have HE := Lib.hid (show s.catchTo G' i (p + 1) = s1 by rw [HE0.out, if_neg (by simp)])
          go_wp2_with fail
          go_roundw
          case rel => exact ⟨p + 1, F', HPL.out, by go_num, by rw [HE.out]; exact M3.out⟩
          case measure => (have := HPL.out; simp [intOf]; omega)
        · have HE := Lib.hid (show s.catchTo G' i (p + 1) = (s1.mend i p y).2 by rw [HE0.out, if_pos rfl])
          have HME := Lib.hid (mend_any M3.out.at_ HI.out (n := p) (by rw [HO1.out.st]; exact HPL.out) y HY3.out (by have := HM1.out; omega))
          go_wp2_with (refine wpList_load_row rfl 38 (.tmp 6) rfl w2.heap.size rfl 38 (bva y) (0, 0) _ BXw3.out Try.underlying38 rfl HIY.out ?_)
          refine HME.out.mono ?_
          rintro e w4 ⟨rfl, F4, hm4⟩
          have M4 := Lib.hid (M3.out.trans hm4)
          clear hm4 M3 HME BXw3
          go_wp2_with fail
          go_roundw
          case rel => exact ⟨p + 1, F4, HPL.out, by go_num, by rw [HE.out]; exact M4.out⟩
          case measure => (have := HPL.out; simp [intOf]; omega)
    · obtain rfl : p = k := by have := HP.out; omega
      clear hlt
      go_wp2_with fail
      exact bodyPost_end (results_none Try.results87 _ _ _) rfl ⟨rfl, F', HUN.out _ _ _ (by rw [← HCT.out]; exact M.out)⟩
/-- What Sync makes of a mirror, and tells. -/
def Mr.caught (G : Gd) (s : Mr C) (k : Nat) : Mr C := (s.catchTo G 0 k).catchTo G 1 k
def Mr.sync (G : Gd) (s : Mr C) (k : Nat) : Int × Mr C :=
  if C.there s.d 0 && C.there s.d 1 then
    (if (s.caught G k).flushed = (true, true) then (if cnt (((s.caught G k).fl0 0).fl0 1).a = 0 ∧ cnt (((s.caught G k).fl0 0).fl0 1).b = 0 then 0 else 9) else 13, ((s.caught G k).fl0 0).fl0 1)
  else (13, s)
theorem sync_nil (w : World) : Calls Try.prog 33 #[.pointer none] w (RetB (.int .i64 13) w) := by
  go_enter Try.func33, Try.ntmps33
  go_wp2_with fail
  go_ret
  exact ⟨rfl, Below.refl _ _⟩
set_option maxRecDepth 100000 in
set_option maxHeartbeats 12800000 in
theorem sync_any (h : (ML C G g).At w s F) {k : Nat} (hk : s.ok k) (hkm : k ≤ 5000) (hm : C.most s.d < 700000) : Calls Try.prog 33 #[.pointer (some ⟨g, 0, none⟩)] w (RetA (ML C G g) (.int .i64 (s.sync G k).1) (s.sync G k).2 F w) := by
  have HK := Lib.hid hk
  have HM := Lib.hid hm
  have HKM := Lib.hid hkm
  obtain ⟨tt, htt⟩ : ∃ tt, tt = (C.there s.d 0 && C.there s.d 1) := ⟨_, rfl⟩
  have HW := Lib.hid (whole_any h)
  rw [← htt] at HW
  have M0 := Lib.hid (Mv.start h)
  obtain ⟨RV, hRV⟩ : ∃ RV, RV = s.sync G k := ⟨_, rfl⟩
  rw [← hRV]
  rw [Mr.sync, ← htt] at hRV
  have HRV := Lib.hid hRV
  clear hk hm hkm htt hRV h
  go_enter Try.func33, Try.ntmps33
  go_wp2_with fail
  refine HW.out.mono ?_
  rintro e w1 ⟨rfl, F1, hm1⟩
  have M1 := Lib.hid (M0.out.trans hm1)
  clear hm1 M0 HW
  cases tt with
  | false =>
    have HE := Lib.hid (show RV = (13, s) by rw [HRV.out, if_neg (by simp)])
    go_wp2_with fail
    go_ret
    exact ⟨by rw [HE.out]; rfl, F1, by rw [HE.out]; exact M1.out⟩
  | true =>
    have HRV2 := Lib.hid (show RV = _ from by rw [HRV.out, if_pos rfl])
    clear HRV
    go_wp2_with fail
    go_loopw [13] (fun x wr => ∃ (p : Nat) (F' : Nat → Prop) (s' : Mr C), x = .int .i64 p ∧ Mv (ML C G g) w F wr s' F' ∧ ((p = 0 ∧ s' = s) ∨ (p = 1 ∧ s' = s.catchTo G 0 k) ∨ (p = 2 ∧ s' = s.caught G k))) (fun x _ => 2 - (intOf x).toNat)
    case atStart => exact ⟨0, F1, s, rfl, M1.out, .inl ⟨rfl, rfl⟩⟩
    case round =>
      clear M1
      obtain ⟨p, F', s', rfl, hmv, hp⟩ := hrel
      have M := Lib.hid hmv
      clear hmv
      rcases hp with ⟨rfl, hs⟩ | ⟨rfl, hs⟩ | ⟨rfl, hs⟩
      · have HS := Lib.hid hs
        have HCA := Lib.hid (catch_any M.out.at_ (k := k) (by rw [hs]; exact HK.out) HKM.out (i := 0) (by omega) (by rw [hs]; have := HM.out; omega))
        clear hs
        go_wp2_with fail
        refine HCA.out.mono ?_
        rintro e w2 ⟨rfl, F2, hm2⟩
        have M2 := Lib.hid (M.out.trans hm2)
        clear hm2 M HCA
        go_wp2_with fail
        go_roundw
        case rel => exact ⟨1, F2, s'.catchTo G 0 k, rfl, M2.out, .inr (.inl ⟨rfl, by rw [HS.out]⟩)⟩
        case measure => simp [intOf]
      · have HS := Lib.hid hs
        have HCA := Lib.hid (catch_any M.out.at_ (k := k) (by rw [hs]; exact catchTo_ok HK.out k) HKM.out (i := 1) (by omega) (by rw [hs]; have := HM.out; have := HKM.out; have := catchTo_most (G := G) (s := s) (i := 0) (by omega) k; omega))
        clear hs
        go_wp2_with fail
        refine HCA.out.mono ?_
        rintro e w2 ⟨rfl, F2, hm2⟩
        have M2 := Lib.hid (M.out.trans hm2)
        clear hm2 M HCA
        go_wp2_with fail
        go_roundw
        case rel => exact ⟨2, F2, s'.catchTo G 1 k, rfl, M2.out, .inr (.inr ⟨rfl, by rw [HS.out]; rfl⟩)⟩
        case measure => simp [intOf]
      · subst hs
        obtain ⟨s2, hs2⟩ : ∃ s2, s2 = s.caught G k := ⟨_, rfl⟩
        obtain ⟨s3, hs3⟩ : ∃ s3, s3 = (s2.fl0 0).fl0 1 := ⟨_, rfl⟩
        obtain ⟨a, ha⟩ : ∃ a, a = s2.flushed.1 := ⟨_, rfl⟩
        obtain ⟨b, hb⟩ : ∃ b, b = s2.flushed.2 := ⟨_, rfl⟩
        rw [← hs2] at M HRV2
        have HEF := Lib.hid (each_flush M.out.at_)
        rw [← hs3] at HEF HRV2
        rw [← ha, ← hb] at HEF
        rw [show s2.flushed = (a, b) by rw [ha, hb]] at HRV2
        have hE : ∀ W, (Op.equalIn 10000 50 (.agg (two2 a b)) (.agg #[.bool true, .bool true])).run Try.prog W = .ok (a && b) W := fun W => by
          have h := eq_two a b true true W
          rwa [show ((a == true) && (b == true)) = (a && b) by cases a <;> cases b <;> rfl] at h
        obtain ⟨o, ho⟩ : ∃ o, o = (a && b) := ⟨_, rfl⟩
        rw [← ho] at hE
        have HRV3 := Lib.hid (show RV = (if o then (if cnt s3.a = 0 ∧ cnt s3.b = 0 then 0 else 9) else 13, s3) by rw [HRV2.out, ho]; cases a <;> cases b <;> rfl)
        clear hs2 hs3 ha hb ho HRV2
        go_wp2_with fail
        refine HEF.out.mono ?_
        rintro e w2 ⟨rfl, F2, hm2⟩
        have M2 := Lib.hid (M.out.trans hm2)
        clear hm2 M HEF
        cases o
        · have HE := Lib.hid (show RV = (13, s3) by rw [HRV3.out, if_neg (by simp)])
          go_wp2_with fail
          go_ret
          exact ⟨by rw [HE.out]; rfl, F2, by rw [HE.out]; exact M2.out⟩
        · have HST := Lib.hid (stale_any M2.out.at_)
          obtain ⟨x, hx⟩ : ∃ x, x = cnt s3.a := ⟨_, rfl⟩
          obtain ⟨y, hy⟩ : ∃ y, y = cnt s3.b := ⟨_, rfl⟩
          rw [← hx, ← hy] at HST HRV3
          clear hx hy
          go_wp2_with fail
          refine HST.out.mono ?_
          rintro e w3 ⟨rfl, bw⟩
          have M3 := Lib.hid (M2.out.below bw)
          clear bw M2 HST
          by_cases hx : x = 0
          · subst hx
            by_cases hy : y = 0
            · subst hy
              have HE := Lib.hid (show RV = (0, s3) by rw [HRV3.out, if_pos trivial, if_pos ⟨rfl, rfl⟩])
              go_wp2_with fail
              go_ret
              exact ⟨by rw [HE.out]; rfl, F2, by rw [HE.out]; exact M3.out⟩
            · have HE := Lib.hid (show RV = (9, s3) by rw [HRV3.out, if_pos trivial, if_neg (fun h => hy h.2)])
              have hyp : (0 : Int) < (y : Int) := by omega
              clear hy
              go_wp2_with fail
              go_ret
              exact ⟨by rw [HE.out]; rfl, F2, by rw [HE.out]; exact M3.out⟩
          · have HE := Lib.hid (show RV = (9, s3) by rw [HRV3.out, if_pos trivial, if_neg (fun h => hx h.1)])
            have hxp : (0 : Int) < (x : Int) := by omega
            clear hx
            go_wp2_with fail
            go_ret
            exact ⟨by rw [HE.out]; rfl, F2, by rw [HE.out]; exact M3.out⟩
end
end Go.Proofs.Ytgfldfofiglefaa.Mi
/-
  How arguments that came in are opened: a []byte, a slice of them, and so on, as what my words say of them.
-/
namespace Go.Proofs.Ytgfldfofiglefaa
open Go.RowKit Go.ChangeShapes Go.WideShapes

/-- The byte of a number. -/
def byteOf (n : Int) : UInt8 := UInt8.ofNat n.toNat
theorem byteOf_val {n : Int} (h : (Lit.int .u8 n).wf = true) : ((byteOf n).toNat : Int) = n := by
  have hb := bounds_u8 h
  unfold byteOf
  rw [UInt8.toNat_ofNat']
  omega

section
variable {H : Type} {enc : TypeId × Value → H} {P : Program} {w : World} {base : Nat} {spare : Nat → Bool} {held : Bool}

theorem isB_of_trod {t e fuel : Nat} {v : Value} {x : DataW H × List MemPlace} (ht : P.underlying t = some (.slice e)) (he : P.underlying e = some (.int .u8)) (hc : P.cellsOf e = 1)
    (h : DataW.trod enc P w base spare held fuel t [v] = some x) : ∃ l, IsB w.heap.size w v l := by
  rcases open_ints ht he hc h with ⟨hcs, _⟩ | ⟨a, len, cap, zs, hcs, _, hl, hm, hz, _, hcell, hwz⟩
  · simp only [List.cons.injEq, and_true] at hcs
    subst hcs
    exact ⟨[], none, 0, rfl, Nat.le_refl _, Nat.zero_le _, Rd.none⟩
  · simp only [List.cons.injEq, and_true] at hcs
    subst hcs
    have hlz : len ≤ zs.length := by rw [hz]; split <;> omega
    have hlen : ((zs.take len).map byteOf).length = len := by simp; omega
    refine ⟨(zs.take len).map byteOf, some a, cap, by rw [hlen], by omega, hm, fun k u hu => ?_⟩
    have hk : k < len := by
      have := (List.getElem?_eq_some_iff.1 hu).1
      rw [bv_length, hlen] at this
      exact this
    have hkz : k < zs.length := by omega
    have hg := hcell k hkz
    have hd : zs.getD k 0 = zs[k] := by simp [List.getD, hkz]
    have hw := hwz _ (List.getElem_mem hkz)
    have hb := World.block_lt_of_cell? _ _ hg
    rw [add_block] at hb
    refine ⟨a, rfl, hb, ?_⟩
    rw [hg, hd]
    have e2 : (bv ((zs.take len).map byteOf))[k]? = some (.int .u8 zs[k]) := by
      rw [bv_get (by rw [hlen]; exact hk)]
      simp only [List.getElem_map, List.getElem_take]
      rw [byteOf_val hw]
    rw [← hu, e2]

theorem isL_of_trod {α : Type} {R : Value → α → Prop} {t e fuel : Nat} {v : Value} {x : DataW H × List MemPlace} (ht : P.underlying t = some (.slice e)) (hc : P.cellsOf e = 1)
    (each : ∀ (n : Nat) (u : Value) (y : DataW H × List MemPlace), DataW.trod enc P w base spare held n e [u] = some y → ∃ l, R u l)
    (h : DataW.trod enc P w base spare held fuel t [v] = some x) : ∃ ls, IsL w.heap.size w R v ls := by
  rcases Go.Deep.open_slice1 ht hc h with ⟨hcs, _⟩ | ⟨a, len, cap, m, n, V, D, Pl, hcs, _, hl, hm, hmm, _, hx⟩
  · simp only [List.cons.injEq, and_true] at hcs
    subst hcs
    exact ⟨[], none, 0, rfl, Nat.le_refl _, Nat.zero_le _, RdL.none⟩
  · simp only [List.cons.injEq, and_true] at hcs
    subst hcs
    have hlm : len ≤ m := by rw [hmm]; split <;> omega
    have hall : ∀ j, j ≤ len → ∃ ls : List α, ls.length = j ∧ ∀ (k : Nat) (l : α), ls[k]? = some l → R (V k) l := by
      intro j
      induction j with
      | zero => exact fun _ => ⟨[], rfl, fun k l hk => by simp at hk⟩
      | succ j ih =>
        intro hj
        obtain ⟨ls, hls, hR⟩ := ih (by omega)
        obtain ⟨l, hl'⟩ := each n (V j) _ (hx j (by omega)).2
        refine ⟨ls ++ [l], by simp [hls], fun k l' hk => ?_⟩
        rcases Nat.lt_trichotomy k j with hlt | rfl | hgt
        · rw [List.getElem?_append_left (by omega)] at hk
          exact hR k l' hk
        · rw [List.getElem?_append_right (by omega), hls, Nat.sub_self] at hk
          injection hk with hk
          subst hk
          exact hl'
        · rw [List.getElem?_eq_none (by simp; omega)] at hk
          cases hk
    obtain ⟨ls, hls, hR⟩ := hall len (Nat.le_refl _)
    refine ⟨ls, some a, cap, by rw [hls], by omega, hm, (List.range len).map V, by simp [hls], fun k u hu => ?_, fun k u l hu hl' => ?_⟩
    · have hk : k < len := by have := (List.getElem?_eq_some_iff.1 hu).1; simpa using this
      have hg := (hx k (by omega)).1
      have hb := World.block_lt_of_cell? _ _ hg
      rw [add_block] at hb
      have e2 : ((List.range len).map V)[k]? = some (V k) := by simp [hk]
      exact ⟨a, rfl, hb, by rw [hg, ← hu, e2]⟩
    · have hk : k < len := by have := (List.getElem?_eq_some_iff.1 hu).1; simpa using this
      have e2 : ((List.range len).map V)[k]? = some (V k) := by simp [hk]
      rw [e2] at hu
      injection hu with hu
      subst hu
      exact hR k l hl'

/-- A []byte that came in. -/
theorem open_bytes {t e : Nat} {a : Option Addr} {len cap : Nat} {d : DataW H} {ps : List MemPlace} (ht : P.underlying t = some (.slice e)) (he : P.underlying e = some (.int .u8)) (hc : P.cellsOf e = 1)
    (h : DataW.Trod enc P w base spare held t (.slice a len cap) d ps) : ∃ l : List UInt8, l.length = len ∧ len ≤ cap ∧ cap ≤ maxLen ∧ Rd w.heap.size w a (bv l) := by
  obtain ⟨fuel, hf⟩ := h
  obtain ⟨l, A, c, hv, h1, h2, h3⟩ := isB_of_trod ht he hc hf
  injection hv with e1 e2 e3
  subst e1; subst e2; subst e3
  exact ⟨l, rfl, h1, h2, h3⟩
/-- A [][]byte that came in. -/
theorem open_rows {t s e : Nat} {a : Option Addr} {len cap : Nat} {d : DataW H} {ps : List MemPlace} (ht : P.underlying t = some (.slice s)) (hs : P.underlying s = some (.slice e)) (he : P.underlying e = some (.int .u8))
    (hcs : P.cellsOf s = 1) (hc : P.cellsOf e = 1)
    (h : DataW.Trod enc P w base spare held t (.slice a len cap) d ps) : ∃ ls : List (List UInt8), ls.length = len ∧ len ≤ cap ∧ cap ≤ maxLen ∧ RdB w.heap.size w a ls := by
  obtain ⟨fuel, hf⟩ := h
  obtain ⟨ls, A, c, hv, h1, h2, h3⟩ := isL_of_trod (R := IsB w.heap.size w) ht hcs (fun _ _ _ hy => isB_of_trod hs he hc hy) hf
  injection hv with e1 e2 e3
  subst e1; subst e2; subst e3
  exact ⟨ls, rfl, h1, h2, h3⟩
/-- A [][][]byte that came in. -/
theorem open_rows3 {t r s e : Nat} {a : Option Addr} {len cap : Nat} {d : DataW H} {ps : List MemPlace} (ht : P.underlying t = some (.slice r)) (hr : P.underlying r = some (.slice s)) (hs : P.underlying s = some (.slice e)) (he : P.underlying e = some (.int .u8))
    (hcr : P.cellsOf r = 1) (hcs : P.cellsOf s = 1) (hc : P.cellsOf e = 1)
    (h : DataW.Trod enc P w base spare held t (.slice a len cap) d ps) : ∃ ls : List (List (List UInt8)), ls.length = len ∧ len ≤ cap ∧ cap ≤ maxLen ∧ RdL w.heap.size w (IsL w.heap.size w (IsB w.heap.size w)) a ls := by
  obtain ⟨fuel, hf⟩ := h
  obtain ⟨ls, A, c, hv, h1, h2, h3⟩ := isL_of_trod (R := IsL w.heap.size w (IsB w.heap.size w)) ht hcr (fun _ _ _ hy => isL_of_trod hr hcs (fun _ _ _ hz => isB_of_trod hs he hc hz) hy) hf
  injection hv with e1 e2 e3
  subst e1; subst e2; subst e3
  exact ⟨ls, rfl, h1, h2, h3⟩
end

end Go.Proofs.Ytgfldfofiglefaa
/-
  Deeds: how a row of them that came in is opened, and how one is read.
-/
namespace Go.Proofs.Ytgfldfofiglefaa.Kd
open Go.RowKit
/-- A deed: On, Kind, N, M, C. -/
structure Dd where
  on : Int
  kind : Int
  n : Int
  m : Int
  c : UInt8
def ddV (x : Dd) : List Value := [.int .i64 x.on, .int .i64 x.kind, .int .i64 x.n, .int .i64 x.m, .int .u8 (x.c.toNat : Int)]
def ddN : Dd := ⟨0, 0, 0, 0, 0⟩
def dds : List Dd → List Value
  | [] => []
  | x :: l => ddV x ++ dds l
theorem dds_append (a b : List Dd) : dds (a ++ b) = dds a ++ dds b := by
  induction a with
  | nil => rfl
  | cons x l ih => simp [dds, ih]
theorem ddV_length (x : Dd) : (ddV x).length = 5 := rfl
theorem dds_length (l : List Dd) : (dds l).length = l.length * 5 := by
  induction l with
  | nil => rfl
  | cons x l ih => rw [dds, List.length_append, ddV_length, ih, List.length_cons]; omega
theorem dds_get {l : List Dd} {k : Nat} (hk : k < l.length) {j : Nat} {v : Value} (hv : (ddV l[k])[j]? = some v) : (dds l)[5 * k + j]? = some v := by
  induction l generalizing k with
  | nil => simp at hk
  | cons x l ih =>
    cases k with
    | zero =>
      have hj : j < 5 := (List.getElem?_eq_some_iff.1 hv).1
      rw [dds, Nat.mul_zero, Nat.zero_add, List.getElem?_append_left (by rw [ddV_length]; omega)]
      exact hv
    | succ k =>
      rw [dds, List.getElem?_append_right (by rw [ddV_length]; omega), ddV_length, show 5 * (k + 1) + j - 5 = 5 * k + j by omega]
      exact ih (by simpa using hk) (by simpa using hv)
/-- All of a deed's numbers are numbers. -/
def Dd.ok (x : Dd) : Prop := (-9223372036854775808 ≤ x.on ∧ x.on ≤ 9223372036854775807) ∧ (-9223372036854775808 ≤ x.kind ∧ x.kind ≤ 9223372036854775807) ∧ (-9223372036854775808 ≤ x.n ∧ x.n ≤ 9223372036854775807) ∧ (-9223372036854775808 ≤ x.m ∧ x.m ≤ 9223372036854775807)
/-- A deed of a row, read. -/
theorem rd_deed {B : Nat} {w : World} {A : Option Addr} {l : List Dd} (h : Rd B w A (dds l)) {k : Nat} (hk : k < l.length) :
    ∃ ad, A = some ad ∧ ad.block < B ∧ ∀ j v, (ddV l[k])[j]? = some v → w.cell? ((ad.add (k * 5)).add j) = some v := by
  obtain ⟨ad, hA, hb, _⟩ := h _ _ (dds_get hk (j := 0) (v := .int .i64 l[k].on) rfl)
  refine ⟨ad, hA, hb, fun j v hv => ?_⟩
  obtain ⟨ad', hA', _, hc⟩ := h _ _ (dds_get hk hv)
  rw [hA] at hA'; injection hA' with hA'
  rw [hA', add_twice8, Nat.mul_comm k 5]
  exact hc
section
open Go.ChangeShapes Go.WideShapes
variable {H : Type} {enc : TypeId × Value → H} {w : World} {base : Nat} {spare : Nat → Bool} {held : Bool}
theorem deed_fields : (Try.prog.fieldsOf 36).toList.map (fun f => (f.name == "_", f.type, f.offset)) = [(false, 3, 0), (false, 3, 1), (false, 3, 2), (false, 3, 3), (false, 5, 4)] := by kernel_rfl
theorem deed_under : Try.prog.underlying 36 = some (.struct (Try.prog.fieldsOf 36)) := by kernel_rfl
set_option maxRecDepth 100000 in
theorem deed_of_trod {fuel : Nat} {cs : List Value} {x : DataW H × List MemPlace} (h : DataW.trod enc Try.prog w base spare held fuel 36 cs = some x) :
    ∃ y : Dd, cs = ddV y ∧ y.ok := by
  obtain ⟨xs, n, _, _, hl, hlen, hf⟩ := DataW.trod_struct deed_under h
  have hfs := deed_fields
  have hcn : Try.prog.cellsOf 36 = 5 := by kernel_rfl
  have hci : Try.prog.cellsOf 3 = 1 := by kernel_rfl
  have hcb : Try.prog.cellsOf 5 = 1 := by kernel_rfl
  generalize Try.prog.fieldsOf 36 = fs at hfs hlen hf
  rw [hcn] at hl
  obtain ⟨L⟩ := fs
  have hL5 : L.length = 5 := by simpa using congrArg List.length hfs
  match L, hL5, hfs, hf, hlen with
  | [f0, f1, f2, f3, f4], _, hfs, hf, hlen =>
    simp only [List.map_cons, List.map_nil, List.cons.injEq, Prod.mk.injEq, and_true] at hfs
    obtain ⟨⟨_, t0, o0⟩, ⟨_, t1, o1⟩, ⟨_, t2, o2⟩, ⟨_, t3, o3⟩, ⟨_, t4, o4⟩⟩ := hfs
    have h5 : xs.length = 5 := hlen
    have g0 := hf 0 f0 rfl
    have g1 := hf 1 f1 rfl
    have g2 := hf 2 f2 rfl
    have g3 := hf 3 f3 rfl
    have g4 := hf 4 f4 rfl
    rw [t0, o0, hci, List.getElem?_eq_getElem (by omega)] at g0
    rw [t1, o1, hci, List.getElem?_eq_getElem (by omega)] at g1
    rw [t2, o2, hci, List.getElem?_eq_getElem (by omega)] at g2
    rw [t3, o3, hci, List.getElem?_eq_getElem (by omega)] at g3
    rw [t4, o4, hcb, List.getElem?_eq_getElem (by omega)] at g4
    obtain ⟨a0, e0, _, w0⟩ := DataW.trod_int Try.underlying3 g0
    obtain ⟨a1, e1, _, w1⟩ := DataW.trod_int Try.underlying3 g1
    obtain ⟨a2, e2, _, w2⟩ := DataW.trod_int Try.underlying3 g2
    obtain ⟨a3, e3, _, w3⟩ := DataW.trod_int Try.underlying3 g3
    obtain ⟨a4, e4, _, w4⟩ := DataW.trod_int Try.underlying5 g4
    match cs, hl with
    | [u0, u1, u2, u3, u4], _ =>
      simp at e0 e1 e2 e3 e4
      exact ⟨⟨a0, a1, a2, a3, byteOf a4⟩, by rw [e0, e1, e2, e3, e4]; unfold ddV; rw [byteOf_val w4], bounds_i64 w0, bounds_i64 w1, bounds_i64 w2, bounds_i64 w3⟩
/-- A row of deeds that came in. -/
theorem open_deeds {a : Option Addr} {len cap : Nat} {d : DataW H} {ps : List MemPlace} (h : DataW.Trod enc Try.prog w base spare held 22 (.slice a len cap) d ps) :
    ∃ l : List Dd, l.length = len ∧ len ≤ cap ∧ cap ≤ maxLen ∧ Rd w.heap.size w a (dds l) ∧ ∀ y ∈ l, y.ok := by
  obtain ⟨fuel, hf⟩ := h
  have hf' : DataW.trod enc Try.prog w base spare held fuel 22 [Value.slice a len cap] = some (d, ps) := hf
  have hcn : Try.prog.cellsOf 36 = 5 := by kernel_rfl
  rcases Go.Deep.open_slice Try.underlying22 hf' with ⟨hcs, _⟩ | ⟨a', len', cap', m, n, D, Pl, hcs, _, hl, hm, hmm, _, hx⟩
  · simp only [List.cons.injEq, and_true] at hcs
    injection hcs with e1 e2 e3
    subst e1; subst e2; subst e3
    exact ⟨[], rfl, Nat.le_refl _, Nat.zero_le _, Rd.none, fun y hy => by simp at hy⟩
  · simp only [List.cons.injEq, and_true] at hcs
    injection hcs with e1 e2 e3
    subst e1; subst e2; subst e3
    have hlm : len ≤ m := by rw [hmm]; split <;> omega
    rw [hcn] at hx
    have hall : ∀ j, j ≤ len → ∃ l : List Dd, l.length = j ∧ (∀ y ∈ l, y.ok) ∧ ∀ k u, (dds l)[k]? = some u → w.cell? (a'.add k) = some u := by
      intro j
      induction j with
      | zero => exact fun _ => ⟨[], rfl, fun y hy => by simp at hy, fun k u hu => by simp [dds] at hu⟩
      | succ j ih =>
        intro hj
        obtain ⟨l, hl', hb, hc⟩ := ih (by omega)
        obtain ⟨cs', h1, h2⟩ := hx j (by omega)
        obtain ⟨y, hy, hyb⟩ := deed_of_trod h2
        obtain ⟨_, _, hcl⟩ := World.cells?_some h1
        have hnl : (dds l).length = j * 5 := by rw [dds_length, hl']
        refine ⟨l ++ [y], by simp [hl'], fun z hz => ?_, fun k u hu => ?_⟩
        · rcases List.mem_append.1 hz with hz | hz
          · exact hb z hz
          · rw [List.mem_singleton] at hz; rw [hz]; exact hyb
        · rw [dds_append] at hu
          rcases Nat.lt_or_ge k (dds l).length with hk | hk
          · rw [List.getElem?_append_left hk] at hu
            exact hc k u hu
          · rw [List.getElem?_append_right hk, dds, dds, List.append_nil, ← hy, hnl] at hu
            have hk5 : k - j * 5 < 5 := by
              have := (List.getElem?_eq_some_iff.1 hu).1
              rw [hy, ddV_length] at this; exact this
            have h3 := hcl (k - j * 5) hk5
            rw [add_twice8, show j * 5 + (k - j * 5) = k by omega, hu] at h3
            exact h3
    obtain ⟨l, hl', hb, hc⟩ := hall len (Nat.le_refl _)
    refine ⟨l, hl', hl, hm, fun k u hu => ⟨a', rfl, ?_, hc k u hu⟩, hb⟩
    have := World.block_lt_of_cell? _ _ (hc k u hu)
    rw [add_block] at this
    exact this
end
end Go.Proofs.Ytgfldfofiglefaa.Kd
/-
  A device that lies; a row of sectors that is appended to. The rows of deeds in the laws.
-/
namespace Go.Proofs.Ytgfldfofiglefaa.Kd
open Go.RowKit Go.Maps
/-- One device of L empty sectors, of which these writes wait; does it lie? -/
def lieS (L : Nat) (b : Bool) (wt : List (Nat × List UInt8)) : Sy := ⟨⟨false, -1⟩, [⟨List.replicate L zeroS, wt, 0, 0, b, false⟩]⟩
variable {L : Nat} {b : Bool} {wt : List (Nat × List UInt8)} {i : Int} {s : List UInt8}
theorem lie_refuse (h : 0 ≤ i ∧ i < (L : Int)) : refuseN (lieS L b wt).p ((lieS L b wt).at 0) i = 0 := by
  show (if (false || false) = true then (13 : Int) else if i < 0 ∨ ((List.replicate L zeroS).length : Int) ≤ i then 2 else 0) = 0
  rw [if_neg (by simp), if_neg (by rw [List.length_replicate]; omega)]
theorem lie_wy (h : 0 ≤ i ∧ i < (L : Int)) : (lieS L b wt).write 0 i s = (0, lieS L b (wt ++ [(i.toNat, s)])) := by
  obtain ⟨n, rfl⟩ := Int.eq_ofNat_of_zero_le h.1
  rw [write_yes (lie_refuse h)]; rfl
theorem lie_wn (h : ¬ (0 ≤ i ∧ i < (L : Int))) : (lieS L b wt).write 0 i s = (2, lieS L b wt) := by
  have hr : refuseN (lieS L b wt).p ((lieS L b wt).at 0) i = 2 := by
    show (if (false || false) = true then (13 : Int) else if i < 0 ∨ ((List.replicate L zeroS).length : Int) ≤ i then 2 else 0) = 2
    rw [if_neg (by simp), if_pos (by rw [List.length_replicate]; omega)]
  rw [write_no (by rw [hr]; decide), hr]
theorem lie_f : (lieS L true wt).flush 0 = (0, lieS L true wt) := rfl
theorem lie_off : (lieS L true wt).put 0 (((lieS L true wt).at 0).lie false) = lieS L false wt := rfl
theorem lie_on : (S0.new (20 : Int)).put 0 (((S0.new 20).at 0).lie true) = lieS 20 true [] := by kernel_rfl
/-- .. when all is flushed. -/
def lieE (L : Nat) (wt : List (Nat × List UInt8)) : Sy := ⟨⟨false, -1⟩, [⟨flushL (List.replicate L zeroS) wt, [], 0, 0, false, false⟩]⟩
theorem lie_e : (lieS L false wt).flush 0 = (0, lieE L wt) := rfl
theorem lie_len : ((lieS L b wt).at 0).st.length = L := by show (List.replicate L zeroS).length = L; rw [List.length_replicate]
theorem lie_secs : ∀ x ∈ List.replicate L zeroS, x.length = 128 := fun x hx => by rw [List.eq_of_mem_replicate hx]; exact zeroS_length
theorem lie_wait : (((lieS L b wt).at 0).wt.length : Int) = (wt.length : Int) := rfl
theorem lieE_st : ((lieE L wt).at 0).st = (List.range L).map (nowL (List.replicate L zeroS) wt) := by
  show flushL (List.replicate L zeroS) wt = _
  rw [flush_now, List.length_replicate]
theorem lieE_wait : (((lieE L wt).at 0).wt.length : Int) = 0 := rfl
theorem lie_read {k : Nat} (h : k < L) : readV (lieS L b wt).p ((lieS L b wt).at 0) (k : Int) = .tuple #[.agg (bva (nowL (List.replicate L zeroS) wt k)), .int .i64 0] := by
  rw [readV_yes (lie_refuse (by omega))]; rfl
/-- A row of sectors in new memory that is none of the devices'. -/
def RowN (w0 w : World) (F : Nat → Prop) (v : Value) (n : Nat) (l : List (List UInt8)) : Prop := w.ownsRow w0.heap.size 38 128 v n (svs l) ∧ ∀ q, v.ownBlock = some q → ¬ F q
section
variable {w0 w w' : World} {F F' : Nat → Prop} {v : Value} {n : Nat} {l : List (List UInt8)}
theorem RowN.step (h : RowN w0 w F v n l) (h1 : ∀ q, F' q → F q ∨ w.heap.size ≤ q) (h2 : But F w w') : RowN w0 w' F' v n l :=
  ⟨Own.but h.1 h2 h.2, fun q hq hf => by
    rcases h1 q hf with h3 | h3
    · exact h.2 q hq h3
    · have := (h.1.lt q hq).2; omega⟩
theorem RowN.below (h : RowN w0 w F v n l) (hb : Below w.heap.size w w') : RowN w0 w' F v n l := ⟨own_belowN h.1 hb, h.2⟩
theorem RowN.app {A' : Option Addr} {m c' : Nat} {y : List UInt8} (h : RowN w0 w F v n l) (hF : ∀ q, F q → q < w.heap.size) (ho : w'.ownsRow w0.heap.size 38 128 (.slice A' m c') m (svs l ++ bv y))
    (hor : (Value.slice A' m c').ownBlock = v.ownBlock ∨ (Value.slice A' m c').ownBlock = some w.heap.size) : RowN w0 w' F (.slice A' m c') m (l ++ [y]) :=
  ⟨by rw [svs_append, svs, svs, List.append_nil]; exact ho, fun q hq hf => by
    rcases hor with h1 | h1
    · exact h.2 q (h1 ▸ hq) hf
    · rw [h1] at hq; injection hq with hq; have := hF q hf; omega⟩
theorem rowN_nil : RowN w0 w F (.slice none 0 0) 0 [] := ⟨World.ownsRow_nil _ _ _ _, fun q hq => by cases hq⟩
/-- The devices behind an append to such a row. -/
theorem Live.app8 {p : Nat} {gs : List Nat} {S : Sy} (h : Live w0 w p gs S F) (hr : RowN w0 w F v n l) (hg : w.grownBy w' v.ownBlock) : Live w0 w' p gs S F :=
  h.but8 (T := fun q => v.ownBlock = some q) ((But.refl w).grown hg (fun _ hq => .inl hq)) (fun q hf hq => hr.2 q hq hf) (fun q hq => (hr.1.lt q hq).1)
end
end Go.Proofs.Ytgfldfofiglefaa.Kd
/-
  The contract of the mirror's Both.
-/
namespace Go.Proofs.Ytgfldfofiglefaa.Mi
open Go.RowKit Kd
attribute [local go_sem ↓] Go.wp_at_zero Go.wp_at_succ
section
variable {C : Duo} {G : Gd} {g : Nat} {w : World} {s : Mr C} {F : Nat → Prop}
/-- What the first p devices read of a place, as far as it may stand. -/
def bothTo (C : Duo) (G : Gd) (d : C.L.St) (n : Int) : Nat → List (List UInt8)
  | 0 => []
  | p + 1 => bothTo C G d n p ++ if rdOk C G d p n then [(C.rd d p n).2] else []
def bothL (G : Gd) (s : Mr C) (n : Int) : List (List UInt8) := if has s n then bothTo C G s.d n 2 else []
theorem bothTo_len (h : (ML C G g).At w s F) (n : Int) : ∀ p, p ≤ 2 → ∀ x ∈ bothTo C G s.d n p, x.length = 128
  | 0, _ => fun x hx => by cases hx
  | p + 1, hp => fun x hx => by
    rw [bothTo, List.mem_append] at hx
    rcases hx with hx | hx
    · exact bothTo_len h n p (by omega) x hx
    · split at hx
      · rw [List.mem_singleton] at hx
        subst hx
        obtain ⟨F1, hd, _⟩ := ml_dev h
        exact C.rd_len hd (by omega)
      · cases hx
theorem bothTo_few (d : C.L.St) (n : Int) : ∀ p, (bothTo C G d n p).length ≤ p
  | 0 => Nat.le_refl _
  | p + 1 => by
    rw [bothTo, List.length_append]
    have := bothTo_few d n p
    split <;> simp <;> omega
/-- It returns a new row of sectors. -/
def RetSec (l : List (List UInt8)) (w : World) (e : Ending) (w' : World) : Prop :=
  ∃ A n c, e = .returned (.slice A n c) ∧ l.length = n ∧ w'.ownsRow w.heap.size 38 128 (.slice A n c) n (svs l) ∧ Below w.heap.size w w'
set_option maxRecDepth 100000 in
set_option maxHeartbeats 3200000 in
theorem both_no {p : Option Addr} {n : Int} (hc : Calls Try.prog 89 #[.pointer p, .int .i64 n] w (RetB (.bool false) w)) : Calls Try.prog 36 #[.pointer p, .int .i64 n] w (RetSec [] w) := by
  have HC := Lib.hid hc
  clear hc
  go_enter Try.func36, Try.ntmps36
  go_wp2_with fail
  refine HC.out.mono ?_
  rintro e w1 ⟨rfl, bw⟩
  have B1 := Lib.hid bw
  clear bw
  go_wp2_with fail
  go_ret
  exact ⟨none, 0, 0, rfl, rfl, World.ownsRow_nil _ _ _ _, B1.out⟩
theorem both_nil (n : Int) : Calls Try.prog 36 #[.pointer none, .int .i64 n] w (RetSec [] w) := both_no (has_nil w n)
set_option maxRecDepth 100000 in
set_option maxHeartbeats 12800000 in
theorem both_any (h : (ML C G g).At w s F) (n : Int) : Calls Try.prog 36 #[.pointer (some ⟨g, 0, none⟩), .int .i64 n] w (RetSec (bothL G s n) w) := by
  cases hh : has s n with
  | false =>
    rw [bothL, hh, if_neg (by simp)]
    have := has_any h n
    rw [hh] at this
    exact both_no this
  | true =>
    obtain ⟨z, hz0⟩ : ∃ z : List UInt8, z = zeroS := ⟨_, rfl⟩
    have hz : ∀ W, (zeroValue 38).run Try.prog W = .ok (.agg (bva z)) W := fun _ => by rw [hz0]; kernel_rfl
    have HZ3 := Lib.hid (show z.length = 128 by rw [hz0]; exact zeroS_length)
    have hcc := has_any h n
    rw [hh] at hcc
    have HC := Lib.hid hcc
    have H := Lib.hid h
    rw [bothL, hh, if_pos rfl]
    clear hz0 hcc hh h
    go_enter Try.func36, Try.ntmps36
    go_wp2_with fail
    refine HC.out.mono ?_
    rintro e w1 ⟨rfl, bw⟩
    have B1 := Lib.hid bw
    clear bw HC
    go_wp2_with fail
    go_loopw [4, 12] (fun l x wr => ∃ (p : Nat) (A : Option Addr) (k c : Nat), p ≤ 2 ∧ x = .int .i64 p ∧ l = .slice A k c ∧ (bothTo C G s.d n p).length = k ∧ wr.ownsRow w.heap.size 38 128 (.slice A k c) k (svs (bothTo C G s.d n p)) ∧ Below w.heap.size w wr) (fun _ x _ => 2 - (intOf x).toNat)
    case atStart => exact ⟨0, none, 0, 0, by omega, rfl, rfl, rfl, World.ownsRow_nil _ _ _ _, B1.out⟩
    case round =>
      clear B1
      obtain ⟨p, A, k, c, hp, rfl, rfl, hk, ho, hb⟩ := hrel
      have HP := Lib.hid hp
      have HK := Lib.hid hk
      have O := Lib.hid ho
      have B := Lib.hid hb
      clear hp hk ho hb
      by_cases hlt : p < 2
      · have HPL := Lib.hid hlt
        have HR := Lib.hid (reads_any ((ML C G g).below H.out B.out) hlt n)
        have HS := Lib.hid (show bothTo C G s.d n (p + 1) = bothTo C G s.d n p ++ if rdOk C G s.d p n then [rdVal C G s.d p n] else [] by rw [bothTo, rdVal]; split <;> rfl)
        obtain ⟨y, hy⟩ : ∃ y, y = rdVal C G s.d p n := ⟨_, rfl⟩
        have HY3 := Lib.hid (show y.length = 128 by rw [hy, rdVal]; split; exact (ml_dev H.out).elim (fun F1 h => C.rd_len h.1 hlt); exact zeroS_length)
        have HIY : Hid ((Try.prog.info? 38).map (·.size) = some (bva y).size) := by rw [bva_size, HY3.out]; exact info_sec
        obtain ⟨o, ho⟩ : ∃ o, o = rdOk C G s.d p n := ⟨_, rfl⟩
        have HF := Lib.hid (bothTo_few (G := G) s.d n p)
        rw [← hy, ← ho] at HR HS
        have p0 : (0 : Int) ≤ (p : Int) := by omega
        have p1 : (p : Int) < 2 := by omega
        clear hy ho hlt
        go_wp2_with fail
        refine HR.out.mono ?_
        rintro e w2 ⟨rfl, bw⟩
        have O2 := Lib.hid (own_belowN O.out bw)
        have B2 := Lib.hid (B.out.trans (bw.mono B.out.size))
        clear bw O B HR
        go_wp2_with (show wpList _ _ _ ({ dst := none, op := .store 38 (.tmp 6) (.tmp 20), type := _, pos := _, after := _, guard := _ } :: _) _ _; apply Classical.byContradiction; intro hneg)
        refine hneg ?_
        clear hneg
        refine wpList_store_row rfl 38 (.tmp 6) (.tmp 20) rfl w2.heap.size (bva y) rfl rfl 38 (bva z) (heap_alloc_new _ _) HIY.out (by rw [bva_size, bva_size, HY3.out, HZ3.out]) (bva_one _) ?_
        obtain ⟨w3, hw3⟩ : ∃ w3, w3 = (w2.alloc (.cells (bva z) 38)).setRow w2.heap.size (bva y) := ⟨_, rfl⟩
        have hbw3 : Below w2.heap.size w2 w3 := by rw [hw3]; exact below_setRow ((Below.refl _ _).alloc (Nat.le_refl _) _) (Nat.le_refl _) _
        have BXw3 := Lib.hid (show Blk w3 w2.heap.size (bva y) 38 from by rw [hw3]; exact setRow_heap _ _ _ _ _ _ (heap_alloc_new _ _))
        rw [← hw3]
        clear hw3
        have O3 := Lib.hid (own_belowN O2.out hbw3)
        have B3 := Lib.hid (B2.out.trans (hbw3.mono B2.out.size))
        clear hbw3 O2 B2
        cases o
        · have HE := Lib.hid (show bothTo C G s.d n (p + 1) = bothTo C G s.d n p by rw [HS.out, if_neg (by simp), List.append_nil])
          go_wp2_with fail
          go_roundw
          case rel => exact ⟨p + 1, A, k, c, HPL.out, by go_num, rfl, by rw [HE.out]; exact HK.out, by rw [HE.out]; exact O3.out, B3.out⟩
          case measure => (have := HPL.out; simp [intOf]; omega)
        · have HE := Lib.hid (show bothTo C G s.d n (p + 1) = bothTo C G s.d n p ++ [y] by rw [HS.out, if_pos rfl])
          obtain ⟨L, hL⟩ : ∃ L, L = bothTo C G s.d n p := ⟨_, rfl⟩
          rw [← hL] at HE HK O3 HF
          have BA := Lib.hid (show Below w3.heap.size w3 (w3.alloc (.cells (bva y) 38)) from (Below.refl _ _).alloc (Nat.le_refl _) _)
          have RA := Lib.hid (show Rd (w3.alloc (.cells (bva y) 38)).heap.size (w3.alloc (.cells (bva y) 38)) (some ⟨w3.heap.size, 0, none⟩) (bv y) from by
            have hb5 : Blk (w3.alloc (.cells (bva y) 38)) w3.heap.size (bva y) 38 := heap_alloc_new _ _
            intro j v hv
            exact ⟨_, rfl, hb5.lt, by rw [Addr.add_mid, hb5.cell, Nat.zero_add]; simpa [bva] using hv⟩)
          clear hL HS
          go_wp2_with (show wpList _ _ _ ({ dst := some 24, op := .load 38 (.tmp 6), type := _, pos := _, after := _, guard := _ } :: _) _ _; apply Classical.byContradiction; intro hneg)
          refine hneg ?_
          clear hneg
          refine wpList_load_row rfl 38 (.tmp 6) rfl w2.heap.size rfl 38 (bva y) (0, 0) _ BXw3.out Try.underlying38 rfl HIY.out ?_
          go_wp2_with (show wpList _ _ _ ({ dst := some 25, op := .buildSlice 43 1 #[(0, .tmp 24)], type := _, pos := _, after := _, guard := _ } :: _) _ _; apply Classical.byContradiction; intro hneg)
          refine hneg ?_
          clear hneg
          refine wpList_execg8 (v := .slice (some ⟨w3.heap.size, 0, none⟩) 1 1) (w' := w3.alloc (.cells (bva y) 38)) rfl (exec_buildSlice 43 1 #[(0, .tmp 24)] rfl ?hbld) ?_
          case hbld =>
            simp only [List.map_toArray, List.map_cons, List.map_nil]
            exact run_oneN secsElt _ (.agg (bva y)) (by show (bva y).size = 128; rw [bva_size, HY3.out]) (by omega)
          go_wp2_with (at_builtin; apply Classical.byContradiction; intro hneg)
          refine hneg ?_
          clear hneg
          refine wpList_appN _ rfl (.tmp 23) (.tmp 25) 43 rfl secsElt (base := w.heap.size) (v := .slice A k c) (n := k) (xs := svs L) rfl (own_belowN O3.out BA.out) (m := 1) rfl RA.out (by rw [bv_length, HY3.out]) (bv_one _) (by have := HF.out; have := HK.out; omega) (Nat.le_trans B3.out.size BA.out.size) ?_
          intro A6 c6 w6 ho6 hg6 hl6
          have B6 := Lib.hid (app_belowN (B3.out.trans (BA.out.mono B3.out.size)) (own_belowN O3.out BA.out) hg6 (Nat.le_refl _) (Nat.le_trans B3.out.size BA.out.size))
          have O6 := Lib.hid (show World.ownsRow w6 w.heap.size 38 128 (.slice A6 (k + 1) c6) (k + 1) (svs (L ++ [y])) from by rw [svs_append, svs, svs, List.append_nil]; exact ho6)
          clear ho6 hg6 hl6 BXw3 O3 B3 BA RA
          go_wp2_with fail
          go_roundw
          case rel => exact ⟨p + 1, A6, k + 1, c6, HPL.out, by go_num, rfl, by rw [HE.out, List.length_append, HK.out]; rfl, by rw [HE.out]; exact O6.out, B6.out⟩
          case measure => (have := HPL.out; simp [intOf]; omega)
      · obtain rfl : p = 2 := by have := HP.out; omega
        clear hlt
        go_wp2_with fail
        go_ret
        exact ⟨A, k, c, rfl, HK.out, O.out, B.out⟩
end
end Go.Proofs.Ytgfldfofiglefaa.Mi
/-
  The contract of the mirror's Read.
-/
namespace Go.Proofs.Ytgfldfofiglefaa.Mi
open Go.RowKit Kd
attribute [local go_sem ↓] Go.wp_at_zero Go.wp_at_succ
section
variable {C : Duo} {G : Gd} {g : Nat} {w : World} {s : Mr C} {F1 F : Nat → Prop}
/-- What Read tells of a place: the sector; how it went. -/
def readM (C : Duo) (G : Gd) (s : Mr C) (n : Int) : List UInt8 × Int :=
  if has s n then
    (if right C G s 0 n.toNat then ((C.rd s.d 0 n).2, 0) else if right C G s 1 n.toNat then ((C.rd s.d 1 n).2, 0)
     else (zeroS, if C.there s.d 0 || C.there s.d 1 then 9 else 13))
  else (zeroS, 2)
set_option maxRecDepth 100000 in
set_option maxHeartbeats 3200000 in
theorem mread_no {P : Value} {n : Int} (hc : ∀ w', Below w.heap.size w w' → Calls Try.prog 89 #[P, .int .i64 n] w' (RetB (.bool false) w')) : Calls Try.prog 35 #[P, .int .i64 n] w (RetB (.tuple #[.agg (bva zeroS), .int .i64 2]) w) := by
  obtain ⟨z, hz0⟩ : ∃ z : List UInt8, z = zeroS := ⟨_, rfl⟩
  rw [← hz0]
  have hz : ∀ W, (zeroValue 38).run Try.prog W = .ok (.agg (bva z)) W := fun _ => by rw [hz0]; kernel_rfl
  have HBZ := Lib.hid (show ∀ W, (Instr.build 38 #[]).run Try.prog W = .ok (.agg (bva z)) W from fun _ => by rw [hz0]; kernel_rfl)
  have HIZ : Hid ((Try.prog.info? 38).map (·.size) = some (bva z).size) := by rw [bva_size, hz0, zeroS_length]; exact info_sec
  have R0 := Lib.hid (show Blk (w.alloc (.cells (bva z) 38)) w.heap.size (bva z) 38 from heap_alloc_new _ _)
  have HC := Lib.hid (hc _ ((Below.refl _ _).alloc (Nat.le_refl _) (.cells (bva z) 38)))
  clear hz0 hc
  go_enter Try.func35, Try.ntmps35
  go_wp2_with fail
  refine HC.out.mono ?_
  rintro e w1 ⟨rfl, bw⟩
  rw [World.size_alloc] at bw
  have R1 := Lib.hid (R0.out.below (by rw [World.size_alloc]; exact bw))
  have B1 := Lib.hid (show Below w.heap.size w w1 from ((Below.refl _ _).alloc (Nat.le_refl _) _).trans (bw.mono (Nat.le_succ _)))
  clear bw R0
  go_wp2_with (first
    | (refine wpList_build rfl 38 #[] rfl (v := .agg (bva z)) ?hbld ?_; case hbld => exact HBZ.out _)
    | (refine wpList_store_row rfl 38 (.tmp 4) (.tmp 13) rfl w.heap.size (bva z) rfl rfl 38 (bva z) R1.out HIZ.out (by rfl) (bva_one _) ?_))
  exact bodyPost_ret (v := .tuple #[.agg (bva z), .int .i64 2]) (results_ct8 Try.results35 _ _ w.heap.size 38 (bva z) _ rfl (setRow_heap _ _ _ _ _ _ R1.out) Try.underlying38 rfl HIZ.out) rfl ⟨rfl, below_setRow B1.out (Nat.le_refl _) _⟩
theorem mread_nil (n : Int) : Calls Try.prog 35 #[.pointer none, .int .i64 n] w (RetB (.tuple #[.agg (bva zeroS), .int .i64 2]) w) := mread_no (fun w' _ => has_nil w' n)
set_option maxRecDepth 100000 in
set_option maxHeartbeats 6400000 in
theorem mread_any (h : (ML C G g).At w s F) (hab : s.b.length = s.a.length) (n : Int) : Calls Try.prog 35 #[.pointer (some ⟨g, 0, none⟩), .int .i64 n] w (RetA (ML C G g) (.tuple #[.agg (bva (readM C G s n).1), .int .i64 (readM C G s n).2]) s F w) := by
  cases hh : has s n with
  | false =>
    rw [readM, hh, if_neg (by simp)]
    refine (mread_no (fun w' hb => ?_)).mono fun _ _ hr => RetB.reta h hr
    have := has_any ((ML C G g).below h hb) n
    rwa [hh] at this
  | true =>
    obtain ⟨k, rfl⟩ : ∃ k : Nat, n = (k : Int) := ⟨n.toNat, by rw [has] at hh; simp at hh; omega⟩
    have hk : k < s.a.length := by rw [has] at hh; simp at hh; exact hh
    have HK := Lib.hid (show ∀ i, i < 2 → k < (s.st i).length from fun i hi => by rcases two hi with rfl | rfl; exact hk; show k < s.b.length; omega)
    obtain ⟨z, hz0⟩ : ∃ z : List UInt8, z = zeroS := ⟨_, rfl⟩
    have hz : ∀ W, (zeroValue 38).run Try.prog W = .ok (.agg (bva z)) W := fun _ => by rw [hz0]; kernel_rfl
    have HBZ := Lib.hid (show ∀ W, (Instr.build 38 #[]).run Try.prog W = .ok (.agg (bva z)) W from fun _ => by rw [hz0]; kernel_rfl)
    have HZ3 := Lib.hid (show z.length = 128 by rw [hz0]; exact zeroS_length)
    have HIZ : Hid ((Try.prog.info? 38).map (·.size) = some (bva z).size) := by rw [bva_size, HZ3.out]; exact info_sec
    have R0 := Lib.hid (show Bx w (w.alloc (.cells (bva z) 38)) F w.heap.size (bva z) 38 from ⟨heap_alloc_new _ _, Nat.le_refl _, fun hf => by have := (ML C G g).lt h _ hf; omega⟩)
    have M0 := Lib.hid (show Mv (ML C G g) w F (w.alloc (.cells (bva z) 38)) s F from (Mv.start h).below ((Below.refl _ _).alloc (Nat.le_refl _) _))
    have hcc := has_any M0.out.at_ (k : Int)
    rw [hh] at hcc
    have HC := Lib.hid hcc
    obtain ⟨RV, hRV⟩ : ∃ RV, RV = Value.tuple #[.agg (bva (readM C G s k).1), .int .i64 (readM C G s k).2] := ⟨_, rfl⟩
    rw [← hRV]
    rw [readM, hh, if_pos rfl, Int.toNat_natCast, ← hz0] at hRV
    have HRV := Lib.hid hRV
    clear hRV hz0 hcc hh hk hab h
    go_enter Try.func35, Try.ntmps35
    go_wp2_with fail
    refine HC.out.mono ?_
    rintro e w1 ⟨rfl, bw⟩
    have M1 := Lib.hid (M0.out.below bw)
    have R1 := Lib.hid (R0.out.below bw)
    clear bw M0 R0
    obtain ⟨q, hq⟩ : ∃ q, q = w.heap.size := ⟨_, rfl⟩
    rw [← hq] at R1
    rw [← hq]
    clear hq
    go_wp2_with fail
    go_loopw [14] (fun i wr => ∃ (j : Nat) (F' : Nat → Prop), i = .int .i64 j ∧ j ≤ 2 ∧ Mv (ML C G g) w F wr s F' ∧ Bx w wr F' q (bva z) 38 ∧ ∀ i, i < j → right C G s i k = false) (fun i _ => 2 - (intOf i).toNat)
    case atStart => exact ⟨0, F, rfl, by omega, M1.out, R1.out, fun i hi => by omega⟩
    case round =>
      clear M1 R1
      obtain ⟨j, F', rfl, hj, hm, hr, hno⟩ := hrel
      have M := Lib.hid hm
      have R := Lib.hid hr
      have HJ := Lib.hid hj
      have HN := Lib.hid hno
      clear hm hr hj hno
      by_cases hlt : j < 2
      · have HJ2 := Lib.hid hlt
        have j0 : (0 : Int) ≤ (j : Int) := by omega
        have j1 : (j : Int) < 2 := by omega
        clear hlt
        go_wp2_with fail
        refine (right_any M.out.at_ HJ2.out (HK.out j HJ2.out)).mono ?_
        rintro e w2 ⟨rfl, bw⟩
        have M2 := Lib.hid (M.out.below bw)
        have R2 := Lib.hid (R.out.below bw)
        clear bw M R
        obtain ⟨y, hy⟩ : ∃ y, y = rightV C G s j k := ⟨_, rfl⟩
        have HY3 := Lib.hid (show y.length = 128 by rw [hy]; exact rightV_len M2.out.at_ HJ2.out k)
        have HIY : Hid ((Try.prog.info? 38).map (·.size) = some (bva y).size) := by rw [bva_size, HY3.out]; exact info_sec
        have HY := Lib.hid hy
        rw [← hy]
        clear hy
        go_wp2_with (show wpList _ _ _ ({ dst := none, op := .store 38 (.tmp 7) (.tmp 22), type := _, pos := _, after := _, guard := _ } :: _) _ _; apply Classical.byContradiction; intro hneg)
        refine hneg ?_
        clear hneg
        refine wpList_store_row rfl 38 (.tmp 7) (.tmp 22) rfl w2.heap.size (bva y) rfl rfl 38 (bva z) (heap_alloc_new _ _) HIY.out (by rw [bva_size, bva_size, HY3.out, HZ3.out]) (bva_one _) ?_
        obtain ⟨w3, hw3⟩ : ∃ w3, w3 = (w2.alloc (.cells (bva z) 38)).setRow w2.heap.size (bva y) := ⟨_, rfl⟩
        have hbw3 : Below w2.heap.size w2 w3 := by rw [hw3]; exact below_setRow ((Below.refl _ _).alloc (Nat.le_refl _) _) (Nat.le_refl _) _
        have BXw3 := Lib.hid (show Blk w3 w2.heap.size (bva y) 38 from by rw [hw3]; exact setRow_heap _ _ _ _ _ _ (heap_alloc_new _ _))
        rw [← hw3]
        clear hw3
        have M3 := Lib.hid (M2.out.below hbw3)
        have R3 := Lib.hid (R2.out.below hbw3)
        clear hbw3 M2 R2
        cases ho : right C G s j k with
        | false =>
          go_wp2_with fail
          go_roundw
          case rel => exact ⟨j + 1, F', by go_num, HJ2.out, M3.out, R3.out, fun i hi => by
            by_cases h : i < j
            · exact HN.out i h
            · obtain rfl : i = j := by omega
              exact ho⟩
          case measure => (have := HJ2.out; simp [intOf]; omega)
        | true =>
          have HEND := Lib.hid (show RV = .tuple #[.agg (bva y), .int .i64 0] by
            rw [HRV.out, HY.out, rightV, ho, if_pos rfl]
            rcases two HJ2.out with rfl | rfl
            · rw [ho, if_pos rfl]
            · rw [HN.out 0 (by omega), if_neg (by simp), ho, if_pos rfl])
          clear ho
          go_wp2_with (first
            | (refine wpList_load_row rfl 38 (.tmp 7) rfl w2.heap.size rfl 38 (bva y) (0, 0) _ BXw3.out Try.underlying38 rfl HIY.out ?_)
            | (refine wpList_store_row rfl 38 (.tmp 4) (.tmp 25) rfl q (bva y) rfl rfl 38 (bva z) R3.out.1 HIY.out (by rw [bva_size, bva_size, HY3.out, HZ3.out]) (bva_one _) ?_))
          exact bodyPost_ret (v := .tuple #[.agg (bva y), .int .i64 0]) (results_ct8 Try.results35 _ _ q 38 (bva y) _ rfl (setRow_heap _ _ _ _ _ _ R3.out.1) Try.underlying38 rfl HIY.out) rfl ⟨by rw [HEND.out], F', M3.out.own (But.setRow (S := fun x => x = q) (But.refl _) (.inl rfl) _) (fun x e => by rw [e]; exact R3.out.2.1) (fun x hx e => R3.out.2.2 (e ▸ hx))⟩
      · obtain rfl : j = 2 := by have := HJ.out; omega
        have hE := eq_ff
        obtain ⟨a, ha⟩ : ∃ a, a = C.there s.d 0 := ⟨_, rfl⟩
        obtain ⟨b, hb⟩ : ∃ b, b = C.there s.d 1 := ⟨_, rfl⟩
        have HEND := Lib.hid (show RV = .tuple #[.agg (bva z), .int .i64 (if a || b then 9 else 13)] by
          rw [HRV.out, HN.out 0 (by omega), if_neg (by simp), HN.out 1 (by omega), if_neg (by simp), ha, hb])
        have HT := Lib.hid (each_there M.out.at_)
        rw [← ha, ← hb] at HT
        clear hlt ha hb
        go_wp2_with fail
        refine HT.out.mono ?_
        rintro e w2 ⟨rfl, F2, hm2⟩
        have M2 := Lib.hid (M.out.trans hm2)
        have R2 := Lib.hid (R.out.step hm2)
        clear hm2 M R
        cases a <;> cases b
        · go_wp2_with (first
            | (refine wpList_build rfl 50 #[] rfl (v := .agg (two2 false false)) ?hbld ?_; case hbld => exact build_ff _)
            | (refine wpList_build rfl 38 #[] rfl (v := .agg (bva z)) ?hbld ?_; case hbld => exact HBZ.out _)
            | (refine wpList_store_row rfl 38 (.tmp 4) (.tmp 32) rfl q (bva z) rfl rfl 38 (bva z) R2.out.1 HIZ.out (by rfl) (bva_one _) ?_))
          exact bodyPost_ret (v := .tuple #[.agg (bva z), .int .i64 13]) (results_ct8 Try.results35 _ _ q 38 (bva z) _ rfl (setRow_heap _ _ _ _ _ _ R2.out.1) Try.underlying38 rfl HIZ.out) rfl ⟨by rw [HEND.out]; rfl, F2, M2.out.own (But.setRow (S := fun x => x = q) (But.refl _) (.inl rfl) _) (fun x e => by rw [e]; exact R2.out.2.1) (fun x hx e => R2.out.2.2 (e ▸ hx))⟩
        · go_wp2_with (first
            | (refine wpList_build rfl 50 #[] rfl (v := .agg (two2 false false)) ?hbld ?_; case hbld => exact build_ff _)
            | (refine wpList_build rfl 38 #[] rfl (v := .agg (bva z)) ?hbld ?_; case hbld => exact HBZ.out _)
            | (refine wpList_store_row rfl 38 (.tmp 4) (.tmp 33) rfl q (bva z) rfl rfl 38 (bva z) R2.out.1 HIZ.out (by rfl) (bva_one _) ?_))
          exact bodyPost_ret (v := .tuple #[.agg (bva z), .int .i64 9]) (results_ct8 Try.results35 _ _ q 38 (bva z) _ rfl (setRow_heap _ _ _ _ _ _ R2.out.1) Try.underlying38 rfl HIZ.out) rfl ⟨by rw [HEND.out]; rfl, F2, M2.out.own (But.setRow (S := fun x => x = q) (But.refl _) (.inl rfl) _) (fun x e => by rw [e]; exact R2.out.2.1) (fun x hx e => R2.out.2.2 (e ▸ hx))⟩
        · go_wp2_with (first
            | (refine wpList_build rfl 50 #[] rfl (v := .agg (two2 false false)) ?hbld ?_; case hbld => exact build_ff _)
            | (refine wpList_build rfl 38 #[] rfl (v := .agg (bva z)) ?hbld ?_; case hbld => exact HBZ.out _)
            | (refine wpList_store_row rfl 38 (.tmp 4) (.tmp 33) rfl q (bva z) rfl rfl 38 (bva z) R2.out.1 HIZ.out (by rfl) (bva_one _) ?_))
          exact bodyPost_ret (v := .tuple #[.agg (bva z), .int .i64 9]) (results_ct8 Try.results35 _ _ q 38 (bva z) _ rfl (setRow_heap _ _ _ _ _ _ R2.out.1) Try.underlying38 rfl HIZ.out) rfl ⟨by rw [HEND.out]; rfl, F2, M2.out.own (But.setRow (S := fun x => x = q) (But.refl _) (.inl rfl) _) (fun x e => by rw [e]; exact R2.out.2.1) (fun x hx e => R2.out.2.2 (e ▸ hx))⟩
        · go_wp2_with (first
            | (refine wpList_build rfl 50 #[] rfl (v := .agg (two2 false false)) ?hbld ?_; case hbld => exact build_ff _)
            | (refine wpList_build rfl 38 #[] rfl (v := .agg (bva z)) ?hbld ?_; case hbld => exact HBZ.out _)
            | (refine wpList_store_row rfl 38 (.tmp 4) (.tmp 33) rfl q (bva z) rfl rfl 38 (bva z) R2.out.1 HIZ.out (by rfl) (bva_one _) ?_))
          exact bodyPost_ret (v := .tuple #[.agg (bva z), .int .i64 9]) (results_ct8 Try.results35 _ _ q 38 (bva z) _ rfl (setRow_heap _ _ _ _ _ _ R2.out.1) Try.underlying38 rfl HIZ.out) rfl ⟨by rw [HEND.out]; rfl, F2, M2.out.own (But.setRow (S := fun x => x = q) (But.refl _) (.inl rfl) _) (fun x e => by rw [e]; exact R2.out.2.1) (fun x hx e => R2.out.2.2 (e ▸ hx))⟩
end
end Go.Proofs.Ytgfldfofiglefaa.Mi
/-
  The contract of slices.Repeat of one bool.
-/
namespace Go.Proofs.Ytgfldfofiglefaa.Mi
open Go.RowKit Kd
attribute [local go_sem ↓] Go.wp_at_zero Go.wp_at_succ
theorem mask_small (a : Nat) (ha : a < 4294967296) : bits .and .u64 (a : Int) 4294967295 = (a : Int) := by
  have h := bits_and_u64_nat a 4294967295 (by omega) (by omega)
  rw [show a &&& 4294967295 = a % 4294967296 from Nat.and_two_pow_sub_one_eq_mod a 32, Nat.mod_eq_of_lt ha] at h
  exact h
theorem mul_one (w : World) (N : Nat) (hN : N ≤ 4096) : Calls Try.prog 118 #[.int .u64 1, .int .u64 N] w (Ret0 (.tuple #[.int .u64 0, .int .u64 N]) w) := by
  have a1 : bits .and .u64 1 4294967295 = 1 := by decide
  have a0 : bits .and .u64 0 4294967295 = 0 := by decide
  have aN : bits .and .u64 (N : Int) 4294967295 = N := mask_small N (by omega)
  have dN : (N : Int) / 4294967296 = 0 := by omega
  have wN : IntKind.u64.wrap (N : Int) = N := IntWalk.u64_in _ (by omega)
  have w0 : IntKind.u64.wrap 0 = 0 := by decide
  clear hN
  go_enter Try.func118, Try.ntmps118
  go_wp2_with fail
  exact bodyPost_ret (results_tmp2 Try.results118 _ _ _) rfl ⟨by rfl, rfl⟩
theorem mul_u (w : World) (N : Nat) (hN : N ≤ 4096) : Calls Try.prog 113 #[.int .u64 1, .int .u64 N] w (Ret0 (.tuple #[.int .u64 0, .int .u64 N]) w) := by
  have HN := Lib.hid hN
  clear hN
  go_enter Try.func113, Try.ntmps113
  go_wp2_with fail
  refine (mul_one _ N HN.out).mono ?_
  rintro e _ ⟨rfl, rfl⟩
  go_wp2_with fail
  exact bodyPost_ret (results_tmp2 Try.results113 _ _ _) rfl ⟨rfl, rfl⟩
theorem info_boolW : (Try.prog.info? 4).map (fun i => (i.zero, i.size, i.bytes)) = some (some (.bool false), 1, 1) := by kernel_rfl
theorem info_bool : (Try.prog.info? 4).map (·.size) = some 1 := by kernel_rfl
/-- A row whose first n cells are b. -/
structure Fst (w0 w : World) (g N n : Nat) (b : Bool) : Prop where
  cells : ∃ cur : Array Value, w.heap[g]? = some (.cells cur 4 (0, 0)) ∧ cur.size = N ∧ ∀ i, i < n → cur[i]? = some (.bool b)
  le : n ≤ N
  bel : Below w0.heap.size w0 w
theorem splice_get {α : Type} (L : List α) (o : Nat) (cs : List α) (h : o + cs.length ≤ L.length) (i : Nat) : (splice L o cs)[i]? = if i < o then L[i]? else if i < o + cs.length then cs[i - o]? else L[i]? := by
  unfold splice
  have ht : (L.take o).length = o := by rw [List.length_take]; omega
  by_cases h1 : i < o
  · rw [if_pos h1, List.getElem?_append_left (by omega), List.getElem?_take, if_pos h1]
  · rw [if_neg h1, List.getElem?_append_right (by omega), ht]
    by_cases h2 : i < o + cs.length
    · rw [if_pos h2, List.getElem?_append_left (by omega)]
    · rw [if_neg h2, List.getElem?_append_right (by omega), List.getElem?_drop]
      congr 1; omega
/-- A copy of the first cells behind them. -/
theorem Fst.copy {w0 w : World} {g N n : Nat} {b : Bool} (h : Fst w0 w g N n b) (hg : w0.heap.size ≤ g) (m : Nat) (hm : m = Nat.min n (N - n)) (k1 k2 : Nat) :
    ∃ w', (Builtin.copy_ #[128, 128] 3 #[.slice (some ⟨g, n, none⟩) (N - n) k1, .slice (some ⟨g, 0, none⟩) n k2]).run Try.prog w = .ok (goInt m) w' ∧ Fst w0 w' g N (n + m) b := by
  obtain ⟨cur, hc, hs, hb⟩ := h.cells
  have hle := h.le
  have hmn : m ≤ n ∧ m ≤ N - n := by rw [hm]; exact ⟨Nat.min_le_left _ _, Nat.min_le_right _ _⟩
  have hr := run_copyN (P := Try.prog) w 128 128 3 4 1 Try.underlying128 info_bool g n (N - n) k1 ⟨g, 0, none⟩ n k2 cur 4 (List.replicate m (.bool b)) hc
    (by rw [List.length_replicate, Nat.mul_one, hm]) (fun j v hv => by
      have hj : j < m := by have := (List.getElem?_eq_some_iff.1 hv).1; rwa [List.length_replicate] at this
      rw [List.getElem?_replicate, if_pos hj] at hv
      rw [Addr.add_mid, Nat.zero_add, ← hv, ← hb j (by omega)]
      exact Blk.cell (show Blk w g cur 4 from hc) j) (by rw [List.length_replicate]; omega) (fun v hv => by rw [List.eq_of_mem_replicate hv]; rfl)
  rw [← hm] at hr
  refine ⟨_, hr, ⟨⟨_, setRow_heap _ _ _ _ _ _ hc, ?_, fun i hi => ?_⟩, by omega, below_setRow h.bel hg _⟩⟩
  · rw [List.size_toArray, length_splice _ _ _ (by rw [List.length_replicate, Array.length_toList]; omega), Array.length_toList]; exact hs
  · rw [List.getElem?_toArray, splice_get _ _ _ (by rw [List.length_replicate, Array.length_toList]; omega), List.length_replicate]
    split
    · rw [Array.getElem?_toList]; exact hb i (by omega)
    · rw [List.getElem?_replicate, if_pos (by omega)]
theorem Fst.row {w0 w : World} {g N : Nat} {b : Bool} (h : Fst w0 w g N N b) (hg : w0.heap.size ≤ g) (hN : N ≤ maxLen) : w.ownsRow w0.heap.size 4 1 (.slice (some ⟨g, 0, none⟩) N N) N (bs (List.replicate N b)) := by
  obtain ⟨cur, hc, hs, hb⟩ := h.cells
  refine ⟨by rw [bs_length, List.length_replicate, Nat.mul_one], .inr ⟨g, N, cur, rfl, hg, hc, Nat.le_refl _, hN, by rw [hs, Nat.mul_one], ?_⟩⟩
  apply List.ext_getElem?
  intro i
  rw [List.getElem?_take, Nat.mul_one, bs, List.getElem?_map, List.getElem?_replicate]
  split
  · rw [Array.getElem?_toList, hb i (by assumption)]; rfl
  · rfl
set_option maxRecDepth 100000 in
set_option maxHeartbeats 6400000 in
theorem repeat_any {w : World} {a : Addr} {b : Bool} {c : Nat} (hb : w.cell? a = some (.bool b)) (N : Nat) (hN : N ≤ 4096) :
    Calls Try.prog 75 #[.slice (some a) 1 c, .int .i64 N] w (fun e w' => ∃ g, e = .returned (.slice (some ⟨g, 0, none⟩) N N) ∧ w'.ownsRow w.heap.size 4 1 (.slice (some ⟨g, 0, none⟩) N N) N (bs (List.replicate N b)) ∧ Below w.heap.size w w') := by
  have HN := Lib.hid hN
  have HB := Lib.hid hb
  obtain ⟨i0, hi, hz0, hz1, hz2⟩ := info_parts info_boolW
  have n0 : (0 : Int) ≤ (N : Int) := by omega
  have n1 : (N : Int) ≤ 4096 := by omega
  have wu : IntKind.u64.wrap (N : Int) = N := IntWalk.u64_in _ (by omega)
  have wi : IntKind.i64.wrap (N : Int) = N := IntWalk.i64_in _ (by omega)
  have w1 : IntKind.u64.wrap 1 = 1 := by decide
  clear hN
  go_enter Try.func75, Try.ntmps75
  go_wp2_with fail
  refine (mul_u _ N HN.out).mono ?_
  rintro e _ ⟨rfl, rfl⟩
  go_wp2_with (at_make; apply Classical.byContradiction; intro hneg)
  refine hneg ?_
  clear hneg
  refine wpList_make_full _ rfl _ _ _ rfl w.heap.size 4 i0 _ 1 Try.underlying128 hi hz0 hz1 .i64 .i64 _ _ N rfl rfl rfl rfl (by rw [hz2]; have := HN.out; omega) (by have := HN.out; unfold maxLen; omega) (Nat.le_refl _) ?_
  intro w1 hown hg
  have HO1 := Lib.hid hown
  have HG1 := Lib.hid (below_of_grown8 hg)
  have HMC := Lib.hid hg
  clear hown hg
  obtain ⟨g, hge⟩ : ∃ g, g = w.heap.size := ⟨_, rfl⟩
  rw [← hge]
  rw [← hge] at HO1
  have HGE := Lib.hid (show w.heap.size ≤ g by omega)
  have F0 := Lib.hid (show Fst w w1 g N 0 b from by
    rcases HO1.out.2 with ⟨h0, _⟩ | ⟨g', cap, cur, h0, _, h2, _, _, h5, _⟩
    · cases h0
    · injection h0 with h0 _ h7
      injection h0 with h0
      injection h0 with h0
      subst h0 h7
      exact ⟨⟨cur, h2, by rw [h5, Nat.mul_one], fun i hi => absurd hi (Nat.not_lt_zero _)⟩, Nat.zero_le _, HG1.out⟩)
  have hab : a.block < w.heap.size := block_lt_of_cell HB.out
  have HB1 := Lib.hid (show w1.cell? a = some (.bool b) from by rw [HG1.out.cell hab]; exact HB.out)
  clear hge HO1 hab
  have HCP := Lib.hid (show ∃ w2, (Builtin.copy_ #[128, 128] 3 #[.slice (some ⟨g, 0, none⟩) N N, .slice (some a) 1 c]).run Try.prog w1 = .ok (goInt (Nat.min 1 N)) w2 ∧ Fst w w2 g N (Nat.min 1 N) b from by
    obtain ⟨cur, hc, hs, _⟩ := F0.out.cells
    have hm1 : Nat.min 1 N ≤ 1 ∧ Nat.min 1 N ≤ N := ⟨Nat.min_le_left _ _, Nat.min_le_right _ _⟩
    have hr := run_copyN (P := Try.prog) w1 128 128 3 4 1 Try.underlying128 info_bool g 0 N N a 1 c cur 4 (List.replicate (Nat.min 1 N) (.bool b)) hc
      (by rw [List.length_replicate, Nat.mul_one]) (fun j v hv => by
        have hj : j < Nat.min 1 N := by have := (List.getElem?_eq_some_iff.1 hv).1; rwa [List.length_replicate] at this
        rw [List.getElem?_replicate, if_pos hj] at hv
        obtain rfl : j = 0 := by omega
        rw [show a.add 0 = a by rw [add_zero], ← hv]
        exact HB1.out) (by rw [List.length_replicate]; omega) (fun v hv => by rw [List.eq_of_mem_replicate hv]; rfl)
    refine ⟨_, hr, ⟨⟨_, setRow_heap _ _ _ _ _ _ hc, ?_, fun i hi => ?_⟩, hm1.2, below_setRow F0.out.bel HGE.out _⟩⟩
    · rw [List.size_toArray, length_splice _ _ _ (by rw [List.length_replicate, Array.length_toList]; omega), Array.length_toList]; exact hs
    · rw [List.getElem?_toArray, splice_get _ _ _ (by rw [List.length_replicate, Array.length_toList]; omega), List.length_replicate, if_neg (Nat.not_lt_zero _), if_pos (by omega), List.getElem?_replicate, if_pos (by omega)])
  obtain ⟨m0, hm0⟩ : ∃ m0, m0 = Nat.min 1 N := ⟨_, rfl⟩
  rw [← hm0] at HCP
  have HM0 := Lib.hid hm0
  obtain ⟨w2, hcp, hf2⟩ := HCP.out
  have F2 := Lib.hid hf2
  have hcq : (Builtin.copy_ #[128, 128] 3 #[.slice (some ⟨g, 0, none⟩) N N, .slice (some a) 1 c]).run Try.prog w1 = .ok (.int .i64 m0) w2 := hcp
  clear hm0 hcp hf2 HCP F0 HMC HG1 HB1
  go_wp2_with fail
  go_loopw [8] (fun x wr => ∃ n : Nat, x = .int .i64 n ∧ Fst w wr g N n b ∧ (n = 0 → N = 0)) (fun x _ => N - (intOf x).toNat)
  case atStart => exact ⟨m0, rfl, F2.out, fun h => by have h1 := HM0.out; rw [h] at h1; have : Nat.min 1 N = min 1 N := rfl; omega⟩
  case round =>
    clear F2 HM0 hcq
    obtain ⟨n, rfl, hf, hnz⟩ := hrel
    have FF := Lib.hid hf
    have HNZ := Lib.hid hnz
    clear hf hnz
    by_cases hlt : n < N
    · have HLT := Lib.hid hlt
      have m0 : (0 : Int) ≤ (n : Int) := by omega
      have m1 : (n : Int) < (N : Int) := by omega
      have m2 : (n : Int) ≤ (N : Int) := by omega
      have m3 : ¬ N = n := by omega
      have e1 : (N : Int) - (n : Int) = ((N - n : Nat) : Int) := by omega
      obtain ⟨k, hk⟩ : ∃ k, k = Nat.min n (N - n) := ⟨_, rfl⟩
      have HK := Lib.hid hk
      have HKB := Lib.hid (show k ≤ n ∧ k ≤ N - n by rw [hk]; exact ⟨Nat.min_le_left _ _, Nat.min_le_right _ _⟩)
      have HK0 := Lib.hid (show 0 < k by
        have h1 : n ≠ 0 := fun h => by have := HNZ.out h; omega
        have : Nat.min n (N - n) = min n (N - n) := rfl
        omega)
      have wk : IntKind.i64.wrap ((n : Int) + (k : Int)) = ((n + k : Nat) : Int) := by rw [show (n : Int) + (k : Int) = ((n + k : Nat) : Int) by omega]; exact IntWalk.i64_in _ (by have := HKB.out; have := HN.out; omega)
      have HCP := Lib.hid (show ∀ W, W = wr.drew → ∃ w', (Builtin.copy_ #[128, 128] 3 #[.slice (some ⟨g, n, none⟩) (N - n) (N - n), .slice (some ⟨g, 0, none⟩) n N]).run Try.prog W = .ok (goInt k) w' ∧ Fst w w' g N (n + k) b from fun W hW => by
        subst hW
        have hf : Fst w wr.drew g N n b := ⟨FF.out.cells, FF.out.le, FF.out.bel.drew⟩
        exact hf.copy HGE.out k HK.out _ _)
      clear hlt hk
      go_wp2_with fail
      refine wp_region_held_drew (S := fun _ => True) (by kernel_rfl) trivial (fun hh => ?_)
      have HH := Lib.hid hh
      clear hh
      refine wpAnyH_take (i := 0) (v := ?vR0) rfl (by kernel_rfl) (by kernel_rfl) (by kernel_rfl) (fun _ _ _ h => h) (Or.inl ⟨by rfl, fun w' _ => ?yR0⟩) HH.out ?_
      case yR0 => (go_simp; try with_reducible rfl)
      refine wpAnyH_take (i := 1) (v := ?vR1) rfl (by kernel_rfl) (by kernel_rfl) (by kernel_rfl) (fun _ _ _ h => h) (Or.inl ⟨by rfl, fun w' _ => ?yR1⟩) HH.out ?_
      case yR1 => (go_simp; try with_reducible rfl)
      try simp only [List.getElem_toArray, List.getElem_cons_succ, List.getElem_cons_zero, Act.put, List.setIfInBounds_toArray, List.set_cons_zero, List.set_cons_succ]
      refine wpAnyH_take (i := 2) (v := ?vR2) rfl (by kernel_rfl) (by kernel_rfl) (by kernel_rfl) (fun _ _ _ h => h) (Or.inl ⟨by rfl, fun w' _ => ?yR2⟩) HH.out ?_
      case yR2 => (go_simp; try with_reducible rfl)
      refine wpAnyH_take (i := 3) (v := ?vR3) rfl (by kernel_rfl) (by kernel_rfl) (by kernel_rfl) (fun _ _ _ h => h) (Or.inl ⟨by rfl, fun w' _ => ?yR3⟩) HH.out ?_
      case yR3 => (go_simp; try with_reducible rfl)
      refine wpAnyH_take (i := 4) (v := ?vR4) rfl (by kernel_rfl) (by kernel_rfl) (by kernel_rfl) (fun _ _ _ h => h) (Or.inl ⟨by rfl, fun w' _ => ?yR4⟩) HH.out ?_
      case yR4 => (go_simp; try with_reducible rfl)
      try simp only [List.getElem_toArray, List.getElem_cons_succ, List.getElem_cons_zero, Act.put, List.setIfInBounds_toArray, List.set_cons_zero, List.set_cons_succ]
      refine wpAnyH_take (i := 5) (v := ?vR5) rfl (by kernel_rfl) (by kernel_rfl) (by kernel_rfl) (fun _ _ _ h => h) (Or.inl ⟨by rfl, fun w' _ => ?yR5⟩) HH.out ?_
      case yR5 => (go_simp; try with_reducible rfl)
      refine wpAnyH_take (i := 6) (v := ?vR6) rfl (by kernel_rfl) (by kernel_rfl) (by kernel_rfl) (fun _ _ _ h => h) (Or.inl ⟨by rfl, fun w' _ => ?yR6⟩) HH.out ?_
      case yR6 => (go_simp; try with_reducible rfl)
      try simp only [List.getElem_toArray, List.getElem_cons_succ, List.getElem_cons_zero, Act.put, List.setIfInBounds_toArray, List.set_cons_zero, List.set_cons_succ]
      refine wpAnyH_ready (rs := [7]) (by kernel_rfl) (by simp) (AllReadyH.cons rfl (fun K hK => ?_) AllReadyH.nil)
      obtain ⟨w3, hcp, hf3⟩ := HCP.out _ rfl
      have F3 := Lib.hid hf3
      have HC3 := Lib.hid hcp
      clear hcp hf3 HCP
      refine step_copyR (by rfl) (.tmp 41) (.tmp 44) 128 128 rfl _ _ rfl rfl HC3.out ?_
      refine hK.out _ _ trivial (fun hh => ?_)
      have HH' := Lib.hid hh
      clear hh hK K HH FF HC3
      have HH := Lib.hid HH'.out
      clear HH'
      refine wpAnyH_take (i := 8) (v := ?vR8) rfl (by kernel_rfl) (by kernel_rfl) (by kernel_rfl) (fun _ _ _ h => h) (Or.inl ⟨by rfl, fun w' _ => ?yR8⟩) HH.out ?_
      case yR8 => (go_simp; try with_reducible rfl)
      refine wpAnyH_take (i := 9) (v := ?vR9) rfl (by kernel_rfl) (by kernel_rfl) (by kernel_rfl) (fun _ _ _ h => h) (Or.inl ⟨by rfl, fun w' _ => ?yR9⟩) HH.out ?_
      case yR9 => (go_simp; try with_reducible rfl)
      try simp only [List.getElem_toArray, List.getElem_cons_succ, List.getElem_cons_zero, Act.put, List.setIfInBounds_toArray, List.set_cons_zero, List.set_cons_succ]
      refine wpAnyH_done (by kernel_rfl) ?_ _
      go_wp2_with fail
      go_roundw
      case rel => exact ⟨n + k, by go_num, F3.out, fun h => by have := HK0.out; omega⟩
      case measure => (have := HLT.out; have := HK0.out; simp [intOf]; omega)
    · obtain rfl : n = N := by have := FF.out.le; omega
      clear hlt
      go_wp2_with fail
      go_ret
      exact ⟨g, rfl, FF.out.row HGE.out (by have := HN.out; unfold maxLen; omega), FF.out.bel⟩
end Go.Proofs.Ytgfldfofiglefaa.Mi
/-
  The contract of mirror.New.
-/
namespace Go.Proofs.Ytgfldfofiglefaa.Mi
open Go.RowKit Kd
attribute [local go_sem ↓] Go.wp_at_zero Go.wp_at_succ
section
variable {C : Duo} {G : Gd} {g : Nat} {w w1 w' : World} {s : Mr C} {A B : Option Addr} {n c m e : Nat} {F1 F : Nat → Prop}
def Mr.row (s : Mr C) (i : Nat) (l : List Bool) : Mr C := if i = 0 then ⟨s.d, l, s.b⟩ else ⟨s.d, s.a, l⟩
/-- A new row of what is stale. -/
theorem ml_setrow (hR : ∀ A n c B m e, G.R A n c B m e) (h : (ML C G g).At w s F) (hb : Below w.heap.size w w1) {q k i : Nat} {l : List Bool} (ho : w1.ownsRow w.heap.size 4 1 (.slice (some ⟨q, 0, none⟩) k k) k (bs l)) (hl : l.length = k) (hi : i < 2) :
    Mv (ML C G g) w F (w1.setCell ⟨g, 2 + i, none⟩ (.slice (some ⟨q, 0, none⟩) k k)) (s.row i l) (fun x => F x ∨ x = q) := by
  obtain ⟨A, n, c, B, m, e, F1, h, h1, h2⟩ := h
  have hlt := h.lt
  have hq := (ho.lt q rfl)
  have h0 : MrR C G g w1 s A n c B m e F1 := h.but (T := fun _ => False) (but_below hb) (fun _ _ h => h)
  have hT : But (fun x => x = g) w1 (w1.setCell ⟨g, 2 + i, none⟩ (.slice (some ⟨q, 0, none⟩) k k)) := but_one _
  have hgw : g < w.heap.size := h.blk.lt
  have ho0 : w1.ownsRow 0 4 1 (.slice (some ⟨q, 0, none⟩) k k) k (bs l) := ⟨ho.1, by
    rcases ho.2 with h3 | ⟨g', cap, cur, h3, _, h4⟩
    · exact .inl h3
    · exact .inr ⟨g', cap, cur, h3, Nat.zero_le _, h4⟩⟩
  have hfin : ∀ x, (F x ∨ x = q) → x < (w1.setCell ⟨g, 2 + i, none⟩ (.slice (some ⟨q, 0, none⟩) k k)).heap.size := by
    rintro x (hx | rfl)
    · exact Nat.lt_of_lt_of_le (h2 x hx) (Nat.le_trans hb.size hT.size)
    · exact Nat.lt_of_lt_of_le hq.2 hT.size
  have hnew : ∀ x, (F x ∨ x = q) → F x ∨ w.heap.size ≤ x := by
    rintro x (hx | rfl)
    · exact .inl hx
    · exact .inr hq.1
  have hbt : But F w (w1.setCell ⟨g, 2 + i, none⟩ (.slice (some ⟨q, 0, none⟩) k k)) := (but_below hb).trans (hT.mono (fun x hx => h1 x (.inl hx)))
  have hoT := Own.but ho0 hT (fun x hx hx' => by injection hx with hx; replace hx : q = x := hx; omega)
  have hdT := C.L.but h0.d hT (fun x hx hx' => h.ag (hx' ▸ hx))
  have hgb : ∀ x ∈ G.l, Blk (w1.setCell ⟨g, 2 + i, none⟩ (.slice (some ⟨q, 0, none⟩) k k)) x.1 x.2.1 x.2.2 ∧ ¬ F1 x.1 := fun x hx => ⟨(h0.gb x hx).1.but hT (fun hx' => h0.box_ne hx h0.blk (.inr rfl) hx'), (h0.gb x hx).2⟩
  rcases two hi with rfl | rfl
  · refine ⟨⟨some ⟨q, 0, none⟩, k, k, B, m, e, F1, ⟨blk_setN8 h0.blk 2 _, hoT, Own.but h0.b hT (fun x hx hx' => h.rows.2 x hx hx'), hl, h.bn, hdT, h.ag, ?_, h.ab, ?_, hR _ _ _ _ _ _, hgb⟩, ?_, hfin⟩, hnew, hbt⟩
    · intro x hx hf
      injection hx with hx; replace hx : q = x := hx
      have := C.L.lt h.d x hf; omega
    · intro x hx hx'
      injection hx with hx; replace hx : q = x := hx
      have := hlt x (.inr (.inr (.inl hx'))); omega
    · rintro x (hx | hx | hx | hx)
      · exact .inl (h1 x (.inl hx))
      · injection hx with hx; exact .inr hx.symm
      · exact .inl (h1 x (.inr (.inr (.inl hx))))
      · exact .inl (h1 x (.inr (.inr (.inr hx))))
  · refine ⟨⟨A, n, c, some ⟨q, 0, none⟩, k, k, F1, ⟨blk_setN8 h0.blk 3 _, Own.but h0.a hT (fun x hx hx' => h.rows.1 x hx hx'), hoT, h.an, hl, hdT, h.ag, h.aa, ?_, ?_, hR _ _ _ _ _ _, hgb⟩, ?_, hfin⟩, hnew, hbt⟩
    · intro x hx hf
      injection hx with hx; replace hx : q = x := hx
      have := C.L.lt h.d x hf; omega
    · intro x hx hx'
      injection hx' with hx'; replace hx' : q = x := hx'
      have := hlt x (.inr (.inl hx)); omega
    · rintro x (hx | hx | hx | hx)
      · exact .inl (h1 x (.inl hx))
      · exact .inl (h1 x (.inr (.inl hx)))
      · injection hx with hx; exact .inr hx.symm
      · exact .inl (h1 x (.inr (.inr (.inr hx))))
/-- How many places a mirror has; a new one. -/
def Duo.places (C : Duo) (d : C.L.St) : Nat := min (C.len d 0) (C.len d 1)
def newM (C : Duo) (d : C.L.St) : Mr C := ⟨d, List.replicate (C.places d) (!(C.there d 0)), List.replicate (C.places d) (!(C.there d 1))⟩
theorem ml_new (hR : ∀ A n c B m e, G.R A n c B m e) {d : C.L.St} (h : C.L.At w d F1) (hG : ∀ x ∈ G.l, Blk w x.1 x.2.1 x.2.2 ∧ ¬ F1 x.1) (hw1 : w1 = w.alloc (.cells (mrC C G none 0 0 none 0 0) 131)) : (ML C G w.heap.size).At w1 ⟨d, [], []⟩ (fun x => (F1 x ∨ ∃ y ∈ G.l, x = y.1) ∨ x = w.heap.size) := by
  have hb : Below w.heap.size w w1 := by rw [hw1]; exact (Below.refl _ _).alloc (Nat.le_refl _) _
  refine ⟨none, 0, 0, none, 0, 0, F1, ⟨by rw [hw1]; exact heap_alloc_new _ _, ⟨rfl, .inl ⟨rfl, rfl⟩⟩, ⟨rfl, .inl ⟨rfl, rfl⟩⟩, rfl, rfl, C.L.below h hb, fun hf => by have := C.L.lt h _ hf; omega, fun q hq => (by cases hq), fun q hq => (by cases hq), fun q hq => (by cases hq), hR _ _ _ _ _ _, fun x hx => ⟨(hG x hx).1.below hb, (hG x hx).2⟩⟩, ?_, ?_⟩
  · rintro x (hx | hx | hx | hx | hx)
    · exact .inr hx
    · cases hx
    · cases hx
    · exact .inl (.inl hx)
    · exact .inl (.inr hx)
  · rintro x ((hx | ⟨y, hy, rfl⟩) | rfl)
    · exact Nat.lt_of_lt_of_le (C.L.lt h x hx) hb.size
    · exact Nat.lt_of_lt_of_le (hG y hy).1.lt hb.size
    · rw [hw1]; simp
theorem ml_len (h : (ML C G g).At w s F) {i : Nat} (hi : i < 2) : Calls Try.prog 22 #[.pointer (C.ptr i)] w (RetB (.int .i64 (C.len s.d i : Int)) w) := by
  obtain ⟨F1, hd, _⟩ := ml_dev h
  exact C.clen hd hi
theorem ml_lenle (h : (ML C G g).At w s F) {i : Nat} (hi : i < 2) : C.len s.d i ≤ 4096 := by
  obtain ⟨F1, hd, _⟩ := ml_dev h
  exact C.len_le hd hi
theorem ml_rowcell (h : (ML C G g).At w s F) {i : Nat} (hi : i < 2) : (∃ v, w.cell? ⟨g, 2 + i, none⟩ = some v) ∧ w.frozen? ⟨g, 2 + i, none⟩ = false ∧ g < w.heap.size := by
  obtain ⟨A, n, c, B, m, e, F1, h, _⟩ := h
  rcases two hi with rfl | rfl
  · exact ⟨⟨_, h.blk.cell 2⟩, h.blk.free 2, h.blk.lt⟩
  · exact ⟨⟨_, h.blk.cell 3⟩, h.blk.free 3, h.blk.lt⟩
theorem own_moreN {w : World} {base base' n size : Nat} {e : TypeId} {v : Value} {xs : List Value} (h : w.ownsRow base e size v n xs) (hb : base' ≤ base) : w.ownsRow base' e size v n xs :=
  ⟨h.1, h.2.imp id (fun ⟨g, cap, cur, h1, h2, h3⟩ => ⟨g, cap, cur, h1, Nat.le_trans hb h2, h3⟩)⟩
theorem gd_cell (G : Gd) : G.v.oneCell' = true := by unfold Gd.v; split <;> rfl
theorem gd_form (G : Gd) : G.v = .nilFunc ∨ ∃ k c, G.v = .func (.func k) #[] c := by
  unfold Gd.v; split
  · exact .inl rfl
  · exact .inr ⟨_, _, rfl⟩
theorem build_mir (p q : Option Addr) (gv : Value) (hg : gv = .nilFunc ∨ ∃ k c, gv = .func (.func k) #[] c) (W : World) : (Instr.build 131 #[(0, .agg #[.pointer p, .pointer q]), (2, gv)]).run Try.prog W = .ok (.agg #[.pointer p, .pointer q, .slice none 0 0, .slice none 0 0, gv]) W := by
  rcases hg with rfl | ⟨k, c, rfl⟩ <;> kernel_rfl
theorem build_two (p q : Option Addr) (W : World) : (Instr.build 52 #[(0, .pointer p), (1, .pointer q)]).run Try.prog W = .ok (.agg #[.pointer p, .pointer q]) W := by kernel_rfl
set_option maxRecDepth 100000 in
set_option maxHeartbeats 12800000 in
theorem new_anyG (hR : ∀ A n c B m e, G.R A n c B m e) {d : C.L.St} (h : C.L.At w d F1) (hG : ∀ x ∈ G.l, Blk w x.1 x.2.1 x.2.2 ∧ ¬ F1 x.1) {FF : Nat → Prop} (hFF : FF = fun x => F1 x ∨ ∃ y ∈ G.l, x = y.1) :
    Calls Try.prog 28 #[.pointer (C.ptr 0), .pointer (C.ptr 1), G.v] w (fun e w' => ∃ g F', e = .returned (.pointer (some ⟨g, 0, none⟩)) ∧ (ML C G g).At w' (newM C d) F' ∧ (∀ q, F' q → FF q ∨ w.heap.size ≤ q) ∧ But FF w w') := by
  obtain ⟨w1, hw1⟩ : ∃ w1, w1 = w.alloc (.cells (mrC C G none 0 0 none 0 0) 131) := ⟨_, rfl⟩
  have H := Lib.hid h
  have HA := Lib.hid (show (ML C G w.heap.size).At w1 ⟨d, [], []⟩ (fun x => FF x ∨ x = w.heap.size) from by rw [hFF]; exact ml_new hR h hG hw1)
  have HR := Lib.hid hR
  obtain ⟨p, hp⟩ : ∃ p, p = C.ptr 0 := ⟨_, rfl⟩
  obtain ⟨q, hq⟩ : ∃ q, q = C.ptr 1 := ⟨_, rfl⟩
  have hgf := gd_form G
  obtain ⟨gv, hgv⟩ : ∃ gv, gv = G.v := ⟨_, rfl⟩
  have HL0 := Lib.hid (show ∀ W s' F', (ML C G w.heap.size).At W s' F' → s'.d = d → Calls Try.prog 22 #[.pointer p] W (RetB (.int .i64 (C.len d 0 : Int)) W) from fun W s' F' h hd => by rw [hp, ← hd]; exact ml_len h (by omega))
  have HL1 := Lib.hid (show ∀ W s' F', (ML C G w.heap.size).At W s' F' → s'.d = d → Calls Try.prog 22 #[.pointer q] W (RetB (.int .i64 (C.len d 1 : Int)) W) from fun W s' F' h hd => by rw [hq, ← hd]; exact ml_len h (by omega))
  have HLE := Lib.hid (show C.places d ≤ 4096 from Nat.le_trans (Nat.min_le_left _ _) (C.len_le h (i := 0) (by omega)))
  have HBM := Lib.hid (build_mir p q gv (by rw [hgv]; exact hgf))
  have HB2 := Lib.hid (build_two p q)
  have HMC : mrC C G none 0 0 none 0 0 = #[.pointer p, .pointer q, .slice none 0 0, .slice none 0 0, gv] := by rw [mrC, hp, hq, hgv]
  rw [HMC] at hw1
  rw [← hp, ← hq, ← hgv]
  have BW1 := Lib.hid (show Below w.heap.size w w1 from by rw [hw1]; exact (Below.refl _ _).alloc (Nat.le_refl _) _)
  obtain ⟨g, hg⟩ : ∃ g, g = w.heap.size := ⟨_, rfl⟩
  rw [← hg] at HA HL0 HL1
  have HG := Lib.hid hg
  obtain ⟨x, hx⟩ : ∃ x, x = C.there d 0 := ⟨_, rfl⟩
  obtain ⟨y, hy⟩ : ∃ y, y = C.there d 1 := ⟨_, rfl⟩
  obtain ⟨k, hk⟩ : ∃ k, k = C.places d := ⟨_, rfl⟩
  have HN := Lib.hid (show newM C d = ⟨d, List.replicate k (!x), List.replicate k (!y)⟩ by rw [newM, hx, hy, hk])
  obtain ⟨la, hla⟩ : ∃ la, la = C.len d 0 := ⟨_, rfl⟩
  obtain ⟨lb, hlb⟩ : ∃ lb, lb = C.len d 1 := ⟨_, rfl⟩
  rw [← hla] at HL0
  rw [← hlb] at HL1
  have HKM := Lib.hid (show (if lb < la then (lb : Int) else (la : Int)) = (k : Int) by rw [hk, Duo.places, ← hla, ← hlb]; split <;> omega)
  rw [← hk] at HLE
  have HET := Lib.hid (each_there HA.out)
  rw [show (Mr.d (⟨d, [], []⟩ : Mr C)) = d from rfl, ← hx, ← hy] at HET
  rw [HN.out]
  clear hp hq hgf hgv HMC h hG hFF hR hx hy hk hla hlb HN
  go_enter Try.func28, Try.ntmps28
  go_wp2_with (first
    | (refine wpList_build rfl 52 #[(0, .tmp 10), (1, .tmp 11)] rfl (v := .agg #[.pointer p, .pointer q]) ?hbld ?_; case hbld => (simp only [List.map_toArray, List.map_cons, List.map_nil]; exact HB2.out _))
    | (refine wpList_build rfl 131 #[(0, .tmp 12), (2, .tmp 13)] rfl (v := .agg #[.pointer p, .pointer q, .slice none 0 0, .slice none 0 0, gv]) ?hbld ?_; case hbld => (simp only [List.map_toArray, List.map_cons, List.map_nil]; exact HBM.out _)))
  rw [← hw1, ← hg]
  clear hw1 hg
  refine HET.out.mono ?_
  rintro e w2 ⟨rfl, F2, hm2⟩
  have M2 := Lib.hid hm2
  clear hm2 HET HB2 HBM
  go_wp2_with fail
  go_loopw [19] (fun i wr => ∃ (j : Nat) (F' : Nat → Prop) (s' : Mr C), i = .int .i64 j ∧ Mv (ML C G g) w1 (fun x => FF x ∨ x = g) wr s' F' ∧ s'.d = d ∧ ((j = 0 ∧ s' = ⟨d, [], []⟩) ∨ (j = 1 ∧ s' = ⟨d, List.replicate k (!x), []⟩) ∨ (j = 2 ∧ s' = ⟨d, List.replicate k (!x), List.replicate k (!y)⟩))) (fun i _ => 2 - (intOf i).toNat)
  case atStart => exact ⟨0, F2, _, rfl, M2.out, rfl, .inl ⟨rfl, rfl⟩⟩
  case round =>
    clear M2
    obtain ⟨j, F', s', rfl, hm, hsd, hj⟩ := hrel
    have M := Lib.hid hm
    have HSD := Lib.hid hsd
    clear hm hsd
    rcases hj with ⟨rfl, hs⟩ | ⟨rfl, hs⟩ | ⟨rfl, hs⟩
    · skip
      have HS := Lib.hid hs
      clear hs
      go_wp2_with (refine wpList_execg8 (o := { dst := some 22, op := .index 50 (.tmp 18) (.tmp 19), type := _, pos := _, after := _, guard := _ }) (v := .bool x) (w' := wr) rfl ?hix ?_; case hix => kernel_rfl)
      refine wp_region_held_drew (S := fun _ => True) (by kernel_rfl) trivial (fun hh => ?_)
      have HH := Lib.hid hh
      clear hh
      refine wpAnyH_take (i := 0) (v := ?vN00) rfl (by kernel_rfl) (by kernel_rfl) (by kernel_rfl) (fun _ _ _ h => h) (Or.inl ⟨by rfl, fun w' _ => ?yN00⟩) HH.out ?_
      case yN00 => (go_simp; try with_reducible rfl)
      refine wpAnyH_take (i := 1) (v := ?vN01) rfl (by kernel_rfl) (by kernel_rfl) (by kernel_rfl) (fun _ _ _ h => h) (Or.inl ⟨by rfl, fun w' _ => ?yN01⟩) HH.out ?_
      case yN01 => (go_simp; try with_reducible rfl)
      try simp only [List.getElem_toArray, List.getElem_cons_succ, List.getElem_cons_zero, Act.put, List.setIfInBounds_toArray, List.set_cons_zero, List.set_cons_succ]
      refine wpAnyH_take (i := 2) (v := ?vN02) rfl (by kernel_rfl) (by kernel_rfl) (by kernel_rfl) (fun _ _ _ h => h) (Or.inl ⟨by rfl, fun w' _ => ?yN02⟩) HH.out ?_
      case yN02 => (go_simp; try with_reducible rfl)
      refine wpAnyH_take (i := 3) (v := ?vN03) rfl (by kernel_rfl) (by kernel_rfl) (by kernel_rfl) (fun _ _ _ h => h) (Or.inl ⟨by rfl, fun w' _ => ?yN03⟩) HH.out ?_
      case yN03 => (go_simp; try with_reducible rfl)
      refine wpAnyH_take (i := 5) (v := ?vN05) rfl (by kernel_rfl) (by kernel_rfl) (by kernel_rfl) (fun _ _ _ h => h) (Or.inl ⟨by rfl, fun w' _ => ?yN05⟩) HH.out ?_
      case yN05 => (go_simp; try with_reducible rfl)
      try simp only [List.getElem_toArray, List.getElem_cons_succ, List.getElem_cons_zero, Act.put, List.setIfInBounds_toArray, List.set_cons_zero, List.set_cons_succ]
      refine wpAnyH_take (i := 7) (v := ?vN07) rfl (by kernel_rfl) (by kernel_rfl) (by kernel_rfl) (fun _ _ _ h => h) (Or.inl ⟨by rfl, fun w' _ => ?yN07⟩) HH.out ?_
      case yN07 => (go_simp; try with_reducible rfl)
      refine wpAnyH_take (i := 11) (v := ?vN011) rfl (by kernel_rfl) (by kernel_rfl) (by kernel_rfl) (fun _ _ _ h => h) (Or.inl ⟨by rfl, fun w' _ => ?yN011⟩) HH.out ?_
      case yN011 => (go_simp; try with_reducible rfl)
      refine wpAnyH_take (i := 12) (v := ?vN012) rfl (by kernel_rfl) (by kernel_rfl) (by kernel_rfl) (fun _ _ _ h => h) (Or.inl ⟨by rfl, fun w' _ => ?yN012⟩) HH.out ?_
      case yN012 => (go_simp; try with_reducible rfl)
      try simp only [List.getElem_toArray, List.getElem_cons_succ, List.getElem_cons_zero, Act.put, List.setIfInBounds_toArray, List.set_cons_zero, List.set_cons_succ]
      refine wpAnyH_ready (rs := [4, 6]) (by kernel_rfl) (by simp) (AllReadyH.cons rfl (fun K hK => ?_) (AllReadyH.cons rfl (fun K hK => ?_) AllReadyH.nil))
      · skip
        go_simp
        refine hK.out _ _ trivial (fun hh => ?_)
        have HH' := Lib.hid hh
        clear hh hK K HH
        have HH := Lib.hid HH'.out
        clear HH'
        have B1 := Lib.hid (show Below wr.heap.size wr (World.alloc wr.drew (.cells #[.bool (!x)] 4)) from ((Below.refl wr.heap.size wr).drew).alloc ((Below.refl wr.heap.size wr).drew).size _)
        have X1 := Lib.hid (show Blk (World.alloc wr.drew (.cells #[.bool (!x)] 4)) wr.drew.heap.size #[.bool (!x)] 4 from heap_alloc_new _ _)
        try simp only [List.getElem_toArray, List.getElem_cons_succ, List.getElem_cons_zero, Act.put, List.setIfInBounds_toArray, List.set_cons_zero, List.set_cons_succ]
        refine wpAnyH_ready (rs := [6]) (by kernel_rfl) (by simp) (AllReadyH.cons rfl (fun K hK => ?_) AllReadyH.nil)
        go_simp
        refine (HL0.out _ _ _ ((ML C G g).below M.out.at_ (B1.out)) HSD.out).mono ?_
        rintro e v2 ⟨rfl, bw⟩
        have B2 := Lib.hid ((B1.out).trans (bw.mono (B1.out).size))
        have X2 := Lib.hid (Blk.below (X1.out) bw)
        clear bw
        go_simp
        refine hK.out _ _ trivial (fun hh => ?_)
        have HH' := Lib.hid hh
        clear hh hK K HH
        have HH := Lib.hid HH'.out
        clear HH'
        try simp only [List.getElem_toArray, List.getElem_cons_succ, List.getElem_cons_zero, Act.put, List.setIfInBounds_toArray, List.set_cons_zero, List.set_cons_succ]
        refine wpAnyH_ready (rs := [8]) (by kernel_rfl) (by simp) (AllReadyH.cons rfl (fun K hK => ?_) AllReadyH.nil)
        go_simp
        refine (HL1.out _ _ _ ((ML C G g).below M.out.at_ (B2.out)) HSD.out).mono ?_
        rintro e v3 ⟨rfl, bw⟩
        have B3 := Lib.hid ((B2.out).trans (bw.mono (B2.out).size))
        have X3 := Lib.hid (Blk.below (X2.out) bw)
        clear bw
        go_simp
        refine hK.out _ _ trivial (fun hh => ?_)
        have HH' := Lib.hid hh
        clear hh hK K HH
        have HH := Lib.hid HH'.out
        clear HH'
        try simp only [List.getElem_toArray, List.getElem_cons_succ, List.getElem_cons_zero, Act.put, List.setIfInBounds_toArray, List.set_cons_zero, List.set_cons_succ]
        refine wpAnyH_take (i := 9) (v := .int .i64 (k : Int)) rfl (by kernel_rfl) (by kernel_rfl) (by kernel_rfl) (fun _ _ _ h => h) (Or.inl ⟨by rfl, fun w' hw' => ?ym39⟩) HH.out ?_
        case ym39 => (go_simp; exact HKM.out)
        try simp only [List.getElem_toArray, List.getElem_cons_succ, List.getElem_cons_zero, Act.put, List.setIfInBounds_toArray, List.set_cons_zero, List.set_cons_succ]
        refine wpAnyH_ready (rs := [10]) (by kernel_rfl) (by simp) (AllReadyH.cons rfl (fun K hK => ?_) AllReadyH.nil)
        go_simp
        refine (repeat_any (a := ⟨wr.drew.heap.size, 0, none⟩) ((X3.out).cell 0) k HLE.out).mono ?_
        rintro e v9 ⟨q9, rfl, ho9, bw9⟩
        have HS9 := Lib.hid (ml_setrow HR.out M.out.at_ ((B3.out).trans (bw9.mono (B3.out).size)) (own_moreN ho9 (B3.out).size) (List.length_replicate ..) (i := 0) (by omega))
        obtain ⟨⟨u9, c9⟩, f9, _⟩ := ml_rowcell ((ML C G g).below M.out.at_ ((B3.out).trans (bw9.mono (B3.out).size))) (i := 0) (by omega)
        have c9' : v9.cell? ⟨g, 2, none⟩ = some u9 := c9
        have f9' : v9.frozen? ⟨g, 2, none⟩ = false := f9
        clear bw9 ho9 c9 f9
        go_simp
        refine hK.out _ _ trivial (fun hh => ?_)
        have HH' := Lib.hid hh
        clear hh hK K HH
        have HH := Lib.hid HH'.out
        clear HH'
        try simp only [List.getElem_toArray, List.getElem_cons_succ, List.getElem_cons_zero, Act.put, List.setIfInBounds_toArray, List.set_cons_zero, List.set_cons_succ]
        refine wpAnyH_take (i := 13) (v := ?vz313) rfl (by kernel_rfl) (by kernel_rfl) (by kernel_rfl) (fun _ _ _ h => h) (Or.inl ⟨by rfl, fun w' _ => ?yz313⟩) HH.out ?_
        case yz313 => (go_simp; try with_reducible rfl)
        try simp only [List.getElem_toArray, List.getElem_cons_succ, List.getElem_cons_zero, Act.put, List.setIfInBounds_toArray, List.set_cons_zero, List.set_cons_succ]
        refine wpAnyH_ready (rs := [14]) (by kernel_rfl) (by simp) (AllReadyH.cons rfl (fun K hK => ?_) AllReadyH.nil)
        go_simp
        refine hK.out _ _ trivial (fun hh => ?_)
        have HH' := Lib.hid hh
        clear hh hK K HH
        have HH := Lib.hid HH'.out
        clear HH'
        refine wpAnyH_done (by kernel_rfl) ?_ _
        go_wp2_with fail
        go_roundw
        case rel => exact ⟨1, _, _, rfl, M.out.trans HS9.out, HSD.out, .inr (.inl ⟨rfl, by rw [HS.out]; rfl⟩)⟩
        case measure => simp [intOf]
      · skip
        go_simp
        refine (HL0.out _ _ _ ((ML C G g).below M.out.at_ ((Below.refl wr.heap.size wr).drew)) HSD.out).mono ?_
        rintro e v4 ⟨rfl, bw⟩
        have B4 := Lib.hid (((Below.refl wr.heap.size wr).drew).trans (bw.mono ((Below.refl wr.heap.size wr).drew).size))
        clear bw
        go_simp
        refine hK.out _ _ trivial (fun hh => ?_)
        have HH' := Lib.hid hh
        clear hh hK K HH
        have HH := Lib.hid HH'.out
        clear HH'
        try simp only [List.getElem_toArray, List.getElem_cons_succ, List.getElem_cons_zero, Act.put, List.setIfInBounds_toArray, List.set_cons_zero, List.set_cons_succ]
        refine wpAnyH_ready (rs := [4, 8]) (by kernel_rfl) (by simp) (AllReadyH.cons rfl (fun K hK => ?_) (AllReadyH.cons rfl (fun K hK => ?_) AllReadyH.nil))
        · skip
          go_simp
          refine hK.out _ _ trivial (fun hh => ?_)
          have HH' := Lib.hid hh
          clear hh hK K HH
          have HH := Lib.hid HH'.out
          clear HH'
          have B5 := Lib.hid (show Below wr.heap.size wr (World.alloc v4 (.cells #[.bool (!x)] 4)) from (B4.out).alloc (B4.out).size _)
          have X5 := Lib.hid (show Blk (World.alloc v4 (.cells #[.bool (!x)] 4)) v4.heap.size #[.bool (!x)] 4 from heap_alloc_new _ _)
          try simp only [List.getElem_toArray, List.getElem_cons_succ, List.getElem_cons_zero, Act.put, List.setIfInBounds_toArray, List.set_cons_zero, List.set_cons_succ]
          refine wpAnyH_ready (rs := [8]) (by kernel_rfl) (by simp) (AllReadyH.cons rfl (fun K hK => ?_) AllReadyH.nil)
          go_simp
          refine (HL1.out _ _ _ ((ML C G g).below M.out.at_ (B5.out)) HSD.out).mono ?_
          rintro e v6 ⟨rfl, bw⟩
          have B6 := Lib.hid ((B5.out).trans (bw.mono (B5.out).size))
          have X6 := Lib.hid (Blk.below (X5.out) bw)
          clear bw
          go_simp
          refine hK.out _ _ trivial (fun hh => ?_)
          have HH' := Lib.hid hh
          clear hh hK K HH
          have HH := Lib.hid HH'.out
          clear HH'
          try simp only [List.getElem_toArray, List.getElem_cons_succ, List.getElem_cons_zero, Act.put, List.setIfInBounds_toArray, List.set_cons_zero, List.set_cons_succ]
          refine wpAnyH_take (i := 9) (v := .int .i64 (k : Int)) rfl (by kernel_rfl) (by kernel_rfl) (by kernel_rfl) (fun _ _ _ h => h) (Or.inl ⟨by rfl, fun w' hw' => ?ym69⟩) HH.out ?_
          case ym69 => (go_simp; exact HKM.out)
          try simp only [List.getElem_toArray, List.getElem_cons_succ, List.getElem_cons_zero, Act.put, List.setIfInBounds_toArray, List.set_cons_zero, List.set_cons_succ]
          refine wpAnyH_ready (rs := [10]) (by kernel_rfl) (by simp) (AllReadyH.cons rfl (fun K hK => ?_) AllReadyH.nil)
          go_simp
          refine (repeat_any (a := ⟨v4.heap.size, 0, none⟩) ((X6.out).cell 0) k HLE.out).mono ?_
          rintro e v9 ⟨q9, rfl, ho9, bw9⟩
          have HS9 := Lib.hid (ml_setrow HR.out M.out.at_ ((B6.out).trans (bw9.mono (B6.out).size)) (own_moreN ho9 (B6.out).size) (List.length_replicate ..) (i := 0) (by omega))
          obtain ⟨⟨u9, c9⟩, f9, _⟩ := ml_rowcell ((ML C G g).below M.out.at_ ((B6.out).trans (bw9.mono (B6.out).size))) (i := 0) (by omega)
          have c9' : v9.cell? ⟨g, 2, none⟩ = some u9 := c9
          have f9' : v9.frozen? ⟨g, 2, none⟩ = false := f9
          clear bw9 ho9 c9 f9
          go_simp
          refine hK.out _ _ trivial (fun hh => ?_)
          have HH' := Lib.hid hh
          clear hh hK K HH
          have HH := Lib.hid HH'.out
          clear HH'
          try simp only [List.getElem_toArray, List.getElem_cons_succ, List.getElem_cons_zero, Act.put, List.setIfInBounds_toArray, List.set_cons_zero, List.set_cons_succ]
          refine wpAnyH_take (i := 13) (v := ?vz613) rfl (by kernel_rfl) (by kernel_rfl) (by kernel_rfl) (fun _ _ _ h => h) (Or.inl ⟨by rfl, fun w' _ => ?yz613⟩) HH.out ?_
          case yz613 => (go_simp; try with_reducible rfl)
          try simp only [List.getElem_toArray, List.getElem_cons_succ, List.getElem_cons_zero, Act.put, List.setIfInBounds_toArray, List.set_cons_zero, List.set_cons_succ]
          refine wpAnyH_ready (rs := [14]) (by kernel_rfl) (by simp) (AllReadyH.cons rfl (fun K hK => ?_) AllReadyH.nil)
          go_simp
          refine hK.out _ _ trivial (fun hh => ?_)
          have HH' := Lib.hid hh
          clear hh hK K HH
          have HH := Lib.hid HH'.out
          clear HH'
          refine wpAnyH_done (by kernel_rfl) ?_ _
          go_wp2_with fail
          go_roundw
          case rel => exact ⟨1, _, _, rfl, M.out.trans HS9.out, HSD.out, .inr (.inl ⟨rfl, by rw [HS.out]; rfl⟩)⟩
          case measure => simp [intOf]
        · skip
          go_simp
          refine (HL1.out _ _ _ ((ML C G g).below M.out.at_ (B4.out)) HSD.out).mono ?_
          rintro e v7 ⟨rfl, bw⟩
          have B7 := Lib.hid ((B4.out).trans (bw.mono (B4.out).size))
          clear bw
          go_simp
          refine hK.out _ _ trivial (fun hh => ?_)
          have HH' := Lib.hid hh
          clear hh hK K HH
          have HH := Lib.hid HH'.out
          clear HH'
          try simp only [List.getElem_toArray, List.getElem_cons_succ, List.getElem_cons_zero, Act.put, List.setIfInBounds_toArray, List.set_cons_zero, List.set_cons_succ]
          refine wpAnyH_take (i := 9) (v := .int .i64 (k : Int)) rfl (by kernel_rfl) (by kernel_rfl) (by kernel_rfl) (fun _ _ _ h => h) (Or.inl ⟨by rfl, fun w' hw' => ?ym79⟩) HH.out ?_
          case ym79 => (go_simp; exact HKM.out)
          try simp only [List.getElem_toArray, List.getElem_cons_succ, List.getElem_cons_zero, Act.put, List.setIfInBounds_toArray, List.set_cons_zero, List.set_cons_succ]
          refine wpAnyH_ready (rs := [4]) (by kernel_rfl) (by simp) (AllReadyH.cons rfl (fun K hK => ?_) AllReadyH.nil)
          go_simp
          refine hK.out _ _ trivial (fun hh => ?_)
          have HH' := Lib.hid hh
          clear hh hK K HH
          have HH := Lib.hid HH'.out
          clear HH'
          have B8 := Lib.hid (show Below wr.heap.size wr (World.alloc v7 (.cells #[.bool (!x)] 4)) from (B7.out).alloc (B7.out).size _)
          have X8 := Lib.hid (show Blk (World.alloc v7 (.cells #[.bool (!x)] 4)) v7.heap.size #[.bool (!x)] 4 from heap_alloc_new _ _)
          try simp only [List.getElem_toArray, List.getElem_cons_succ, List.getElem_cons_zero, Act.put, List.setIfInBounds_toArray, List.set_cons_zero, List.set_cons_succ]
          refine wpAnyH_ready (rs := [10]) (by kernel_rfl) (by simp) (AllReadyH.cons rfl (fun K hK => ?_) AllReadyH.nil)
          go_simp
          refine (repeat_any (a := ⟨v7.heap.size, 0, none⟩) ((X8.out).cell 0) k HLE.out).mono ?_
          rintro e v9 ⟨q9, rfl, ho9, bw9⟩
          have HS9 := Lib.hid (ml_setrow HR.out M.out.at_ ((B8.out).trans (bw9.mono (B8.out).size)) (own_moreN ho9 (B8.out).size) (List.length_replicate ..) (i := 0) (by omega))
          obtain ⟨⟨u9, c9⟩, f9, _⟩ := ml_rowcell ((ML C G g).below M.out.at_ ((B8.out).trans (bw9.mono (B8.out).size))) (i := 0) (by omega)
          have c9' : v9.cell? ⟨g, 2, none⟩ = some u9 := c9
          have f9' : v9.frozen? ⟨g, 2, none⟩ = false := f9
          clear bw9 ho9 c9 f9
          go_simp
          refine hK.out _ _ trivial (fun hh => ?_)
          have HH' := Lib.hid hh
          clear hh hK K HH
          have HH := Lib.hid HH'.out
          clear HH'
          try simp only [List.getElem_toArray, List.getElem_cons_succ, List.getElem_cons_zero, Act.put, List.setIfInBounds_toArray, List.set_cons_zero, List.set_cons_succ]
          refine wpAnyH_take (i := 13) (v := ?vz813) rfl (by kernel_rfl) (by kernel_rfl) (by kernel_rfl) (fun _ _ _ h => h) (Or.inl ⟨by rfl, fun w' _ => ?yz813⟩) HH.out ?_
          case yz813 => (go_simp; try with_reducible rfl)
          try simp only [List.getElem_toArray, List.getElem_cons_succ, List.getElem_cons_zero, Act.put, List.setIfInBounds_toArray, List.set_cons_zero, List.set_cons_succ]
          refine wpAnyH_ready (rs := [14]) (by kernel_rfl) (by simp) (AllReadyH.cons rfl (fun K hK => ?_) AllReadyH.nil)
          go_simp
          refine hK.out _ _ trivial (fun hh => ?_)
          have HH' := Lib.hid hh
          clear hh hK K HH
          have HH := Lib.hid HH'.out
          clear HH'
          refine wpAnyH_done (by kernel_rfl) ?_ _
          go_wp2_with fail
          go_roundw
          case rel => exact ⟨1, _, _, rfl, M.out.trans HS9.out, HSD.out, .inr (.inl ⟨rfl, by rw [HS.out]; rfl⟩)⟩
          case measure => simp [intOf]
    · skip
      have HS := Lib.hid hs
      clear hs
      go_wp2_with (refine wpList_execg8 (o := { dst := some 22, op := .index 50 (.tmp 18) (.tmp 19), type := _, pos := _, after := _, guard := _ }) (v := .bool y) (w' := wr) rfl ?hix ?_; case hix => kernel_rfl)
      refine wp_region_held_drew (S := fun _ => True) (by kernel_rfl) trivial (fun hh => ?_)
      have HH := Lib.hid hh
      clear hh
      refine wpAnyH_take (i := 0) (v := ?vN10) rfl (by kernel_rfl) (by kernel_rfl) (by kernel_rfl) (fun _ _ _ h => h) (Or.inl ⟨by rfl, fun w' _ => ?yN10⟩) HH.out ?_
      case yN10 => (go_simp; try with_reducible rfl)
      refine wpAnyH_take (i := 1) (v := ?vN11) rfl (by kernel_rfl) (by kernel_rfl) (by kernel_rfl) (fun _ _ _ h => h) (Or.inl ⟨by rfl, fun w' _ => ?yN11⟩) HH.out ?_
      case yN11 => (go_simp; try with_reducible rfl)
      try simp only [List.getElem_toArray, List.getElem_cons_succ, List.getElem_cons_zero, Act.put, List.setIfInBounds_toArray, List.set_cons_zero, List.set_cons_succ]
      refine wpAnyH_take (i := 2) (v := ?vN12) rfl (by kernel_rfl) (by kernel_rfl) (by kernel_rfl) (fun _ _ _ h => h) (Or.inl ⟨by rfl, fun w' _ => ?yN12⟩) HH.out ?_
      case yN12 => (go_simp; try with_reducible rfl)
      refine wpAnyH_take (i := 3) (v := ?vN13) rfl (by kernel_rfl) (by kernel_rfl) (by kernel_rfl) (fun _ _ _ h => h) (Or.inl ⟨by rfl, fun w' _ => ?yN13⟩) HH.out ?_
      case yN13 => (go_simp; try with_reducible rfl)
      refine wpAnyH_take (i := 5) (v := ?vN15) rfl (by kernel_rfl) (by kernel_rfl) (by kernel_rfl) (fun _ _ _ h => h) (Or.inl ⟨by rfl, fun w' _ => ?yN15⟩) HH.out ?_
      case yN15 => (go_simp; try with_reducible rfl)
      try simp only [List.getElem_toArray, List.getElem_cons_succ, List.getElem_cons_zero, Act.put, List.setIfInBounds_toArray, List.set_cons_zero, List.set_cons_succ]
      refine wpAnyH_take (i := 7) (v := ?vN17) rfl (by kernel_rfl) (by kernel_rfl) (by kernel_rfl) (fun _ _ _ h => h) (Or.inl ⟨by rfl, fun w' _ => ?yN17⟩) HH.out ?_
      case yN17 => (go_simp; try with_reducible rfl)
      refine wpAnyH_take (i := 11) (v := ?vN111) rfl (by kernel_rfl) (by kernel_rfl) (by kernel_rfl) (fun _ _ _ h => h) (Or.inl ⟨by rfl, fun w' _ => ?yN111⟩) HH.out ?_
      case yN111 => (go_simp; try with_reducible rfl)
      refine wpAnyH_take (i := 12) (v := ?vN112) rfl (by kernel_rfl) (by kernel_rfl) (by kernel_rfl) (fun _ _ _ h => h) (Or.inl ⟨by rfl, fun w' _ => ?yN112⟩) HH.out ?_
      case yN112 => (go_simp; try with_reducible rfl)
      try simp only [List.getElem_toArray, List.getElem_cons_succ, List.getElem_cons_zero, Act.put, List.setIfInBounds_toArray, List.set_cons_zero, List.set_cons_succ]
      refine wpAnyH_ready (rs := [4, 6]) (by kernel_rfl) (by simp) (AllReadyH.cons rfl (fun K hK => ?_) (AllReadyH.cons rfl (fun K hK => ?_) AllReadyH.nil))
      · skip
        go_simp
        refine hK.out _ _ trivial (fun hh => ?_)
        have HH' := Lib.hid hh
        clear hh hK K HH
        have HH := Lib.hid HH'.out
        clear HH'
        have B9 := Lib.hid (show Below wr.heap.size wr (World.alloc wr.drew (.cells #[.bool (!y)] 4)) from ((Below.refl wr.heap.size wr).drew).alloc ((Below.refl wr.heap.size wr).drew).size _)
        have X9 := Lib.hid (show Blk (World.alloc wr.drew (.cells #[.bool (!y)] 4)) wr.drew.heap.size #[.bool (!y)] 4 from heap_alloc_new _ _)
        try simp only [List.getElem_toArray, List.getElem_cons_succ, List.getElem_cons_zero, Act.put, List.setIfInBounds_toArray, List.set_cons_zero, List.set_cons_succ]
        refine wpAnyH_ready (rs := [6]) (by kernel_rfl) (by simp) (AllReadyH.cons rfl (fun K hK => ?_) AllReadyH.nil)
        go_simp
        refine (HL0.out _ _ _ ((ML C G g).below M.out.at_ (B9.out)) HSD.out).mono ?_
        rintro e v10 ⟨rfl, bw⟩
        have B10 := Lib.hid ((B9.out).trans (bw.mono (B9.out).size))
        have X10 := Lib.hid (Blk.below (X9.out) bw)
        clear bw
        go_simp
        refine hK.out _ _ trivial (fun hh => ?_)
        have HH' := Lib.hid hh
        clear hh hK K HH
        have HH := Lib.hid HH'.out
        clear HH'
        try simp only [List.getElem_toArray, List.getElem_cons_succ, List.getElem_cons_zero, Act.put, List.setIfInBounds_toArray, List.set_cons_zero, List.set_cons_succ]
        refine wpAnyH_ready (rs := [8]) (by kernel_rfl) (by simp) (AllReadyH.cons rfl (fun K hK => ?_) AllReadyH.nil)
        go_simp
        refine (HL1.out _ _ _ ((ML C G g).below M.out.at_ (B10.out)) HSD.out).mono ?_
        rintro e v11 ⟨rfl, bw⟩
        have B11 := Lib.hid ((B10.out).trans (bw.mono (B10.out).size))
        have X11 := Lib.hid (Blk.below (X10.out) bw)
        clear bw
        go_simp
        refine hK.out _ _ trivial (fun hh => ?_)
        have HH' := Lib.hid hh
        clear hh hK K HH
        have HH := Lib.hid HH'.out
        clear HH'
        try simp only [List.getElem_toArray, List.getElem_cons_succ, List.getElem_cons_zero, Act.put, List.setIfInBounds_toArray, List.set_cons_zero, List.set_cons_succ]
        refine wpAnyH_take (i := 9) (v := .int .i64 (k : Int)) rfl (by kernel_rfl) (by kernel_rfl) (by kernel_rfl) (fun _ _ _ h => h) (Or.inl ⟨by rfl, fun w' hw' => ?ym119⟩) HH.out ?_
        case ym119 => (go_simp; exact HKM.out)
        try simp only [List.getElem_toArray, List.getElem_cons_succ, List.getElem_cons_zero, Act.put, List.setIfInBounds_toArray, List.set_cons_zero, List.set_cons_succ]
        refine wpAnyH_ready (rs := [10]) (by kernel_rfl) (by simp) (AllReadyH.cons rfl (fun K hK => ?_) AllReadyH.nil)
        go_simp
        refine (repeat_any (a := ⟨wr.drew.heap.size, 0, none⟩) ((X11.out).cell 0) k HLE.out).mono ?_
        rintro e v9 ⟨q9, rfl, ho9, bw9⟩
        have HS9 := Lib.hid (ml_setrow HR.out M.out.at_ ((B11.out).trans (bw9.mono (B11.out).size)) (own_moreN ho9 (B11.out).size) (List.length_replicate ..) (i := 1) (by omega))
        obtain ⟨⟨u9, c9⟩, f9, _⟩ := ml_rowcell ((ML C G g).below M.out.at_ ((B11.out).trans (bw9.mono (B11.out).size))) (i := 1) (by omega)
        have c9' : v9.cell? ⟨g, 3, none⟩ = some u9 := c9
        have f9' : v9.frozen? ⟨g, 3, none⟩ = false := f9
        clear bw9 ho9 c9 f9
        go_simp
        refine hK.out _ _ trivial (fun hh => ?_)
        have HH' := Lib.hid hh
        clear hh hK K HH
        have HH := Lib.hid HH'.out
        clear HH'
        try simp only [List.getElem_toArray, List.getElem_cons_succ, List.getElem_cons_zero, Act.put, List.setIfInBounds_toArray, List.set_cons_zero, List.set_cons_succ]
        refine wpAnyH_take (i := 13) (v := ?vz1113) rfl (by kernel_rfl) (by kernel_rfl) (by kernel_rfl) (fun _ _ _ h => h) (Or.inl ⟨by rfl, fun w' _ => ?yz1113⟩) HH.out ?_
        case yz1113 => (go_simp; try with_reducible rfl)
        try simp only [List.getElem_toArray, List.getElem_cons_succ, List.getElem_cons_zero, Act.put, List.setIfInBounds_toArray, List.set_cons_zero, List.set_cons_succ]
        refine wpAnyH_ready (rs := [14]) (by kernel_rfl) (by simp) (AllReadyH.cons rfl (fun K hK => ?_) AllReadyH.nil)
        go_simp
        refine hK.out _ _ trivial (fun hh => ?_)
        have HH' := Lib.hid hh
        clear hh hK K HH
        have HH := Lib.hid HH'.out
        clear HH'
        refine wpAnyH_done (by kernel_rfl) ?_ _
        go_wp2_with fail
        go_roundw
        case rel => exact ⟨2, _, _, rfl, M.out.trans HS9.out, HSD.out, .inr (.inr ⟨rfl, by rw [HS.out]; rfl⟩)⟩
        case measure => simp [intOf]
      · skip
        go_simp
        refine (HL0.out _ _ _ ((ML C G g).below M.out.at_ ((Below.refl wr.heap.size wr).drew)) HSD.out).mono ?_
        rintro e v12 ⟨rfl, bw⟩
        have B12 := Lib.hid (((Below.refl wr.heap.size wr).drew).trans (bw.mono ((Below.refl wr.heap.size wr).drew).size))
        clear bw
        go_simp
        refine hK.out _ _ trivial (fun hh => ?_)
        have HH' := Lib.hid hh
        clear hh hK K HH
        have HH := Lib.hid HH'.out
        clear HH'
        try simp only [List.getElem_toArray, List.getElem_cons_succ, List.getElem_cons_zero, Act.put, List.setIfInBounds_toArray, List.set_cons_zero, List.set_cons_succ]
        refine wpAnyH_ready (rs := [4, 8]) (by kernel_rfl) (by simp) (AllReadyH.cons rfl (fun K hK => ?_) (AllReadyH.cons rfl (fun K hK => ?_) AllReadyH.nil))
        · skip
          go_simp
          refine hK.out _ _ trivial (fun hh => ?_)
          have HH' := Lib.hid hh
          clear hh hK K HH
          have HH := Lib.hid HH'.out
          clear HH'
          have B13 := Lib.hid (show Below wr.heap.size wr (World.alloc v12 (.cells #[.bool (!y)] 4)) from (B12.out).alloc (B12.out).size _)
          have X13 := Lib.hid (show Blk (World.alloc v12 (.cells #[.bool (!y)] 4)) v12.heap.size #[.bool (!y)] 4 from heap_alloc_new _ _)
          try simp only [List.getElem_toArray, List.getElem_cons_succ, List.getElem_cons_zero, Act.put, List.setIfInBounds_toArray, List.set_cons_zero, List.set_cons_succ]
          refine wpAnyH_ready (rs := [8]) (by kernel_rfl) (by simp) (AllReadyH.cons rfl (fun K hK => ?_) AllReadyH.nil)
          go_simp
          refine (HL1.out _ _ _ ((ML C G g).below M.out.at_ (B13.out)) HSD.out).mono ?_
          rintro e v14 ⟨rfl, bw⟩
          have B14 := Lib.hid ((B13.out).trans (bw.mono (B13.out).size))
          have X14 := Lib.hid (Blk.below (X13.out) bw)
          clear bw
          go_simp
          refine hK.out _ _ trivial (fun hh => ?_)
          have HH' := Lib.hid hh
          clear hh hK K HH
          have HH := Lib.hid HH'.out
          clear HH'
          try simp only [List.getElem_toArray, List.getElem_cons_succ, List.getElem_cons_zero, Act.put, List.setIfInBounds_toArray, List.set_cons_zero, List.set_cons_succ]
          refine wpAnyH_take (i := 9) (v := .int .i64 (k : Int)) rfl (by kernel_rfl) (by kernel_rfl) (by kernel_rfl) (fun _ _ _ h => h) (Or.inl ⟨by rfl, fun w' hw' => ?ym149⟩) HH.out ?_
          case ym149 => (go_simp; exact HKM.out)
          try simp only [List.getElem_toArray, List.getElem_cons_succ, List.getElem_cons_zero, Act.put, List.setIfInBounds_toArray, List.set_cons_zero, List.set_cons_succ]
          refine wpAnyH_ready (rs := [10]) (by kernel_rfl) (by simp) (AllReadyH.cons rfl (fun K hK => ?_) AllReadyH.nil)
          go_simp
          refine (repeat_any (a := ⟨v12.heap.size, 0, none⟩) ((X14.out).cell 0) k HLE.out).mono ?_
          rintro e v9 ⟨q9, rfl, ho9, bw9⟩
          have HS9 := Lib.hid (ml_setrow HR.out M.out.at_ ((B14.out).trans (bw9.mono (B14.out).size)) (own_moreN ho9 (B14.out).size) (List.length_replicate ..) (i := 1) (by omega))
          obtain ⟨⟨u9, c9⟩, f9, _⟩ := ml_rowcell ((ML C G g).below M.out.at_ ((B14.out).trans (bw9.mono (B14.out).size))) (i := 1) (by omega)
          have c9' : v9.cell? ⟨g, 3, none⟩ = some u9 := c9
          have f9' : v9.frozen? ⟨g, 3, none⟩ = false := f9
          clear bw9 ho9 c9 f9
          go_simp
          refine hK.out _ _ trivial (fun hh => ?_)
          have HH' := Lib.hid hh
          clear hh hK K HH
          have HH := Lib.hid HH'.out
          clear HH'
          try simp only [List.getElem_toArray, List.getElem_cons_succ, List.getElem_cons_zero, Act.put, List.setIfInBounds_toArray, List.set_cons_zero, List.set_cons_succ]
          refine wpAnyH_take (i := 13) (v := ?vz1413) rfl (by kernel_rfl) (by kernel_rfl) (by kernel_rfl) (fun _ _ _ h => h) (Or.inl ⟨by rfl, fun w' _ => ?yz1413⟩) HH.out ?_
          case yz1413 => (go_simp; try with_reducible rfl)
          try simp only [List.getElem_toArray, List.getElem_cons_succ, List.getElem_cons_zero, Act.put, List.setIfInBounds_toArray, List.set_cons_zero, List.set_cons_succ]
          refine wpAnyH_ready (rs := [14]) (by kernel_rfl) (by simp) (AllReadyH.cons rfl (fun K hK => ?_) AllReadyH.nil)
          go_simp
          refine hK.out _ _ trivial (fun hh => ?_)
          have HH' := Lib.hid hh
          clear hh hK K HH
          have HH := Lib.hid HH'.out
          clear HH'
          refine wpAnyH_done (by kernel_rfl) ?_ _
          go_wp2_with fail
          go_roundw
          case rel => exact ⟨2, _, _, rfl, M.out.trans HS9.out, HSD.out, .inr (.inr ⟨rfl, by rw [HS.out]; rfl⟩)⟩
          case measure => simp [intOf]
        · skip
          go_simp
          refine (HL1.out _ _ _ ((ML C G g).below M.out.at_ (B12.out)) HSD.out).mono ?_
          rintro e v15 ⟨rfl, bw⟩
          have B15 := Lib.hid ((B12.out).trans (bw.mono (B12.out).size))
          clear bw
          go_simp
          refine hK.out _ _ trivial (fun hh => ?_)
          have HH' := Lib.hid hh
          clear hh hK K HH
          have HH := Lib.hid HH'.out
          clear HH'
          try simp only [List.getElem_toArray, List.getElem_cons_succ, List.getElem_cons_zero, Act.put, List.setIfInBounds_toArray, List.set_cons_zero, List.set_cons_succ]
          refine wpAnyH_take (i := 9) (v := .int .i64 (k : Int)) rfl (by kernel_rfl) (by kernel_rfl) (by kernel_rfl) (fun _ _ _ h => h) (Or.inl ⟨by rfl, fun w' hw' => ?ym159⟩) HH.out ?_
          case ym159 => (go_simp; exact HKM.out)
          try simp only [List.getElem_toArray, List.getElem_cons_succ, List.getElem_cons_zero, Act.put, List.setIfInBounds_toArray, List.set_cons_zero, List.set_cons_succ]
          refine wpAnyH_ready (rs := [4]) (by kernel_rfl) (by simp) (AllReadyH.cons rfl (fun K hK => ?_) AllReadyH.nil)
          go_simp
          refine hK.out _ _ trivial (fun hh => ?_)
          have HH' := Lib.hid hh
          clear hh hK K HH
          have HH := Lib.hid HH'.out
          clear HH'
          have B16 := Lib.hid (show Below wr.heap.size wr (World.alloc v15 (.cells #[.bool (!y)] 4)) from (B15.out).alloc (B15.out).size _)
          have X16 := Lib.hid (show Blk (World.alloc v15 (.cells #[.bool (!y)] 4)) v15.heap.size #[.bool (!y)] 4 from heap_alloc_new _ _)
          try simp only [List.getElem_toArray, List.getElem_cons_succ, List.getElem_cons_zero, Act.put, List.setIfInBounds_toArray, List.set_cons_zero, List.set_cons_succ]
          refine wpAnyH_ready (rs := [10]) (by kernel_rfl) (by simp) (AllReadyH.cons rfl (fun K hK => ?_) AllReadyH.nil)
          go_simp
          refine (repeat_any (a := ⟨v15.heap.size, 0, none⟩) ((X16.out).cell 0) k HLE.out).mono ?_
          rintro e v9 ⟨q9, rfl, ho9, bw9⟩
          have HS9 := Lib.hid (ml_setrow HR.out M.out.at_ ((B16.out).trans (bw9.mono (B16.out).size)) (own_moreN ho9 (B16.out).size) (List.length_replicate ..) (i := 1) (by omega))
          obtain ⟨⟨u9, c9⟩, f9, _⟩ := ml_rowcell ((ML C G g).below M.out.at_ ((B16.out).trans (bw9.mono (B16.out).size))) (i := 1) (by omega)
          have c9' : v9.cell? ⟨g, 3, none⟩ = some u9 := c9
          have f9' : v9.frozen? ⟨g, 3, none⟩ = false := f9
          clear bw9 ho9 c9 f9
          go_simp
          refine hK.out _ _ trivial (fun hh => ?_)
          have HH' := Lib.hid hh
          clear hh hK K HH
          have HH := Lib.hid HH'.out
          clear HH'
          try simp only [List.getElem_toArray, List.getElem_cons_succ, List.getElem_cons_zero, Act.put, List.setIfInBounds_toArray, List.set_cons_zero, List.set_cons_succ]
          refine wpAnyH_take (i := 13) (v := ?vz1613) rfl (by kernel_rfl) (by kernel_rfl) (by kernel_rfl) (fun _ _ _ h => h) (Or.inl ⟨by rfl, fun w' _ => ?yz1613⟩) HH.out ?_
          case yz1613 => (go_simp; try with_reducible rfl)
          try simp only [List.getElem_toArray, List.getElem_cons_succ, List.getElem_cons_zero, Act.put, List.setIfInBounds_toArray, List.set_cons_zero, List.set_cons_succ]
          refine wpAnyH_ready (rs := [14]) (by kernel_rfl) (by simp) (AllReadyH.cons rfl (fun K hK => ?_) AllReadyH.nil)
          go_simp
          refine hK.out _ _ trivial (fun hh => ?_)
          have HH' := Lib.hid hh
          clear hh hK K HH
          have HH := Lib.hid HH'.out
          clear HH'
          refine wpAnyH_done (by kernel_rfl) ?_ _
          go_wp2_with fail
          go_roundw
          case rel => exact ⟨2, _, _, rfl, M.out.trans HS9.out, HSD.out, .inr (.inr ⟨rfl, by rw [HS.out]; rfl⟩)⟩
          case measure => simp [intOf]
    · have HS := Lib.hid hs
      clear hs
      go_wp2_with fail
      go_ret
      refine ⟨g, F', rfl, by rw [← HS.out]; exact M.out.at_, fun q hq => ?_, ?_⟩
      · rcases M.out.new q hq with (h1 | h1) | h1
        · exact .inl h1
        · exact .inr (by rw [h1, HG.out]; exact Nat.le_refl _)
        · exact .inr (Nat.le_trans BW1.out.size h1)
      · exact but_step (but_below (T := FF) BW1.out) M.out.but (fun q hq => hq.imp id (fun e => by rw [e, HG.out]; exact Nat.le_refl _))
theorem new_any (hR : ∀ A n c B m e, G.R A n c B m e) {d : C.L.St} (h : C.L.At w d F1) (hl : G.l = [] := by rfl) :
    Calls Try.prog 28 #[.pointer (C.ptr 0), .pointer (C.ptr 1), G.v] w (fun e w' => ∃ g F', e = .returned (.pointer (some ⟨g, 0, none⟩)) ∧ (ML C G g).At w' (newM C d) F' ∧ (∀ q, F' q → F1 q ∨ w.heap.size ≤ q) ∧ But F1 w w') := by
  have hF : (fun x => F1 x ∨ ∃ y ∈ G.l, x = y.1) = F1 := funext fun x => propext ⟨fun hx => hx.elim id (fun ⟨y, hy, _⟩ => by rw [hl] at hy; cases hy), .inl⟩
  exact new_anyG hR h (fun x hx => by rw [hl] at hx; cases hx) hF.symm
end
end Go.Proofs.Ytgfldfofiglefaa.Mi
/-
  A mirror of two devices of powers of their own that never fail, as the document tells of it: two lists, which of them are there, what is stale. No program.
-/
namespace Go.Proofs.Ytgfldfofiglefaa.Mi
open Kd
structure Md where
  l0 : List (List UInt8)
  l1 : List (List UInt8)
  o0 : Bool
  o1 : Bool
  a : List Bool
  b : List Bool
def Md.l (x : Md) (i : Nat) : List (List UInt8) := if i = 0 then x.l0 else x.l1
def Md.o (x : Md) (i : Nat) : Bool := if i = 0 then x.o0 else x.o1
def Md.st (x : Md) (i : Nat) : List Bool := if i = 0 then x.a else x.b
def Md.setL (x : Md) (i k : Nat) (y : List UInt8) : Md := if i = 0 then { x with l0 := x.l0.set k y } else { x with l1 := x.l1.set k y }
def Md.put (x : Md) (i k : Nat) (v : Bool) : Md := if i = 0 then { x with a := x.a.set k v } else { x with b := x.b.set k v }
/-- A sector is written to a device, if it is there. -/
def Md.wd (x : Md) (i k : Nat) (y : List UInt8) : Md := if x.o i then x else x.setL i k y
def Md.has (x : Md) (n : Int) : Bool := decide (0 ≤ n) && decide (n < x.a.length)
section
variable {p1 g1 p2 g2 : Nat}
abbrev Two (p1 g1 p2 g2 : Nat) : Duo := duo (uno p1 g1) (uno p2 g2)
structure Sees (s : Mr (Two p1 g1 p2 g2)) (x : Md) (m : Nat) : Prop where
  d0 : See s.d.1 x.l0 x.o0 m
  d1 : See s.d.2 x.l1 x.o1 m
  a : s.a = x.a
  b : s.b = x.b
  n0 : x.l0.length = x.a.length
  n1 : x.l1.length = x.a.length
  nb : x.b.length = x.a.length
variable {s : Mr (Two p1 g1 p2 g2)} {x : Md} {m : Nat} {G : Gd}
theorem Sees.more (h : Sees s x m) {m' : Nat} (hm : m ≤ m') : Sees s x m' := ⟨h.d0.more hm, h.d1.more hm, h.a, h.b, h.n0, h.n1, h.nb⟩
theorem Sees.ok (h : Sees s x m) : s.ok x.a.length := ⟨by rw [h.a], by rw [h.b]; exact h.nb⟩
theorem Sees.st (h : Sees s x m) (i : Nat) : s.st i = x.st i := by
  unfold Mr.st Md.st; split
  · exact h.a
  · exact h.b
theorem Sees.most (h : Sees s x m) : (Two p1 g1 p2 g2).most s.d ≤ m := by
  have h0 := h.d0.few
  have h1 := h.d1.few
  show max (mostS s.d.1) (mostS s.d.2) ≤ m
  unfold mostS
  rw [if_pos h.d0.ds, if_pos h.d1.ds]
  omega
theorem Sees.has (h : Sees s x m) (n : Int) : Mi.has s n = x.has n := by rw [Mi.has, Md.has, h.a]
theorem Sees.rd (h : Sees s x m) {i : Nat} (hi : i < 2) (n : Int) :
    (Two p1 g1 p2 g2).rd s.d i n = (if x.o i then 13 else if n < 0 ∨ (x.a.length : Int) ≤ n then 2 else 0, if x.o i = false ∧ 0 ≤ n ∧ n < (x.a.length : Int) then (x.l i).getD n.toNat zeroS else zeroS) := by
  rcases two hi with rfl | rfl
  · show (refuseN s.d.1.p (s.d.1.at 0) n, readS s.d.1.p (s.d.1.at 0) n) = _
    rw [h.d0.refuse, h.d0.read, h.n0]; rfl
  · show (refuseN s.d.2.p (s.d.2.at 0) n, readS s.d.2.p (s.d.2.at 0) n) = _
    rw [h.d1.refuse, h.d1.read, h.n1]; rfl
theorem Sees.there (h : Sees s x m) {i : Nat} (hi : i < 2) : (Two p1 g1 p2 g2).there s.d i = !(x.o i) := by
  have hp : ((Two p1 g1 p2 g2).ptr i).isSome = true := by rcases two hi with rfl | rfl <;> rfl
  rw [Duo.there, hp, h.rd hi]
  cases x.o i
  · show (true && ((if false = true then (13 : Int) else if (0 : Int) < 0 ∨ (x.a.length : Int) ≤ 0 then 2 else 0) != 13)) = true
    rw [if_neg (by simp)]
    split <;> rfl
  · rfl
/-- A place's reading. -/
theorem Sees.rd_at (h : Sees s x m) {i k : Nat} (hi : i < 2) (hk : k < x.a.length) : (Two p1 g1 p2 g2).rd s.d i (k : Int) = (if x.o i then 13 else 0, if x.o i then zeroS else (x.l i).getD k zeroS) := by
  rw [h.rd hi]
  cases x.o i
  · simp only [Bool.false_eq_true, if_false, true_and]
    rw [if_neg (by omega), if_pos ⟨by omega, by omega⟩, Int.toNat_natCast]
  · simp
theorem Sees.rdOk (h : Sees s x m) {i k : Nat} (hi : i < 2) (hk : k < x.a.length) : Mi.rdOk (Two p1 g1 p2 g2) G s.d i (k : Int) = (!(x.o i) && G.f k ((x.l i).getD k zeroS)) := by
  rw [Mi.rdOk, h.rd_at hi hk]
  cases x.o i <;> rfl
/-- Does a device have a place right? -/
def Md.right (f : Int → List UInt8 → Bool) (x : Md) (i k : Nat) : Bool := !((x.st i).getD k false) && (!(x.o i) && f k ((x.l i).getD k zeroS))
theorem Sees.right (h : Sees s x m) {i k : Nat} (hi : i < 2) (hk : k < x.a.length) : Mi.right (Two p1 g1 p2 g2) G s i k = x.right G.f i k := by
  rw [Mi.right, Md.right, h.st, h.rdOk hi hk]
theorem Sees.rightV (h : Sees s x m) {i k : Nat} (hi : i < 2) (hk : k < x.a.length) (hr : x.right G.f i k = true) : Mi.rightV (Two p1 g1 p2 g2) G s i k = (x.l i).getD k zeroS := by
  have ho : x.o i = false := by
    rw [Md.right] at hr
    cases ho : x.o i
    · rfl
    · rw [ho] at hr; simp at hr
  rw [Mi.rightV, h.right hi hk, hr, if_pos rfl, h.rd_at hi hk, ho]; rfl
/-! ### Writing -/
theorem Sees.put (h : Sees s x m) (i k : Nat) (v : Bool) : Sees (s.put i k v) (x.put i k v) m := by
  unfold Mr.put Md.put
  split
  · exact ⟨h.d0, h.d1, by show s.a.set k v = x.a.set k v; rw [h.a], h.b, by show x.l0.length = (x.a.set k v).length; rw [List.length_set]; exact h.n0, by show x.l1.length = (x.a.set k v).length; rw [List.length_set]; exact h.n1, by show x.b.length = (x.a.set k v).length; rw [List.length_set]; exact h.nb⟩
  · exact ⟨h.d0, h.d1, h.a, by show s.b.set k v = x.b.set k v; rw [h.b], h.n0, h.n1, by show (x.b.set k v).length = x.a.length; rw [List.length_set]; exact h.nb⟩
theorem Sees.wd (h : Sees s x m) {i k : Nat} (hi : i < 2) (hk : k < x.a.length) (y : List UInt8) :
    ((Two p1 g1 p2 g2).wr s.d i (k : Int) y).1 = (if x.o i then 13 else 0) ∧ Sees (s.dev ((Two p1 g1 p2 g2).wr s.d i (k : Int) y).2) (x.wd i k y) (m + 1) := by
  rcases two hi with rfl | rfl
  · cases ho : x.o0 with
    | true =>
      have hw := h.d0.write_no (n := (k : Int)) (x := y) (by rw [ho]; simp)
      have e : (Two p1 g1 p2 g2).wr s.d 0 (k : Int) y = (13, s.d) := by
        show ((s.d.1.write 0 k y).1, ((s.d.1.write 0 k y).2, s.d.2)) = _
        rw [hw, ho]; rfl
      rw [e]
      refine ⟨by rw [show x.o 0 = true from ho]; rfl, ?_⟩
      rw [Md.wd, show x.o 0 = true from ho, if_pos rfl]
      exact h.more (Nat.le_succ _)
    | false =>
      obtain ⟨h1, h2⟩ := h.d0.write_yes (x := y) ho (k := k) (by rw [h.n0]; exact hk)
      refine ⟨by show (s.d.1.write 0 k y).1 = _; rw [h1, show x.o 0 = false from ho]; rfl, ?_⟩
      rw [Md.wd, show x.o 0 = false from ho, if_neg (by simp)]
      exact ⟨h2, h.d1.more (Nat.le_succ _), h.a, h.b, by show (x.l0.set k y).length = _; rw [List.length_set]; exact h.n0, h.n1, h.nb⟩
  · cases ho : x.o1 with
    | true =>
      have hw := h.d1.write_no (n := (k : Int)) (x := y) (by rw [ho]; simp)
      have e : (Two p1 g1 p2 g2).wr s.d 1 (k : Int) y = (13, s.d) := by
        show ((s.d.2.write 0 k y).1, (s.d.1, (s.d.2.write 0 k y).2)) = _
        rw [hw, ho]; rfl
      rw [e]
      refine ⟨by rw [show x.o 1 = true from ho]; rfl, ?_⟩
      rw [Md.wd, show x.o 1 = true from ho, if_pos rfl]
      exact h.more (Nat.le_succ _)
    | false =>
      obtain ⟨h1, h2⟩ := h.d1.write_yes (x := y) ho (k := k) (by rw [h.n1]; exact hk)
      refine ⟨by show (s.d.2.write 0 k y).1 = _; rw [h1, show x.o 1 = false from ho]; rfl, ?_⟩
      rw [Md.wd, show x.o 1 = false from ho, if_neg (by simp)]
      exact ⟨h.d0.more (Nat.le_succ _), h2, h.a, h.b, h.n0, by show (x.l1.set k y).length = _; rw [List.length_set]; exact h.n1, h.nb⟩
theorem wd_o (x : Md) (i k j : Nat) (y : List UInt8) : (x.wd i k y).o j = x.o j := by
  unfold Md.wd Md.setL Md.o; (repeat' split) <;> rfl
theorem wd_a (x : Md) (i k : Nat) (y : List UInt8) : (x.wd i k y).a = x.a := by
  unfold Md.wd Md.setL; (repeat' split) <;> rfl
/-- What Write, and Choose, tell and make of it. -/
def Md.write (x : Md) (n : Int) (y : List UInt8) : Int × Md :=
  if x.has n then (if x.o0 && x.o1 then (13, x) else (0, (((x.wd 0 n.toNat y).wd 1 n.toNat y).put 0 n.toNat x.o0).put 1 n.toNat x.o1)) else (2, x)
theorem has_place {x : Md} {n : Int} (h : x.has n = true) : ∃ k : Nat, n = (k : Int) ∧ k < x.a.length := by
  rw [Md.has] at h
  simp at h
  exact ⟨n.toNat, by omega, by omega⟩
theorem eq13 (o : Bool) : ((if o then (13 : Int) else 0) == 0) = !o := by cases o <;> rfl
theorem Sees.write (h : Sees s x m) (n : Int) (y : List UInt8) : (s.write n y).1 = (x.write n y).1 ∧ Sees (s.write n y).2 (x.write n y).2 (m + 2) := by
  rw [Mr.write, Md.write, h.has]
  cases hh : x.has n with
  | false => exact ⟨rfl, h.more (by omega)⟩
  | true =>
    obtain ⟨k, rfl, hk⟩ := has_place hh
    rw [if_pos rfl, if_pos rfl, Int.toNat_natCast]
    obtain ⟨e0, h0⟩ := h.wd (i := 0) (by omega) hk y
    obtain ⟨e1, h1⟩ := h0.wd (i := 1) (by omega) (by rw [wd_a]; exact hk) y
    have e1' : ((Two p1 g1 p2 g2).wr (s.w0 (k : Int) y 0).d 1 (k : Int) y).1 = _ := e1
    rw [wd_o] at e1'
    rw [e0, e1', eq13, eq13]
    have h2 : Sees ((s.w0 (k : Int) y 0).w0 (k : Int) y 1) ((x.wd 0 k y).wd 1 k y) (m + 1 + 1) := h1
    rw [Mr.reach, show x.o 0 = x.o0 from rfl, show x.o 1 = x.o1 from rfl]
    cases ho0 : x.o0 <;> cases ho1 : x.o1
    · exact ⟨rfl, (h2.put 0 k false).put 1 k false⟩
    · exact ⟨rfl, (h2.put 0 k false).put 1 k true⟩
    · exact ⟨rfl, (h2.put 0 k true).put 1 k false⟩
    · refine ⟨rfl, ?_⟩
      have hx : (x.wd 0 k y).wd 1 k y = x := by
        have h3 : x.wd 0 k y = x := by rw [Md.wd, show x.o 0 = true from ho0, if_pos rfl]
        rw [h3, Md.wd, show x.o 1 = true from ho1, if_pos rfl]
      rw [hx] at h2
      exact h2
end
end Go.Proofs.Ytgfldfofiglefaa.Mi
/-
  .. and what Choose, Flush, Read, Heal, Both, Sync, New, Out and Rot make of it. No program.
-/
namespace Go.Proofs.Ytgfldfofiglefaa.Mi
open Kd
section
variable {p1 g1 p2 g2 : Nat} {s : Mr (Two p1 g1 p2 g2)} {x : Md} {m : Nat} {G : Gd}
theorem list_set_self {α : Type} (l : List α) (k : Nat) (d : α) : l.set k (l.getD k d) = l := by
  apply List.ext_getElem?
  intro j
  rw [List.getElem?_set]
  split
  · rename_i h; subst h
    split
    · rename_i h; rw [List.getD_eq_getElem?_getD, List.getElem?_eq_getElem h]; rfl
    · rename_i h; rw [List.getElem?_eq_none (by omega)]
  · rfl
theorem wd_same {i k : Nat} (h : x.o i = false) : x.wd i k ((x.l i).getD k zeroS) = x := by
  rw [Md.wd, h, if_neg (by simp), Md.setL]
  unfold Md.l
  split
  · show { x with l0 := x.l0.set k (x.l0.getD k zeroS) } = x
    rw [list_set_self]
  · show { x with l1 := x.l1.set k (x.l1.getD k zeroS) } = x
    rw [list_set_self]
theorem Sees.c1 (h : Sees s x m) {i k : Nat} (hi : i < 2) (hk : k < x.a.length) (y : List UInt8) : (s.c1 (k : Int) y i).1 = !(x.o i) ∧ Sees (s.c1 (k : Int) y i).2 (x.wd i k y) (m + 1) := by
  obtain ⟨e, hw⟩ := h.wd hi hk y
  rw [Mr.c1, h.rd_at hi hk]
  cases ho : x.o i with
  | true =>
    rw [if_neg (by simp)]
    refine ⟨rfl, ?_⟩
    rw [Md.wd, ho, if_pos rfl]
    exact h.more (Nat.le_succ _)
  | false =>
    rw [if_pos (by simp)]
    by_cases hy : (x.l i).getD k zeroS = y
    · rw [if_pos (by simpa using hy)]
      refine ⟨rfl, ?_⟩
      rw [← hy, wd_same ho]
      exact h.more (Nat.le_succ _)
    · rw [if_neg (by simpa using hy)]
      exact ⟨by rw [e, eq13, ho], hw⟩
theorem Sees.choose (h : Sees s x m) (n : Int) (y : List UInt8) : (s.choose n y).1 = (x.write n y).1 ∧ Sees (s.choose n y).2 (x.write n y).2 (m + 2) := by
  rw [Mr.choose, Md.write, h.has]
  cases hh : x.has n with
  | false => exact ⟨rfl, h.more (by omega)⟩
  | true =>
    obtain ⟨k, rfl, hk⟩ := has_place hh
    rw [if_pos rfl, if_pos rfl, Int.toNat_natCast]
    obtain ⟨e0, h0⟩ := h.c1 (i := 0) (by omega) hk y
    obtain ⟨e1, h1⟩ := h0.c1 (i := 1) (by omega) (by rw [wd_a]; exact hk) y
    rw [wd_o] at e1
    rw [e0, e1]
    have h2 : Sees ((s.c1 (k : Int) y 0).2.c1 (k : Int) y 1).2 ((x.wd 0 k y).wd 1 k y) (m + 1 + 1) := h1
    rw [Mr.reach, show x.o 0 = x.o0 from rfl, show x.o 1 = x.o1 from rfl]
    cases ho0 : x.o0 <;> cases ho1 : x.o1
    · exact ⟨rfl, (h2.put 0 k false).put 1 k false⟩
    · exact ⟨rfl, (h2.put 0 k false).put 1 k true⟩
    · exact ⟨rfl, (h2.put 0 k true).put 1 k false⟩
    · refine ⟨rfl, ?_⟩
      have hx : (x.wd 0 k y).wd 1 k y = x := by
        have h3 : x.wd 0 k y = x := by rw [Md.wd, show x.o 0 = true from ho0, if_pos rfl]
        rw [h3, Md.wd, show x.o 1 = true from ho1, if_pos rfl]
      rw [hx] at h2
      exact h2
/-! ### Flushing: m is 0 of what is out -/
/-- Nothing waits of a device that is out. -/
structure Dry (s : Mr (Two p1 g1 p2 g2)) (x : Md) : Prop where
  d0 : x.o0 = true → See s.d.1 x.l0 x.o0 0
  d1 : x.o1 = true → See s.d.2 x.l1 x.o1 0
theorem Sees.dry (h : Sees s x 0) : Dry s x := ⟨fun _ => h.d0, fun _ => h.d1⟩
theorem Dry.put (h : Dry s x) (i k : Nat) (v : Bool) : Dry (s.put i k v) (x.put i k v) := by
  unfold Mr.put Md.put; split <;> exact ⟨h.d0, h.d1⟩
theorem Dry.wd (h : Dry s x) (hs : Sees s x m) {i k : Nat} (hi : i < 2) (y : List UInt8) : Dry (s.dev ((Two p1 g1 p2 g2).wr s.d i (k : Int) y).2) (x.wd i k y) := by
  rcases two hi with rfl | rfl
  · cases ho : x.o0 with
    | true =>
      have hw := hs.d0.write_no (n := (k : Int)) (x := y) (by rw [ho]; simp)
      have e : ((Two p1 g1 p2 g2).wr s.d 0 (k : Int) y).2 = s.d := by
        show ((s.d.1.write 0 k y).2, s.d.2) = _
        rw [hw]; rfl
      rw [e, Md.wd, show x.o 0 = true from ho, if_pos rfl]
      exact h
    | false =>
      rw [Md.wd, show x.o 0 = false from ho, if_neg (by simp)]
      exact ⟨fun h1 => (by have h2 : x.o0 = true := h1; rw [ho] at h2; cases h2), h.d1⟩
  · cases ho : x.o1 with
    | true =>
      have hw := hs.d1.write_no (n := (k : Int)) (x := y) (by rw [ho]; simp)
      have e : ((Two p1 g1 p2 g2).wr s.d 1 (k : Int) y).2 = s.d := by
        show (s.d.1, (s.d.2.write 0 k y).2) = _
        rw [hw]; rfl
      rw [e, Md.wd, show x.o 1 = true from ho, if_pos rfl]
      exact h
    | false =>
      rw [Md.wd, show x.o 1 = false from ho, if_neg (by simp)]
      exact ⟨h.d0, fun h1 => (by have h2 : x.o1 = true := h1; rw [ho] at h2; cases h2)⟩
theorem Sees.fl (h : Sees s x m) (hd : Dry s x) : s.flushed = (!x.o0, !x.o1) ∧ Sees ((s.fl0 0).fl0 1) x 0 := by
  have e0 : ((Two p1 g1 p2 g2).fl s.d 0) = ((s.d.1.flush 0).1, ((s.d.1.flush 0).2, s.d.2)) := rfl
  have e1 : ((Two p1 g1 p2 g2).fl (s.fl0 0).d 1) = ((s.d.2.flush 0).1, ((s.d.1.flush 0).2, (s.d.2.flush 0).2)) := rfl
  have h0 : ((s.d.1.flush 0).1 == 0) = !x.o0 ∧ See (s.d.1.flush 0).2 x.l0 x.o0 0 := by
    cases ho : x.o0 with
    | true => rw [h.d0.flush_no ho]; exact ⟨rfl, ho ▸ hd.d0 ho⟩
    | false => obtain ⟨h1, h2⟩ := h.d0.flush_yes ho; rw [h1]; exact ⟨rfl, ho ▸ h2⟩
  have h1 : ((s.d.2.flush 0).1 == 0) = !x.o1 ∧ See (s.d.2.flush 0).2 x.l1 x.o1 0 := by
    cases ho : x.o1 with
    | true => rw [h.d1.flush_no ho]; exact ⟨rfl, ho ▸ hd.d1 ho⟩
    | false => obtain ⟨h1, h2⟩ := h.d1.flush_yes ho; rw [h1]; exact ⟨rfl, ho ▸ h2⟩
  refine ⟨?_, h0.2, h1.2, h.a, h.b, h.n0, h.n1, h.nb⟩
  rw [Mr.flushed, e1]
  show (((s.d.1.flush 0).1 == 0), ((s.d.2.flush 0).1 == 0)) = _
  rw [h0.1, h1.1]
theorem Sees.flush (h : Sees s x m) (hd : Dry s x) : s.flush.1 = (if x.o0 && x.o1 then 13 else 0) ∧ Sees s.flush.2 x 0 := by
  obtain ⟨h1, h2⟩ := h.fl hd
  rw [Mr.flush, h1, h.there (by omega), h.there (by omega), show x.o 0 = x.o0 from rfl, show x.o 1 = x.o1 from rfl]
  refine ⟨?_, h2⟩
  cases x.o0 <;> cases x.o1 <;> rfl
/-! ### Reading -/
def Md.read (f : Int → List UInt8 → Bool) (x : Md) (n : Int) : List UInt8 × Int :=
  if x.has n then (if x.right f 0 n.toNat then (x.l0.getD n.toNat zeroS, 0) else if x.right f 1 n.toNat then (x.l1.getD n.toNat zeroS, 0) else (zeroS, if x.o0 && x.o1 then 13 else 9)) else (zeroS, 2)
theorem right_in {f : Int → List UInt8 → Bool} {i k : Nat} (hr : x.right f i k = true) : x.o i = false := by
  rw [Md.right] at hr
  cases ho : x.o i
  · rfl
  · rw [ho] at hr; simp at hr
theorem Sees.read (h : Sees s x m) (n : Int) : readM (Two p1 g1 p2 g2) G s n = x.read G.f n := by
  rw [readM, Md.read, h.has]
  cases hh : x.has n with
  | false => rfl
  | true =>
    obtain ⟨k, rfl, hk⟩ := has_place hh
    rw [if_pos rfl, if_pos rfl, Int.toNat_natCast, h.right (by omega) hk, h.right (by omega) hk, h.rd_at (by omega) hk, h.rd_at (by omega) hk, h.there (by omega), h.there (by omega)]
    cases h0 : x.right G.f 0 k with
    | true => simp only [if_true, right_in h0]; rfl
    | false =>
      simp only [Bool.false_eq_true, if_false]
      cases h1 : x.right G.f 1 k with
      | true => simp only [if_true, right_in h1]; rfl
      | false =>
        simp only [Bool.false_eq_true, if_false]
        rw [show x.o 0 = x.o0 from rfl, show x.o 1 = x.o1 from rfl]
        cases x.o0 <;> cases x.o1 <;> rfl
/-- What Both tells. -/
def Md.bothTo (f : Int → List UInt8 → Bool) (x : Md) (k : Nat) : Nat → List (List UInt8)
  | 0 => []
  | p + 1 => x.bothTo f k p ++ if !(x.o p) && f k ((x.l p).getD k zeroS) then [(x.l p).getD k zeroS] else []
def Md.both (f : Int → List UInt8 → Bool) (x : Md) (n : Int) : List (List UInt8) := if x.has n then x.bothTo f n.toNat 2 else []
theorem Sees.bothTo (h : Sees s x m) {k : Nat} (hk : k < x.a.length) : ∀ p, p ≤ 2 → Mi.bothTo (Two p1 g1 p2 g2) G s.d (k : Int) p = x.bothTo G.f k p
  | 0, _ => rfl
  | p + 1, hp => by
    rw [Mi.bothTo, Md.bothTo, h.bothTo hk p (by omega), h.rdOk (by omega) hk, h.rd_at (by omega) hk]
    cases ho : x.o p
    · rfl
    · rfl
theorem Sees.both (h : Sees s x m) (n : Int) : bothL G s n = x.both G.f n := by
  rw [bothL, Md.both, h.has]
  cases hh : x.has n with
  | false => rfl
  | true =>
    obtain ⟨k, rfl, hk⟩ := has_place hh
    rw [if_pos rfl, if_pos rfl, Int.toNat_natCast, h.bothTo hk 2 (by omega)]
/-! ### Healing -/
def Md.mend (x : Md) (i k : Nat) (y : List UInt8) : Md := (x.setL i k y).put i k false
theorem Sees.mend (h : Sees s x m) {i k : Nat} (hi : i < 2) (hk : k < x.a.length) (ho : x.o i = false) (y : List UInt8) : (s.mend i k y).1 = 0 ∧ Sees (s.mend i k y).2 (x.mend i k y) (m + 1) := by
  obtain ⟨e, hw⟩ := h.wd hi hk y
  rw [ho] at e
  rw [Md.wd, ho, if_neg (by simp)] at hw
  rw [Mr.mend]
  rw [e]
  exact ⟨rfl, hw.put i k false⟩
def Md.heal (f : Int → List UInt8 → Bool) (x : Md) (n : Int) : (Int × Int) × Md :=
  if x.has n then
    if x.o0 || x.o1 then ((0, 13), x)
    else if x.right f 0 n.toNat then
      (if x.right f 1 n.toNat && decide (x.l0.getD n.toNat zeroS = x.l1.getD n.toNat zeroS) then ((0, 0), x) else ((1, 0), x.mend 1 n.toNat (x.l0.getD n.toNat zeroS)))
    else if x.right f 1 n.toNat then ((1, 0), x.mend 0 n.toNat (x.l1.getD n.toNat zeroS)) else ((2, 0), x)
  else ((0, 2), x)
theorem Sees.healTo (h : Sees s x m) {i k : Nat} (hi : i < 2) (hk : k < x.a.length) (ho : x.o i = false) (y : List UInt8) : (s.healTo i k y).1 = (1, 0) ∧ Sees (s.healTo i k y).2 (x.mend i k y) (m + 1) := by
  obtain ⟨e, hw⟩ := h.mend hi hk ho y
  rw [Mr.healTo, e]
  exact ⟨rfl, hw⟩
theorem Sees.heal (h : Sees s x m) (n : Int) : (s.heal G n).1 = (x.heal G.f n).1 ∧ Sees (s.heal G n).2 (x.heal G.f n).2 (m + 1) := by
  rw [Mr.heal, Md.heal, h.has]
  cases hh : x.has n with
  | false => exact ⟨rfl, h.more (by omega)⟩
  | true =>
    obtain ⟨k, rfl, hk⟩ := has_place hh
    rw [if_pos rfl, if_pos rfl, Int.toNat_natCast, h.there (by omega), h.there (by omega), h.right (by omega) hk, h.right (by omega) hk, show x.o 0 = x.o0 from rfl, show x.o 1 = x.o1 from rfl]
    cases ho0 : x.o0 with
    | true => exact ⟨rfl, h.more (by omega)⟩
    | false =>
      cases ho1 : x.o1 with
      | true => exact ⟨rfl, h.more (by omega)⟩
      | false =>
        rw [if_pos (show ((!false) && !false) = true from rfl), if_neg (show ¬ (false || false) = true by simp)]
        cases h0 : x.right G.f 0 k with
        | true =>
          have v0 : Mi.rightV (Two p1 g1 p2 g2) G s 0 k = x.l0.getD k zeroS := h.rightV (i := 0) (by omega) hk h0
          simp only [if_true, v0]
          cases h1 : x.right G.f 1 k with
          | true =>
            have v1 : Mi.rightV (Two p1 g1 p2 g2) G s 1 k = x.l1.getD k zeroS := h.rightV (i := 1) (by omega) hk h1
            simp only [if_true, v1, Bool.true_and]
            by_cases he : x.l0.getD k zeroS = x.l1.getD k zeroS
            · rw [if_pos he, if_pos (decide_eq_true he)]; exact ⟨rfl, h.more (by omega)⟩
            · rw [if_neg he, if_neg (by rw [decide_eq_false he]; simp)]; exact h.healTo (i := 1) (by omega) hk ho1 _
          | false => simp only [Bool.false_eq_true, if_false, Bool.false_and]; exact h.healTo (i := 1) (by omega) hk ho1 _
        | false =>
          simp only [Bool.false_eq_true, if_false]
          cases h1 : x.right G.f 1 k with
          | true =>
            have v1 : Mi.rightV (Two p1 g1 p2 g2) G s 1 k = x.l1.getD k zeroS := h.rightV (i := 1) (by omega) hk h1
            simp only [if_true, v1]; exact h.healTo (i := 0) (by omega) hk ho0 _
          | false => simp only [Bool.false_eq_true, if_false]; exact ⟨trivial, h.more (by omega)⟩
/-! ### New -/
def Md.new (n : Nat) : Md := ⟨List.replicate n zeroS, List.replicate n zeroS, false, false, List.replicate n false, List.replicate n false⟩
theorem sees_new {S T : Sy} {L0 L1 : List (List UInt8)} {o0 o1 : Bool} {n : Nat} (h0 : See S L0 o0 m) (h1 : See T L1 o1 m) (e0 : L0.length = n) (e1 : L1.length = n) :
    Sees (newM (Two p1 g1 p2 g2) (S, T)) ⟨L0, L1, o0, o1, List.replicate n o0, List.replicate n o1⟩ m := by
  have hs : Sees (⟨(S, T), List.replicate n o0, List.replicate n o1⟩ : Mr (Two p1 g1 p2 g2)) ⟨L0, L1, o0, o1, List.replicate n o0, List.replicate n o1⟩ m :=
    ⟨h0, h1, rfl, rfl, by rw [List.length_replicate]; exact e0, by rw [List.length_replicate]; exact e1, by rw [List.length_replicate, List.length_replicate]⟩
  have hp : (Two p1 g1 p2 g2).places (S, T) = n := by
    show min (S.at 0).st.length (T.at 0).st.length = n
    rw [h0.len, h1.len, e0, e1, Nat.min_self]
  have t0 : (Two p1 g1 p2 g2).there (S, T) 0 = !o0 := hs.there (i := 0) (by omega)
  have t1 : (Two p1 g1 p2 g2).there (S, T) 1 = !o1 := hs.there (i := 1) (by omega)
  have e : newM (Two p1 g1 p2 g2) (S, T) = ⟨(S, T), List.replicate n o0, List.replicate n o1⟩ := by
    show (⟨(S, T), List.replicate ((Two p1 g1 p2 g2).places (S, T)) (!((Two p1 g1 p2 g2).there (S, T) 0)), List.replicate ((Two p1 g1 p2 g2).places (S, T)) (!((Two p1 g1 p2 g2).there (S, T) 1))⟩ : Mr (Two p1 g1 p2 g2)) = _
    rw [hp, t0, t1, Bool.not_not, Bool.not_not]
  rw [e]
  exact hs
end
end Go.Proofs.Ytgfldfofiglefaa.Mi
/-
  .. Sync, Out, Rot; what waits of what is out. No program.
-/
namespace Go.Proofs.Ytgfldfofiglefaa.Mi
open Kd
section
variable {p1 g1 p2 g2 : Nat} {s : Mr (Two p1 g1 p2 g2)} {x : Md} {m : Nat} {G : Gd}
theorem dry_in (h0 : x.o0 = false) (h1 : x.o1 = false) : Dry s x := ⟨fun h => (by rw [h0] at h; cases h), fun h => (by rw [h1] at h; cases h)⟩
theorem Dry.write (hd : Dry s x) (h : Sees s x m) (n : Int) (y : List UInt8) : Dry (s.write n y).2 (x.write n y).2 := by
  rw [Mr.write, Md.write, h.has]
  cases hh : x.has n with
  | false => exact hd
  | true =>
    obtain ⟨k, rfl, hk⟩ := has_place hh
    rw [if_pos rfl, if_pos rfl, Int.toNat_natCast]
    obtain ⟨e0, h0⟩ := h.wd (i := 0) (by omega) hk y
    obtain ⟨e1, _⟩ := h0.wd (i := 1) (by omega) (by rw [wd_a]; exact hk) y
    have e1' : ((Two p1 g1 p2 g2).wr (s.w0 (k : Int) y 0).d 1 (k : Int) y).1 = _ := e1
    rw [wd_o] at e1'
    rw [e0, e1', eq13, eq13]
    have h2 : Dry ((s.w0 (k : Int) y 0).w0 (k : Int) y 1) ((x.wd 0 k y).wd 1 k y) := (hd.wd h (by omega) y).wd h0 (by omega) y
    rw [Mr.reach, show x.o 0 = x.o0 from rfl, show x.o 1 = x.o1 from rfl]
    cases ho0 : x.o0 <;> cases ho1 : x.o1
    · exact (h2.put 0 k false).put 1 k false
    · exact (h2.put 0 k false).put 1 k true
    · exact (h2.put 0 k true).put 1 k false
    · have hx : (x.wd 0 k y).wd 1 k y = x := by
        have h3 : x.wd 0 k y = x := by rw [Md.wd, show x.o 0 = true from ho0, if_pos rfl]
        rw [h3, Md.wd, show x.o 1 = true from ho1, if_pos rfl]
      rw [hx] at h2
      exact h2
theorem Dry.c1 (hd : Dry s x) (h : Sees s x m) {i k : Nat} (hi : i < 2) (hk : k < x.a.length) (y : List UInt8) : Dry (s.c1 (k : Int) y i).2 (x.wd i k y) := by
  have hw := hd.wd h hi y (k := k)
  rw [Mr.c1, h.rd_at hi hk]
  cases ho : x.o i with
  | true =>
    rw [if_neg (by simp), Md.wd, ho, if_pos rfl]
    exact hd
  | false =>
    rw [if_pos (by simp)]
    by_cases hy : (x.l i).getD k zeroS = y
    · rw [if_pos (by simpa using hy), ← hy, wd_same ho]
      exact hd
    · rw [if_neg (by simpa using hy)]
      exact hw
theorem Dry.choose (hd : Dry s x) (h : Sees s x m) (n : Int) (y : List UInt8) : Dry (s.choose n y).2 (x.write n y).2 := by
  rw [Mr.choose, Md.write, h.has]
  cases hh : x.has n with
  | false => exact hd
  | true =>
    obtain ⟨k, rfl, hk⟩ := has_place hh
    rw [if_pos rfl, if_pos rfl, Int.toNat_natCast]
    obtain ⟨e0, h0⟩ := h.c1 (i := 0) (by omega) hk y
    obtain ⟨e1, _⟩ := h0.c1 (i := 1) (by omega) (by rw [wd_a]; exact hk) y
    rw [wd_o] at e1
    rw [e0, e1]
    have h2 : Dry ((s.c1 (k : Int) y 0).2.c1 (k : Int) y 1).2 ((x.wd 0 k y).wd 1 k y) := (hd.c1 h (by omega) hk y).c1 h0 (by omega) (by rw [wd_a]; exact hk) y
    rw [Mr.reach, show x.o 0 = x.o0 from rfl, show x.o 1 = x.o1 from rfl]
    cases ho0 : x.o0 <;> cases ho1 : x.o1
    · exact (h2.put 0 k false).put 1 k false
    · exact (h2.put 0 k false).put 1 k true
    · exact (h2.put 0 k true).put 1 k false
    · have hx : (x.wd 0 k y).wd 1 k y = x := by
        have h3 : x.wd 0 k y = x := by rw [Md.wd, show x.o 0 = true from ho0, if_pos rfl]
        rw [h3, Md.wd, show x.o 1 = true from ho1, if_pos rfl]
      rw [hx] at h2
      exact h2
theorem setL_o (x : Md) (i k : Nat) (y : List UInt8) : (x.setL i k y).o0 = x.o0 ∧ (x.setL i k y).o1 = x.o1 ∧ (x.setL i k y).a = x.a := by unfold Md.setL; split <;> exact ⟨rfl, rfl, rfl⟩
theorem put_o (x : Md) (i k : Nat) (v : Bool) : (x.put i k v).o0 = x.o0 ∧ (x.put i k v).o1 = x.o1 ∧ (x.put i k v).a.length = x.a.length := by
  unfold Md.put; split
  · exact ⟨rfl, rfl, by simp⟩
  · exact ⟨rfl, rfl, rfl⟩
theorem mend_o (x : Md) (i k : Nat) (y : List UInt8) : (x.mend i k y).o0 = x.o0 ∧ (x.mend i k y).o1 = x.o1 ∧ (x.mend i k y).a.length = x.a.length := by
  obtain ⟨h1, h2, h3⟩ := put_o (x.setL i k y) i k false
  obtain ⟨h4, h5, h6⟩ := setL_o x i k y
  exact ⟨h1.trans h4, h2.trans h5, h3.trans (by rw [h6])⟩
theorem Dry.heal (hd : Dry s x) (h : Sees s x m) (n : Int) : Dry (s.heal G n).2 (x.heal G.f n).2 := by
  by_cases hc : x.has n = true ∧ x.o0 = false ∧ x.o1 = false
  · obtain ⟨hh, h0, h1⟩ := hc
    have e : (x.heal G.f n).2.o0 = false ∧ (x.heal G.f n).2.o1 = false := by
      rw [Md.heal, hh, if_pos rfl, if_neg (by rw [h0, h1]; simp)]
      split
      · split
        · exact ⟨h0, h1⟩
        · obtain ⟨a, b, _⟩ := mend_o x 1 n.toNat (x.l0.getD n.toNat zeroS); exact ⟨a.trans h0, b.trans h1⟩
      · split
        · obtain ⟨a, b, _⟩ := mend_o x 0 n.toNat (x.l1.getD n.toNat zeroS); exact ⟨a.trans h0, b.trans h1⟩
        · exact ⟨h0, h1⟩
    exact dry_in e.1 e.2
  · have e : (s.heal G n).2 = s ∧ (x.heal G.f n).2 = x := by
      rw [Mr.heal, Md.heal, h.has]
      cases hh : x.has n with
      | false => exact ⟨rfl, rfl⟩
      | true =>
        rw [if_pos rfl, if_pos rfl, h.there (by omega), h.there (by omega), show x.o 0 = x.o0 from rfl, show x.o 1 = x.o1 from rfl]
        cases h0 : x.o0 with
        | true => exact ⟨rfl, rfl⟩
        | false =>
          cases h1 : x.o1 with
          | true => exact ⟨rfl, rfl⟩
          | false => exact absurd ⟨hh, h0, h1⟩ hc
    rw [e.1, e.2]
    exact hd
/-! ### Sync -/
def Md.catch1 (f : Int → List UInt8 → Bool) (x : Md) (i k : Nat) : Md := if (x.st i).getD k false && x.right f (1 - i) k then x.mend i k ((x.l (1 - i)).getD k zeroS) else x
def Md.catchTo (f : Int → List UInt8 → Bool) (x : Md) (i : Nat) : Nat → Md
  | 0 => x
  | k + 1 => (x.catchTo f i k).catch1 f i k
theorem catch1_o (f : Int → List UInt8 → Bool) (x : Md) (i k : Nat) : (x.catch1 f i k).o0 = x.o0 ∧ (x.catch1 f i k).o1 = x.o1 ∧ (x.catch1 f i k).a.length = x.a.length := by
  unfold Md.catch1; split
  · exact mend_o _ _ _ _
  · exact ⟨rfl, rfl, rfl⟩
theorem catchTo_o (f : Int → List UInt8 → Bool) (x : Md) (i : Nat) : ∀ k, (x.catchTo f i k).o0 = x.o0 ∧ (x.catchTo f i k).o1 = x.o1 ∧ (x.catchTo f i k).a.length = x.a.length
  | 0 => ⟨rfl, rfl, rfl⟩
  | k + 1 => by
    obtain ⟨a, b, c⟩ := catchTo_o f x i k
    obtain ⟨d, e, g⟩ := catch1_o f (x.catchTo f i k) i k
    exact ⟨d.trans a, e.trans b, g.trans c⟩
theorem Sees.catch1 (h : Sees s x m) {i k : Nat} (hi : i < 2) (hk : k < x.a.length) (ho : x.o i = false) : Sees (s.catch1 G i k) (x.catch1 G.f i k) (m + 1) := by
  rw [Mr.catch1, Md.catch1, h.st, h.right (by omega) hk]
  split
  · rename_i hc
    have hr : x.right G.f (1 - i) k = true := by
      cases hr : x.right G.f (1 - i) k
      · rw [hr, Bool.and_false] at hc; cases hc
      · rfl
    rw [h.rightV (by omega) hk hr]
    exact (h.mend hi hk ho _).2
  · exact h.more (Nat.le_succ _)
theorem Sees.catchTo (h : Sees s x m) {i : Nat} (hi : i < 2) (ho0 : x.o0 = false) (ho1 : x.o1 = false) : ∀ k, k ≤ x.a.length → Sees (s.catchTo G i k) (x.catchTo G.f i k) (m + k)
  | 0, _ => h
  | k + 1, hk => by
    obtain ⟨a, b, c⟩ := catchTo_o G.f x i k
    refine (h.catchTo hi ho0 ho1 k (by omega)).catch1 hi (by rw [c]; omega) ?_
    rcases two hi with rfl | rfl
    · exact a.trans ho0
    · exact b.trans ho1
def Md.caught (f : Int → List UInt8 → Bool) (x : Md) : Md := (x.catchTo f 0 x.a.length).catchTo f 1 x.a.length
def Md.sync (f : Int → List UInt8 → Bool) (x : Md) : Int × Md :=
  if x.o0 || x.o1 then (13, x) else (if cnt (x.caught f).a = 0 ∧ cnt (x.caught f).b = 0 then 0 else 9, x.caught f)
theorem Sees.sync (h : Sees s x 0) : (s.sync G x.a.length).1 = (x.sync G.f).1 ∧ Sees (s.sync G x.a.length).2 (x.sync G.f).2 0 := by
  rw [Mr.sync, Md.sync, h.there (by omega), h.there (by omega), show x.o 0 = x.o0 from rfl, show x.o 1 = x.o1 from rfl]
  cases ho0 : x.o0 with
  | true => exact ⟨rfl, h⟩
  | false =>
    cases ho1 : x.o1 with
    | true => exact ⟨rfl, h⟩
    | false =>
      rw [if_pos (show ((!false) && !false) = true from rfl), if_neg (show ¬ (false || false) = true by simp)]
      obtain ⟨a, b, c⟩ := catchTo_o G.f x 0 x.a.length
      have h1 := h.catchTo (G := G) (i := 0) (by omega) ho0 ho1 x.a.length (Nat.le_refl _)
      have h2 : Sees (s.caught G x.a.length) (x.caught G.f) (0 + x.a.length + x.a.length) := h1.catchTo (i := 1) (by omega) (a.trans ho0) (b.trans ho1) x.a.length (by rw [c]; exact Nat.le_refl _)
      obtain ⟨d, e, g⟩ := catchTo_o G.f (x.catchTo G.f 0 x.a.length) 1 x.a.length
      have o0 : (x.caught G.f).o0 = false := (d.trans a).trans ho0
      have o1 : (x.caught G.f).o1 = false := (e.trans b).trans ho1
      obtain ⟨h3, h4⟩ := h2.fl (dry_in o0 o1)
      rw [o0, o1] at h3
      rw [if_pos (show (s.caught G x.a.length).flushed = (true, true) from h3)]
      refine ⟨?_, h4⟩
      rw [show (((s.caught G x.a.length).fl0 0).fl0 1).a = (x.caught G.f).a from h4.a, show (((s.caught G x.a.length).fl0 0).fl0 1).b = (x.caught G.f).b from h4.b]
theorem Dry.sync (h : Sees s x 0) : Dry (s.sync G x.a.length).2 (x.sync G.f).2 := (h.sync).2.dry
/-! ### Out, Rot -/
def Md.out (x : Md) (i : Nat) (on : Bool) : Md := if i = 0 then { x with o0 := on } else { x with o1 := on }
theorem Sees.out0 (h : Sees s x 0) (on : Bool) : Sees (⟨(s.d.1.put 0 ((s.d.1.at 0).out on), s.d.2), s.a, s.b⟩ : Mr (Two p1 g1 p2 g2)) (x.out 0 on) 0 := ⟨h.d0.out on, h.d1, h.a, h.b, h.n0, h.n1, h.nb⟩
theorem Sees.out1 (h : Sees s x 0) (on : Bool) : Sees (⟨(s.d.1, s.d.2.put 0 ((s.d.2.at 0).out on)), s.a, s.b⟩ : Mr (Two p1 g1 p2 g2)) (x.out 1 on) 0 := ⟨h.d0, h.d1.out on, h.a, h.b, h.n0, h.n1, h.nb⟩
theorem See.rot {S : Sy} {L : List (List UInt8)} {g : Bool} (h : See S L g 0) (i a : Int) (b : UInt8) : See (S.rot 0 i a b) (if hasByte L.length i a then rotL L i.toNat a.toNat b else L) g 0 := by
  have hl : (S.at 0).st.length = L.length := h.len
  rw [Sy.rot, hl]
  split
  · have hd0 : 0 < S.ds.length := by rw [h.ds]; omega
    have ha : (S.put 0 ((S.at 0).rot i.toNat a.toNat b)).at 0 = (S.at 0).rot i.toNat a.toNat b := by rw [at_put _ hd0, if_pos rfl]
    refine ⟨by rw [len_put]; exact h.ds, h.p, ?_, fun j hj => ?_, by rw [ha]; exact h.gone, by rw [ha]; exact h.lies, by rw [ha]; exact h.few⟩
    · rw [ha, ← h.stable]; rfl
    · rw [ha, Dv.now]
      show nowL (rotL (S.at 0).st i.toNat a.toNat b) (S.at 0).wt j = _
      rw [h.dry, Kd.flush_nil, h.stable]
  · exact h
def Md.rot (x : Md) (i : Nat) (n a : Int) (b : UInt8) : Md := if hasByte x.a.length n a then (if i = 0 then { x with l0 := rotL x.l0 n.toNat a.toNat b } else { x with l1 := rotL x.l1 n.toNat a.toNat b }) else x
theorem rotL_length (L : List (List UInt8)) (n a : Nat) (b : UInt8) : (rotL L n a b).length = L.length := by rw [rotL, List.length_set]
theorem Sees.rot0 (h : Sees s x 0) (n a : Int) (b : UInt8) : Sees (⟨(s.d.1.rot 0 n a b, s.d.2), s.a, s.b⟩ : Mr (Two p1 g1 p2 g2)) (x.rot 0 n a b) 0 := by
  have h1 := h.d0.rot n a b
  rw [h.n0] at h1
  rw [Md.rot]
  split
  · rename_i hc
    rw [if_pos hc] at h1
    exact ⟨h1, h.d1, h.a, h.b, by show (rotL _ _ _ _).length = _; rw [rotL_length]; exact h.n0, h.n1, h.nb⟩
  · rename_i hc
    rw [if_neg hc] at h1
    exact ⟨h1, h.d1, h.a, h.b, h.n0, h.n1, h.nb⟩
theorem Sees.rot1 (h : Sees s x 0) (n a : Int) (b : UInt8) : Sees (⟨(s.d.1, s.d.2.rot 0 n a b), s.a, s.b⟩ : Mr (Two p1 g1 p2 g2)) (x.rot 1 n a b) 0 := by
  have h1 := h.d1.rot n a b
  rw [h.n1] at h1
  rw [Md.rot]
  split
  · rename_i hc
    rw [if_pos hc] at h1
    exact ⟨h.d0, h1, h.a, h.b, h.n0, by show (rotL _ _ _ _).length = _; rw [rotL_length]; exact h.n1, h.nb⟩
  · rename_i hc
    rw [if_neg hc] at h1
    exact ⟨h.d0, h1, h.a, h.b, h.n0, h.n1, h.nb⟩
end
end Go.Proofs.Ytgfldfofiglefaa.Mi
/-
  Two devices, and a mirror of them, in the laws: what each call tells, and makes of what is told of them.
-/
namespace Go.Proofs.Ytgfldfofiglefaa.Mi
open Go.RowKit Kd
section
variable {p1 g1 p2 g2 g : Nat} {G : Gd} {w0 w w1 w' : World} {F F' : Nat → Prop} {m : Nat}
/-- Two devices, new behind w0. -/
structure LD (p1 g1 p2 g2 : Nat) (w0 w : World) (d : (Two p1 g1 p2 g2).L.St) (F : Nat → Prop) (L0 L1 : List (List UInt8)) (o0 o1 : Bool) (m : Nat) : Prop where
  live : LiveA (Two p1 g1 p2 g2).L w0 w d F
  d0 : See d.1 L0 o0 m
  d1 : See d.2 L1 o1 m
/-- A mirror of them. -/
structure LM (p1 g1 p2 g2 : Nat) (G : Gd) (g : Nat) (w0 w : World) (s : Mr (Two p1 g1 p2 g2)) (F : Nat → Prop) (x : Md) (m : Nat) : Prop where
  live : LiveA (ML (Two p1 g1 p2 g2) G g) w0 w s F
  sees : Sees s x m
  dry : Dry s x
/-- It returns v; the mirror is x now. -/
def RetM (v : Value) (p1 g1 p2 g2 : Nat) (G : Gd) (g : Nat) (w0 : World) (x : Md) (m : Nat) (F : Nat → Prop) (w : World) (e : Ending) (w' : World) : Prop :=
  e = .returned v ∧ ∃ (s : Mr (Two p1 g1 p2 g2)) (F' : Nat → Prop), LM p1 g1 p2 g2 G g w0 w' s F' x m ∧ Mv (ML (Two p1 g1 p2 g2) G g) w F w' s F'
variable {s s' : Mr (Two p1 g1 p2 g2)} {x x' : Md}
theorem LM.ret (h : LM p1 g1 p2 g2 G g w0 w s F x m) {v : Value} {e : Ending} {m' : Nat} (hr : RetA (ML (Two p1 g1 p2 g2) G g) v s' F w e w') (hs : Sees s' x' m') (hd : Dry s' x') : RetM v p1 g1 p2 g2 G g w0 x' m' F w e w' := by
  obtain ⟨rfl, F', hm⟩ := hr
  exact ⟨rfl, s', F', ⟨h.live.step hm, hs, hd⟩, hm⟩
theorem LM.below (h : LM p1 g1 p2 g2 G g w0 w s F x m) (hb : Below w.heap.size w w') : LM p1 g1 p2 g2 G g w0 w' s F x m := ⟨h.live.below hb, h.sees, h.dry⟩
theorem LM.more (h : LM p1 g1 p2 g2 G g w0 w s F x m) {m' : Nat} (hm : m ≤ m') : LM p1 g1 p2 g2 G g w0 w s F x m' := ⟨h.live, h.sees.more hm, h.dry⟩
theorem lm_write (h : LM p1 g1 p2 g2 G g w0 w s F x m) (n : Int) (y : List UInt8) (hy : y.length = 128) (hm : m < 900000) :
    Calls Try.prog 41 #[.pointer (some ⟨g, 0, none⟩), .int .i64 n, .agg (bva y)] w (RetM (.int .i64 (x.write n y).1) p1 g1 p2 g2 G g w0 (x.write n y).2 (m + 2) F w) := by
  obtain ⟨h1, h2⟩ := h.sees.write n y
  have hc := mwrite_any h.live.at_ h.sees.ok n y hy (Nat.lt_of_le_of_lt h.sees.most hm)
  rw [h1] at hc
  exact hc.mono fun _ _ hr => h.ret hr h2 (h.dry.write h.sees n y)
theorem lm_choose (h : LM p1 g1 p2 g2 G g w0 w s F x m) (n : Int) (y : List UInt8) (hy : y.length = 128) (hm : m < 900000) :
    Calls Try.prog 82 #[.pointer (some ⟨g, 0, none⟩), .int .i64 n, .agg (bva y)] w (RetM (.int .i64 (x.write n y).1) p1 g1 p2 g2 G g w0 (x.write n y).2 (m + 2) F w) := by
  obtain ⟨h1, h2⟩ := h.sees.choose n y
  have hc := mchoose_any h.live.at_ h.sees.ok n y hy (Nat.lt_of_le_of_lt h.sees.most hm)
  rw [h1] at hc
  exact hc.mono fun _ _ hr => h.ret hr h2 (h.dry.choose h.sees n y)
theorem lm_flush (h : LM p1 g1 p2 g2 G g w0 w s F x m) :
    Calls Try.prog 42 #[.pointer (some ⟨g, 0, none⟩)] w (RetM (.int .i64 (if x.o0 && x.o1 then 13 else 0)) p1 g1 p2 g2 G g w0 x 0 F w) := by
  obtain ⟨h1, h2⟩ := h.sees.flush h.dry
  have hc := mflushm_any h.live.at_
  rw [h1] at hc
  exact hc.mono fun _ _ hr => h.ret hr h2 h2.dry
theorem lm_read (h : LM p1 g1 p2 g2 G g w0 w s F x m) (n : Int) :
    Calls Try.prog 35 #[.pointer (some ⟨g, 0, none⟩), .int .i64 n] w (RetM (.tuple #[.agg (bva (x.read G.f n).1), .int .i64 (x.read G.f n).2]) p1 g1 p2 g2 G g w0 x m F w) := by
  have hc := mread_any h.live.at_ (by rw [h.sees.ok.1, h.sees.ok.2]) n
  rw [h.sees.read n] at hc
  exact hc.mono fun _ _ hr => h.ret hr h.sees h.dry
theorem lm_heal (h : LM p1 g1 p2 g2 G g w0 w s F x m) (n : Int) (hm : m < 900000) :
    Calls Try.prog 34 #[.pointer (some ⟨g, 0, none⟩), .int .i64 n] w (RetM (tup2 (x.heal G.f n).1) p1 g1 p2 g2 G g w0 (x.heal G.f n).2 (m + 1) F w) := by
  obtain ⟨h1, h2⟩ := h.sees.heal (G := G) n
  have hc := heal_any h.live.at_ h.sees.ok n (Nat.lt_of_le_of_lt h.sees.most (by omega))
  rw [h1] at hc
  exact hc.mono fun _ _ hr => h.ret hr h2 (h.dry.heal h.sees n)
theorem lm_sync (h : LM p1 g1 p2 g2 G g w0 w s F x 0) (hk : x.a.length ≤ 5000) :
    Calls Try.prog 33 #[.pointer (some ⟨g, 0, none⟩)] w (RetM (.int .i64 (x.sync G.f).1) p1 g1 p2 g2 G g w0 (x.sync G.f).2 0 F w) := by
  obtain ⟨h1, h2⟩ := h.sees.sync (G := G)
  have hc := sync_any h.live.at_ h.sees.ok hk (Nat.lt_of_le_of_lt h.sees.most (by omega))
  rw [h1] at hc
  exact hc.mono fun _ _ hr => h.ret hr h2 h2.dry
theorem lm_stale (h : LM p1 g1 p2 g2 G g w0 w s F x m) : Calls Try.prog 84 #[.pointer (some ⟨g, 0, none⟩)] w (RetB (.tuple #[.int .i64 (cnt x.a), .int .i64 (cnt x.b)]) w) := by
  have hc := stale_any h.live.at_
  rwa [h.sees.a, h.sees.b] at hc
theorem lm_both (h : LM p1 g1 p2 g2 G g w0 w s F x m) (n : Int) : Calls Try.prog 36 #[.pointer (some ⟨g, 0, none⟩), .int .i64 n] w (RetSec (x.both G.f n) w) := by
  have hc := both_any h.live.at_ n
  rwa [h.sees.both n] at hc
theorem lm_len (h : LM p1 g1 p2 g2 G g w0 w s F x m) : Calls Try.prog 31 #[.pointer (some ⟨g, 0, none⟩)] w (RetB (.int .i64 x.a.length) w) := by
  have hc := mlen_any h.live.at_
  rwa [h.sees.a] at hc
/-! ### The devices beneath a mirror -/
theorem ml_fst (h : (ML (Two p1 g1 p2 g2) G g).At w s F) : ∃ F1, Kd.Sys w p1 [g1] s.d.1 F1 ∧ s.d.1.ds.length = 1 ∧ ∀ {v : Value} {S : Sy} {e w'}, S.ds.length = 1 → RetS v p1 [g1] S F1 w e w' → RetA (ML (Two p1 g1 p2 g2) G g) v ⟨(S, s.d.2), s.a, s.b⟩ F w e w' := by
  obtain ⟨F0, hd, hl⟩ := ml_dev h
  obtain ⟨F1, h1, hl1⟩ := pair_fst hd
  exact ⟨F1, h1.1, h1.2, fun hS hr => hl (hl1 (RetS.reta hS hr))⟩
theorem ml_snd (h : (ML (Two p1 g1 p2 g2) G g).At w s F) : ∃ F2, Kd.Sys w p2 [g2] s.d.2 F2 ∧ s.d.2.ds.length = 1 ∧ ∀ {v : Value} {S : Sy} {e w'}, S.ds.length = 1 → RetS v p2 [g2] S F2 w e w' → RetA (ML (Two p1 g1 p2 g2) G g) v ⟨(s.d.1, S), s.a, s.b⟩ F w e w' := by
  obtain ⟨F0, hd, hl⟩ := ml_dev h
  obtain ⟨F1, h1, hl1⟩ := pair_snd hd
  exact ⟨F1, h1.1, h1.2, fun hS hr => hl (hl1 (RetS.reta hS hr))⟩
theorem lm_out0 (h : LM p1 g1 p2 g2 G g w0 w s F x 0) (on : Bool) : Calls Try.prog 27 #[.pointer (some ⟨g1, 0, none⟩), .bool on] w (RetM (.tuple #[]) p1 g1 p2 g2 G g w0 (x.out 0 on) 0 F w) := by
  obtain ⟨F1, h1, h2, hl⟩ := ml_fst h.live.at_
  have hs := h.sees.out0 on
  exact (out_sys h1 0 (by rw [h2]; omega) on).mono fun _ _ hr => h.ret (hl ((len_put _).trans h2) hr) hs hs.dry
theorem lm_out1 (h : LM p1 g1 p2 g2 G g w0 w s F x 0) (on : Bool) : Calls Try.prog 27 #[.pointer (some ⟨g2, 0, none⟩), .bool on] w (RetM (.tuple #[]) p1 g1 p2 g2 G g w0 (x.out 1 on) 0 F w) := by
  obtain ⟨F1, h1, h2, hl⟩ := ml_snd h.live.at_
  have hs := h.sees.out1 on
  exact (out_sys h1 0 (by rw [h2]; omega) on).mono fun _ _ hr => h.ret (hl ((len_put _).trans h2) hr) hs hs.dry
theorem rot_ds {S : Sy} (n a : Int) (b : UInt8) : (S.rot 0 n a b).ds.length = S.ds.length := by rw [Sy.rot]; split; exact len_put _; rfl
theorem lm_rot0 (h : LM p1 g1 p2 g2 G g w0 w s F x 0) (n a : Int) (b : UInt8) : Calls Try.prog 57 #[.pointer (some ⟨g1, 0, none⟩), .int .i64 n, .int .i64 a, .int .u8 (b.toNat : Int)] w (RetM (.bool (hasByte x.a.length n a)) p1 g1 p2 g2 G g w0 (x.rot 0 n a b) 0 F w) := by
  obtain ⟨F1, h1, h2, hl⟩ := ml_fst h.live.at_
  have hs := h.sees.rot0 n a b
  have hc := rot_sys h1 0 (by rw [h2]; omega) n a b
  rw [h.sees.d0.len, h.sees.n0] at hc
  exact hc.mono fun _ _ hr => h.ret (hl ((rot_ds n a b).trans h2) hr) hs hs.dry
theorem lm_rot1 (h : LM p1 g1 p2 g2 G g w0 w s F x 0) (n a : Int) (b : UInt8) : Calls Try.prog 57 #[.pointer (some ⟨g2, 0, none⟩), .int .i64 n, .int .i64 a, .int .u8 (b.toNat : Int)] w (RetM (.bool (hasByte x.a.length n a)) p1 g1 p2 g2 G g w0 (x.rot 1 n a b) 0 F w) := by
  obtain ⟨F1, h1, h2, hl⟩ := ml_snd h.live.at_
  have hs := h.sees.rot1 n a b
  have hc := rot_sys h1 0 (by rw [h2]; omega) n a b
  rw [h.sees.d1.len, h.sees.n1] at hc
  exact hc.mono fun _ _ hr => h.ret (hl ((rot_ds n a b).trans h2) hr) hs hs.dry
/-! ### Two devices ahead of a mirror -/
theorem LD.below {d : (Two p1 g1 p2 g2).L.St} {L0 L1 : List (List UInt8)} {o0 o1 : Bool} (h : LD p1 g1 p2 g2 w0 w d F L0 L1 o0 o1 m) (hb : Below w.heap.size w w') : LD p1 g1 p2 g2 w0 w' d F L0 L1 o0 o1 m := ⟨h.live.below hb, h.d0, h.d1⟩
theorem ld_new {S T : Sy} {F1 F2 : Nat → Prop} {L0 L1 : List (List UInt8)} {o0 o1 : Bool} (h1 : Live w0 w1 p1 [g1] S F1) (h2 : Live w1 w p2 [g2] T F2) (s1 : See S L0 o0 m) (s2 : See T L1 o1 m) :
    LD p1 g1 p2 g2 w0 w (S, T) (fun q => F1 q ∨ F2 q) L0 L1 o0 o1 m := by
  have hl1 := h1.lt
  refine ⟨⟨⟨F1, F2, ⟨(h1.below h2.bel).sys, s1.ds⟩, ⟨h2.sys, s2.ds⟩, fun q a b => by have := hl1 q a; have := h2.new q b; omega, fun q a => .inl a, fun q a => .inr a, ?_⟩, ?_, h1.bel.trans (h2.bel.mono h1.bel.size)⟩, s1, s2⟩
  · rintro q (hq | hq)
    · exact Nat.lt_of_lt_of_le (hl1 q hq) h2.bel.size
    · exact h2.lt q hq
  · rintro q (hq | hq)
    · exact h1.new q hq
    · exact Nat.le_trans h1.bel.size (h2.new q hq)
theorem lm_new (hR : ∀ A n c B m e, G.R A n c B m e) {d : (Two p1 g1 p2 g2).L.St} {L0 L1 : List (List UInt8)} {o0 o1 : Bool} {n : Nat} (h : LD p1 g1 p2 g2 w0 w d F L0 L1 o0 o1 0) (e0 : L0.length = n) (e1 : L1.length = n) (hl : G.l = [] := by rfl) :
    Calls Try.prog 28 #[.pointer (some ⟨g1, 0, none⟩), .pointer (some ⟨g2, 0, none⟩), G.v] w (fun e w' => ∃ g s F', e = .returned (.pointer (some ⟨g, 0, none⟩)) ∧ LM p1 g1 p2 g2 G g w0 w' s F' ⟨L0, L1, o0, o1, List.replicate n o0, List.replicate n o1⟩ 0 ∧ (∀ q, F' q → F q ∨ w.heap.size ≤ q) ∧ But F w w') := by
  refine (new_any (C := Two p1 g1 p2 g2) hR h.live.at_ hl).mono ?_
  rintro e w' ⟨g, F', rfl, h1, h2, h3⟩
  have hs : Sees (newM (Two p1 g1 p2 g2) d) ⟨L0, L1, o0, o1, List.replicate n o0, List.replicate n o1⟩ 0 := sees_new h.d0 h.d1 e0 e1
  exact ⟨g, _, F', rfl, ⟨⟨h1, fun q hq => (h2 q hq).elim (h.live.new q) (Nat.le_trans h.live.bel.size), h.live.bel.trans (h3.below (fun k hk hq => by have := h.live.new k hq; omega) h.live.bel.size)⟩, hs, hs.dry⟩, h2, h3⟩
end
end Go.Proofs.Ytgfldfofiglefaa.Mi
/-
  The contracts of the reference's Good, the laws' Sector, the reference's Sectors.
-/
namespace Go.Proofs.Ytgfldfofiglefaa.Mi
open Go.RowKit Kd
attribute [local go_sem ↓] Go.wp_at_zero Go.wp_at_succ
/-- The little rule by which the laws call sectors good. -/
def goodN (n : Int) (x : List UInt8) : Bool := (wrap64 (((x.getD 0 0).toNat : Int) + ((x.getD 1 0).toNat : Int) + n)).tmod 4 != 3
theorem byte_cell {w : World} {g : Nat} {x : List UInt8} {t : TypeId} (h : Blk w g (bva x) t) {j : Nat} (hj : j < x.length) : w.cell? ⟨g, j, none⟩ = some (.int .u8 ((x.getD j 0).toNat : Int)) := by
  rw [h.cell j, bva]
  show (bv x).toArray[j]? = _
  rw [List.getElem?_toArray, bv, List.getElem?_map, List.getElem?_eq_getElem hj, List.getD_eq_getElem?_getD, List.getElem?_eq_getElem hj]; rfl
set_option maxRecDepth 100000 in
set_option maxHeartbeats 3200000 in
theorem good_any (w : World) (n : Int) (x : List UInt8) (hx : x.length = 128) : Calls Try.prog 29 #[.int .i64 n, .agg (bva x)] w (RetB (.bool (goodN n x)) w) := by
  obtain ⟨w1, hw1⟩ : ∃ w1, w1 = w.alloc (.cells (bva x) 38) := ⟨_, rfl⟩
  have hb : Blk w1 w.heap.size (bva x) 38 := by rw [hw1]; exact heap_alloc_new _ _
  have B1 := Lib.hid (show Below w.heap.size w w1 from by rw [hw1]; exact (Below.refl _ _).alloc (Nat.le_refl _) _)
  have c0 := byte_cell hb (j := 0) (by omega)
  have c1 := byte_cell hb (j := 1) (by omega)
  obtain ⟨a, ha⟩ : ∃ a, a = (x.getD 0 0).toNat := ⟨_, rfl⟩
  obtain ⟨b, hb2⟩ : ∃ b, b = (x.getD 1 0).toNat := ⟨_, rfl⟩
  have a1 : a < 256 := by rw [ha]; exact UInt8.toNat_lt _
  have b1 : b < 256 := by rw [hb2]; exact UInt8.toNat_lt _
  have HV := Lib.hid (show goodN n x = ((wrap64 ((a : Int) + (b : Int) + n)).tmod 4 != 3) by rw [goodN, ha, hb2])
  rw [← ha] at c0
  rw [← hb2] at c1
  have wab : IntKind.i64.wrap ((a : Int) + (b : Int)) = ((a + b : Nat) : Int) := by rw [show (a : Int) + (b : Int) = ((a + b : Nat) : Int) by omega]; exact IntWalk.i64_in _ (by omega)
  have wa : IntKind.i64.wrap (a : Int) = (a : Int) := IntWalk.i64_in _ (by omega)
  have wb : IntKind.i64.wrap (b : Int) = (b : Int) := IntWalk.i64_in _ (by omega)
  rw [HV.out]
  clear hb hx ha hb2 HV
  go_enter Try.func29, Try.ntmps29
  go_upto_region 1 with fail
  rw [← hw1]
  clear hw1
  go_wp2_with fail
  go_ret
  exact ⟨rfl, B1.out⟩
theorem good_enter (args : Array Value) (W : World) : (callFunc 29 args).run Try.prog W = .ok (.enter 29 args) W := by kernel_rfl
set_option maxRecDepth 100000 in
def gG : Gd where
  k := some 29
  f := goodN
  R _ _ _ _ _ _ := True
  none_ h := by cases h
  enter k' h args W := by injection h with h; subst h; exact good_enter args W
  call k' h w n x _ hx := by injection h with h; subst h; exact good_any w n x hx
/-- A sector with two bytes ahead. -/
def secN (x y : UInt8) : List UInt8 := x :: y :: 9 :: List.replicate 125 0
theorem secN_length (x y : UInt8) : (secN x y).length = 128 := by simp [secN]
theorem good_sec (n : Int) (x y : UInt8) : goodN n (secN x y) = ((wrap64 ((x.toNat : Int) + (y.toNat : Int) + n)).tmod 4 != 3) := rfl
set_option maxRecDepth 100000 in
set_option maxHeartbeats 3200000 in
theorem sector9_any (w : World) (x y : UInt8) : Calls Try.prog 40 #[.int .u8 (x.toNat : Int), .int .u8 (y.toNat : Int)] w (RetB (.agg (bva (secN x y))) w) := by
  obtain ⟨z, hz0⟩ : ∃ z : List UInt8, z = zeroS := ⟨_, rfl⟩
  have hz : ∀ W, (zeroValue 38).run Try.prog W = .ok (.agg (bva z)) W := fun _ => by rw [hz0]; kernel_rfl
  have HZ3 := Lib.hid (show z.length = 128 by rw [hz0]; exact zeroS_length)
  obtain ⟨o, ho⟩ : ∃ o, o = secN x y := ⟨_, rfl⟩
  have HBS := Lib.hid (show ∀ W, (Instr.build 38 #[(0, .int .u8 (x.toNat : Int)), (1, .int .u8 (y.toNat : Int)), (2, .int .u8 9)]).run Try.prog W = .ok (.agg (bva o)) W from fun _ => by rw [ho]; kernel_rfl)
  have HO3 := Lib.hid (show o.length = 128 by rw [ho]; exact secN_length x y)
  have HI : Hid ((Try.prog.info? 38).map (·.size) = some (bva o).size) := by rw [bva_size, HO3.out]; exact info_sec
  have R0 := Lib.hid (show Blk (w.alloc (.cells (bva z) 38)) w.heap.size (bva z) 38 from heap_alloc_new _ _)
  rw [← ho]
  clear ho hz0
  go_enter Try.func40, Try.ntmps40
  go_wp2_with (first
    | (refine wpList_build rfl 38 #[(0, .tmp 5), (1, .tmp 6), (2, .const (.int .u8 9))] rfl (v := .agg (bva o)) ?hbld ?_; case hbld => (simp only [List.map_toArray, List.map_cons, List.map_nil]; exact HBS.out _))
    | (refine wpList_store_row rfl 38 (.tmp 4) (.tmp 7) rfl w.heap.size (bva o) rfl rfl 38 (bva z) R0.out HI.out (by rw [bva_size, bva_size, HO3.out, HZ3.out]) (bva_one _) ?_))
  exact bodyPost_ret (v := .agg (bva o)) (results_cell_row Try.results40 _ _ w.heap.size 38 (bva o) (0, 0) _ rfl (setRow_heap _ _ _ _ _ _ R0.out) Try.underlying38 rfl HI.out) rfl ⟨rfl, below_setRow ((Below.refl _ _).alloc (Nat.le_refl _) _) (Nat.le_refl _) _⟩
end Go.Proofs.Ytgfldfofiglefaa.Mi
/-
  The laws' example, awake.
-/
namespace Go.Proofs.Ytgfldfofiglefaa.Mi
open Go.RowKit Kd
attribute [local go_sem ↓] Go.wp_at_zero Go.wp_at_succ
def mw0 : Md := Md.new 5
def mw1 : Md := (mw0.write 3 (secN 1 0)).2
def mw2 : Md := mw1.rot 0 3 0 1
def mw3 : Md := (mw2.heal goodN 3).2
theorem mw_facts : (mw0.write 3 (secN 1 0)).1 = 0 ∧ (mw1.o0 && mw1.o1) = false ∧ hasByte mw1.a.length 3 0 = true ∧ mw2.read goodN 3 = (secN 1 0, 0) ∧ (mw2.heal goodN 3).1 = (1, 0) := by decide +kernel
theorem sec_size (x y : UInt8) : (Try.prog.info? 38).map (·.size) = some (bva (secN x y)).size := by rw [bva_size, secN_length]; exact info_sec
set_option maxRecDepth 100000 in
set_option maxHeartbeats 6400000 in
theorem awake_any (w : World) : Calls Try.prog 26 #[] w (RetB (.bool true) w) := by
  obtain ⟨f1, f2, f3, f4, f5⟩ := mw_facts
  have HF1 := Lib.hid f1
  have HF2 := Lib.hid f2
  have HF3 := Lib.hid f3
  have HF4 := Lib.hid f4
  have HF5 := Lib.hid f5
  clear f1 f2 f3 f4 f5
  obtain ⟨z, hz0⟩ : ∃ z : List UInt8, z = zeroS := ⟨_, rfl⟩
  have hz : ∀ W, (zeroValue 38).run Try.prog W = .ok (.agg (bva z)) W := fun _ => by rw [hz0]; kernel_rfl
  have HZ3 := Lib.hid (show z.length = 128 by rw [hz0]; exact zeroS_length)
  clear hz0
  obtain ⟨y, hy⟩ : ∃ y, y = secN 1 0 := ⟨_, rfl⟩
  have HY := Lib.hid hy
  have HY3 := Lib.hid (show y.length = 128 by rw [hy]; exact secN_length _ _)
  have HIY := Lib.hid (show (Try.prog.info? 38).map (·.size) = some (bva y).size by rw [hy]; exact sec_size _ _)
  have HSY := Lib.hid (show ∀ w, Calls Try.prog 40 #[.int .u8 1, .int .u8 0] w (RetB (.agg (bva y)) w) from fun w => by rw [hy]; exact sector9_any w 1 0)
  have HW1 := Lib.hid (show (mw0.write 3 y).2 = mw1 by rw [hy]; rfl)
  rw [← hy] at HF1 HF4
  have heq := eq_sec y y HY3.out HY3.out
  rw [decide_eq_true (rfl : y = y)] at heq
  have HQ := Lib.hid heq
  clear heq hy
  go_enter Try.func26, Try.ntmps26
  go_wp2_with fail
  refine (live_new0 5).mono ?_
  rintro e w1 ⟨p1, g1, rfl, F1, h⟩
  have H1 := Lib.hid h
  clear h
  go_wp2_with fail
  refine (live_new0 5).mono ?_
  rintro e w2 ⟨p2, g2, rfl, F2, h⟩
  have HD2 := Lib.hid (ld_new H1.out h (see_new 5 (by omega)) (see_new 5 (by omega)))
  clear h H1
  go_wp2_with fail
  refine (lm_new (G := gG) (fun _ _ _ _ _ _ => trivial) HD2.out (n := 5) rfl rfl).mono ?_
  rintro e w3 ⟨g, s3, F3, rfl, h, hn, hb⟩
  have H3 := Lib.hid (show LM p1 g1 p2 g2 gG g w w3 s3 F3 mw0 0 from h)
  clear h hn hb HD2
  go_wp2_with fail
  have hc := HSY.out w3
  refine hc.mono ?_
  clear hc
  rintro e w4 ⟨rfl, bw⟩
  have H4 := Lib.hid (H3.out.below bw)
  clear bw H3
  go_wp2_with fail
  have hc := lm_write H4.out 3 y HY3.out (by omega)
  rw [HF1.out, HW1.out] at hc
  refine hc.mono ?_
  clear hc
  rintro e w5 ⟨rfl, s5, F5, h, hm5⟩
  have H5 := Lib.hid (show LM p1 g1 p2 g2 gG g w w5 s5 F5 mw1 (0 + 2) from h)
  clear h hm5 H4
  go_wp2_with fail
  have hc := lm_flush H5.out
  rw [HF2.out, if_neg (by simp)] at hc
  refine hc.mono ?_
  clear hc
  rintro e w6 ⟨rfl, s6, F6, h, hm6⟩
  have H6 := Lib.hid (show LM p1 g1 p2 g2 gG g w w6 s6 F6 mw1 0 from h)
  clear h hm6 H5
  go_wp2_with fail
  have hc := lm_rot0 H6.out 3 0 1
  rw [HF3.out] at hc
  refine hc.mono ?_
  clear hc
  rintro e w7 ⟨rfl, s7, F7, h, hm7⟩
  have H7 := Lib.hid (show LM p1 g1 p2 g2 gG g w w7 s7 F7 mw2 0 from h)
  clear h hm7 H6
  go_wp2_with fail
  have hc := lm_read H7.out 3
  rw [show Md.read gG.f mw2 3 = (y, 0) from HF4.out] at hc
  refine hc.mono ?_
  clear hc
  rintro e w8 ⟨rfl, s8, F8, h, hm8⟩
  have H8 := Lib.hid (show LM p1 g1 p2 g2 gG g w w8 s8 F8 mw2 0 from h)
  clear h hm8 H7
  go_wp2_with (show wpList _ _ _ ({ dst := none, op := .store 38 (.tmp 6) (.tmp 26), type := _, pos := _, after := _, guard := _ } :: _) _ _; apply Classical.byContradiction; intro hneg)
  refine hneg ?_
  clear hneg
  refine wpList_store_row rfl 38 (.tmp 6) (.tmp 26) rfl w8.heap.size (bva y) rfl rfl 38 (bva z) (heap_alloc_new _ _) HIY.out (by rw [bva_size, bva_size, HY3.out, HZ3.out]) (bva_one _) ?_
  obtain ⟨w9, hw9⟩ : ∃ w9, w9 = (w8.alloc (.cells (bva z) 38)).setRow w8.heap.size (bva y) := ⟨_, rfl⟩
  have bw : Below w8.heap.size w8 w9 := by rw [hw9]; exact below_setRow ((Below.refl _ _).alloc (Nat.le_refl _) _) (Nat.le_refl _) _
  have hbx : Blk w9 w8.heap.size (bva y) 38 := by rw [hw9]; exact setRow_heap _ _ _ _ _ _ (heap_alloc_new _ _)
  rw [← hw9]
  clear hw9
  obtain ⟨b9, hb9⟩ : ∃ b9, b9 = w8.heap.size := ⟨_, rfl⟩
  rw [← hb9] at hbx
  rw [← hb9]
  have BX9 := Lib.hid (show Bx w w9 F8 b9 (bva y) 38 from ⟨hbx, by rw [hb9]; exact H8.out.live.bel.size, fun hf => by have := (ML (Two p1 g1 p2 g2) gG g).lt H8.out.live.at_ _ hf; omega⟩)
  clear hb9 hbx
  have H9 := Lib.hid (H8.out.below bw)
  clear bw H8
  go_wp2_with fail
  have hc := lm_heal H9.out 3 (by omega)
  rw [show (Md.heal gG.f mw2 3).1 = (1, 0) from HF5.out, show tup2 (1, 0) = .tuple #[.int .i64 1, .int .i64 0] from rfl] at hc
  refine hc.mono ?_
  clear hc
  rintro e w10 ⟨rfl, s10, F10, h, hm10⟩
  have H10 := Lib.hid (show LM p1 g1 p2 g2 gG g w w10 s10 F10 mw3 (0 + 1) from h)
  have BX10 := Lib.hid (BX9.out.step hm10)
  clear h hm10 H9 BX9
  go_wp2_with fail
  refine wp_region_held_drew (S := fun w' => Below w10.heap.size w10 w') (by kernel_rfl) (Below.refl _ _).drew (fun hh => ?_)
  have HH := Lib.hid hh
  clear hh
  refine wpAnyH_take (i := 0) (v := ?vA0) rfl (by kernel_rfl) (by kernel_rfl) (by kernel_rfl) (fun _ _ _ h => h) (Or.inl ⟨by rfl, fun w' _ => ?yA0⟩) HH.out ?_
  case yA0 => (go_simp; try with_reducible rfl)
  refine wpAnyH_take (i := 1) (v := ?vA1) rfl (by kernel_rfl) (by kernel_rfl) (by kernel_rfl) (fun _ _ _ h => h) (Or.inl ⟨by rfl, fun w' _ => ?yA1⟩) HH.out ?_
  case yA1 => (go_simp; try with_reducible rfl)
  try simp only [List.getElem_toArray, List.getElem_cons_succ, List.getElem_cons_zero, Act.put, List.setIfInBounds_toArray, List.set_cons_zero, List.set_cons_succ]
  refine wpAnyH_take (i := 2) (v := ?vA2) rfl (by kernel_rfl) (by kernel_rfl) (by kernel_rfl) (fun _ _ _ h => h) (Or.inl ⟨by rfl, fun w' _ => ?yA2⟩) HH.out ?_
  case yA2 => (go_simp; try with_reducible rfl)
  try simp only [List.getElem_toArray, List.getElem_cons_succ, List.getElem_cons_zero, Act.put, List.setIfInBounds_toArray, List.set_cons_zero, List.set_cons_succ]
  refine wpAnyH_take (i := 3) (v := ?vA3) rfl (by kernel_rfl) (by kernel_rfl) (by kernel_rfl) (fun _ _ _ h => h) (Or.inl ⟨by rfl, fun w' _ => ?yA3⟩) HH.out ?_
  case yA3 => (go_simp; try with_reducible rfl)
  try simp only [List.getElem_toArray, List.getElem_cons_succ, List.getElem_cons_zero, Act.put, List.setIfInBounds_toArray, List.set_cons_zero, List.set_cons_succ]
  refine wpAnyH_take (i := 4) (v := ?vA4) rfl (by kernel_rfl) (by kernel_rfl) (by kernel_rfl) (fun _ _ _ h => h) (Or.inl ⟨by rfl, fun w' _ => ?yA4⟩) HH.out ?_
  case yA4 => (go_simp; try with_reducible rfl)
  try simp only [List.getElem_toArray, List.getElem_cons_succ, List.getElem_cons_zero, Act.put, List.setIfInBounds_toArray, List.set_cons_zero, List.set_cons_succ]
  refine wpAnyH_take (i := 5) (v := ?vA5) rfl (by kernel_rfl) (by kernel_rfl) (by kernel_rfl) (fun _ _ _ h => h) (Or.inl ⟨by rfl, fun w' _ => ?yA5⟩) HH.out ?_
  case yA5 => (go_simp; try with_reducible rfl)
  refine wpAnyH_take (i := 6) (v := ?vA6) rfl (by kernel_rfl) (by kernel_rfl) (by kernel_rfl) (fun _ _ _ h => h) (Or.inl ⟨by rfl, fun w' _ => ?yA6⟩) HH.out ?_
  case yA6 => (go_simp; try with_reducible rfl)
  try simp only [List.getElem_toArray, List.getElem_cons_succ, List.getElem_cons_zero, Act.put, List.setIfInBounds_toArray, List.set_cons_zero, List.set_cons_succ]
  refine wpAnyH_take (i := 7) (v := ?vA7) rfl (by kernel_rfl) (by kernel_rfl) (by kernel_rfl) (fun _ _ _ h => h) (Or.inl ⟨by rfl, fun w' _ => ?yA7⟩) HH.out ?_
  case yA7 => (go_simp; try with_reducible rfl)
  try simp only [List.getElem_toArray, List.getElem_cons_succ, List.getElem_cons_zero, Act.put, List.setIfInBounds_toArray, List.set_cons_zero, List.set_cons_succ]
  refine wpAnyH_take (i := 8) (v := ?vA8) rfl (by kernel_rfl) (by kernel_rfl) (by kernel_rfl) (fun _ _ _ h => h) (Or.inl ⟨by rfl, fun w' _ => ?yA8⟩) HH.out ?_
  case yA8 => (go_simp; try with_reducible rfl)
  refine wpAnyH_take (i := 9) (v := ?vA9) rfl (by kernel_rfl) (by kernel_rfl) (by kernel_rfl) (fun _ _ _ h => h) (Or.inl ⟨by rfl, fun w' _ => ?yA9⟩) HH.out ?_
  case yA9 => (go_simp; try with_reducible rfl)
  refine wpAnyH_take (i := 10) (v := ?vA10) rfl (by kernel_rfl) (by kernel_rfl) (by kernel_rfl) (fun _ _ _ h => h) (Or.inl ⟨by rfl, fun w' _ => ?yA10⟩) HH.out ?_
  case yA10 => (go_simp; try with_reducible rfl)
  try simp only [List.getElem_toArray, List.getElem_cons_succ, List.getElem_cons_zero, Act.put, List.setIfInBounds_toArray, List.set_cons_zero, List.set_cons_succ]
  refine wpAnyH_take (i := 11) (v := ?vA11) rfl (by kernel_rfl) (by kernel_rfl) (by kernel_rfl) (fun _ _ _ h => h) (Or.inl ⟨by rfl, fun w' _ => ?yA11⟩) HH.out ?_
  case yA11 => (go_simp; try with_reducible rfl)
  try simp only [List.getElem_toArray, List.getElem_cons_succ, List.getElem_cons_zero, Act.put, List.setIfInBounds_toArray, List.set_cons_zero, List.set_cons_succ]
  refine wpAnyH_take (i := 12) (v := ?vA12) rfl (by kernel_rfl) (by kernel_rfl) (by kernel_rfl) (fun _ _ _ h => h) (Or.inl ⟨by rfl, fun w' _ => ?yA12⟩) HH.out ?_
  case yA12 => (go_simp; try with_reducible rfl)
  refine wpAnyH_take (i := 13) (v := ?vA13) rfl (by kernel_rfl) (by kernel_rfl) (by kernel_rfl) (fun _ _ _ h => h) (Or.inl ⟨by rfl, fun w' _ => ?yA13⟩) HH.out ?_
  case yA13 => (go_simp; try with_reducible rfl)
  try simp only [List.getElem_toArray, List.getElem_cons_succ, List.getElem_cons_zero, Act.put, List.setIfInBounds_toArray, List.set_cons_zero, List.set_cons_succ]
  refine wpAnyH_take (i := 14) (v := ?vA14) rfl (by kernel_rfl) (by kernel_rfl) (by kernel_rfl) (fun _ _ _ h => h) (Or.inl ⟨by rfl, fun w' _ => ?yA14⟩) HH.out ?_
  case yA14 => (go_simp; try with_reducible rfl)
  refine wpAnyH_take (i := 15) (v := .agg (bva y)) rfl (by kernel_rfl) (by kernel_rfl) (by kernel_rfl) (fun _ _ _ h => h) (Or.inl ⟨by rfl, fun w' hw' => ?yA15⟩) HH.out ?_
  case yA15 => exact exec_load 38 (.tmp 6) rfl rfl (BX10.out.1.below hw') Try.underlying38 rfl HIY.out
  try simp only [List.getElem_toArray, List.getElem_cons_succ, List.getElem_cons_zero, Act.put, List.setIfInBounds_toArray, List.set_cons_zero, List.set_cons_succ]
  refine wpAnyH_ready (rs := [16]) (by kernel_rfl) (by simp) (AllReadyH.cons rfl (fun K hK => ?_) AllReadyH.nil)
  go_simp
  refine (HSY.out _).mono ?_
  rintro e v1 ⟨rfl, bw1⟩
  go_simp
  refine hK.out _ _ (HH.out.trans (bw1.mono HH.out.size)) (fun hh => ?_)
  have HH' := Lib.hid hh
  clear hh hK K HH bw1
  have HH := Lib.hid HH'.out
  clear HH'
  try simp only [List.getElem_toArray, List.getElem_cons_succ, List.getElem_cons_zero, Act.put, List.setIfInBounds_toArray, List.set_cons_zero, List.set_cons_succ]
  refine wpAnyH_take (i := 17) (v := .bool true) rfl (by kernel_rfl) (by kernel_rfl) (by kernel_rfl) (fun _ _ _ h => h) (Or.inl ⟨by rfl, fun w' hw' => ?yA17⟩) HH.out ?_
  case yA17 => (go_simp; rw [HQ.out]; rfl)
  refine wpAnyH_take (i := 18) (v := ?vA18) rfl (by kernel_rfl) (by kernel_rfl) (by kernel_rfl) (fun _ _ _ h => h) (Or.inl ⟨by rfl, fun w' _ => ?yA18⟩) HH.out ?_
  case yA18 => (go_simp; try with_reducible rfl)
  refine wpAnyH_take (i := 19) (v := ?vA19) rfl (by kernel_rfl) (by kernel_rfl) (by kernel_rfl) (fun _ _ _ h => h) (Or.inl ⟨by rfl, fun w' _ => ?yA19⟩) HH.out ?_
  case yA19 => (go_simp; try with_reducible rfl)
  try simp only [List.getElem_toArray, List.getElem_cons_succ, List.getElem_cons_zero, Act.put, List.setIfInBounds_toArray, List.set_cons_zero, List.set_cons_succ]
  refine wpAnyH_take (i := 20) (v := ?vA20) rfl (by kernel_rfl) (by kernel_rfl) (by kernel_rfl) (fun _ _ _ h => h) (Or.inl ⟨by rfl, fun w' _ => ?yA20⟩) HH.out ?_
  case yA20 => (go_simp; try with_reducible rfl)
  try simp only [List.getElem_toArray, List.getElem_cons_succ, List.getElem_cons_zero, Act.put, List.setIfInBounds_toArray, List.set_cons_zero, List.set_cons_succ]
  refine wpAnyH_take (i := 21) (v := ?vA21) rfl (by kernel_rfl) (by kernel_rfl) (by kernel_rfl) (fun _ _ _ h => h) (Or.inl ⟨by rfl, fun w' _ => ?yA21⟩) HH.out ?_
  case yA21 => (go_simp; try with_reducible rfl)
  refine wpAnyH_take (i := 22) (v := ?vA22) rfl (by kernel_rfl) (by kernel_rfl) (by kernel_rfl) (fun _ _ _ h => h) (Or.inl ⟨by rfl, fun w' _ => ?yA22⟩) HH.out ?_
  case yA22 => (go_simp; try with_reducible rfl)
  try simp only [List.getElem_toArray, List.getElem_cons_succ, List.getElem_cons_zero, Act.put, List.setIfInBounds_toArray, List.set_cons_zero, List.set_cons_succ]
  refine wpAnyH_take (i := 23) (v := ?vA23) rfl (by kernel_rfl) (by kernel_rfl) (by kernel_rfl) (fun _ _ _ h => h) (Or.inl ⟨by rfl, fun w' _ => ?yA23⟩) HH.out ?_
  case yA23 => (go_simp; try with_reducible rfl)
  try simp only [List.getElem_toArray, List.getElem_cons_succ, List.getElem_cons_zero, Act.put, List.setIfInBounds_toArray, List.set_cons_zero]
  refine wpAnyH_done (by kernel_rfl) ?_ _
  go_wp2_with fail
  go_ret
  exact ⟨rfl, H10.out.live.bel.trans (HH.out.mono H10.out.live.bel.size)⟩
end Go.Proofs.Ytgfldfofiglefaa.Mi
/-
  Two devices of one power that never fails: as they are laid, and what is seen of each.
-/
namespace Go.Proofs.Ytgfldfofiglefaa.Mu
open Go.RowKit Kd Mi
def most2 (S : Sy) : Nat := max (S.at 0).wt.length (S.at 1).wt.length
theorem few_two {S : Sy} (h : S.ds.length = 2) (j : Nat) : (S.at j).wt.length ≤ most2 S := by
  rcases j with _ | _ | j
  · exact Nat.le_max_left _ _
  · exact Nat.le_max_right _ _
  · rw [at_far (by omega)]; exact Nat.zero_le _
def mostD (S : Sy) : Nat := if S.ds.length = 2 then most2 S else 0
theorem mostD_write (S : Sy) (i : Nat) (n : Int) (x : List UInt8) : mostD (S.write i n x).2 ≤ mostD S + 1 := by
  unfold mostD
  rw [write_dsM]
  split
  · rename_i h
    exact Nat.max_le.2 ⟨write_wtM S i n x _ (few_two h) 0, write_wtM S i n x _ (few_two h) 1⟩
  · exact Nat.zero_le _
theorem mostD_flush (S : Sy) (i : Nat) : mostD (S.flush i).2 ≤ mostD S := by
  unfold mostD
  rw [flush_dsM]
  split
  · rename_i h
    exact Nat.max_le.2 ⟨flush_wtM S i _ (few_two h) 0, flush_wtM S i _ (few_two h) 1⟩
  · exact Nat.le_refl _
theorem ptr2 {g1 g2 i : Nat} (hi : i < 2) : (if i = 0 then some (⟨g1, 0, none⟩ : Addr) else some ⟨g2, 0, none⟩) = some ⟨[g1, g2].getD i 0, 0, none⟩ := by
  rcases (show i = 0 ∨ i = 1 by omega) with rfl | rfl <;> rfl
/-- Two devices of one power. -/
def one (p g1 g2 : Nat) : Duo where
  L := SysL p [g1, g2] 2
  ptr i := if i = 0 then some ⟨g1, 0, none⟩ else some ⟨g2, 0, none⟩
  rd S i n := (refuseN S.p (S.at i) n, readS S.p (S.at i) n)
  wr S i n x := S.write i n x
  fl S i := S.flush i
  len S i := (S.at i).st.length
  most S := mostD S
  len_le {w s F i} h hi := (sys_okM h.1 (k := i) (by rw [h.2]; exact hi)).len
  rd_len {w s F i n} h hi := readS_length (sys_okM h.1 (k := i) (by rw [h.2]; exact hi)) _
  wr_most {S i n x} _ := mostD_write S i n x
  fl_most {S i} _ := mostD_flush S i
  crd {w s F i} h hi n := by rw [ptr2 hi]; exact dread_any h.1 i (by rw [h.2]; exact hi) n
  cwr {w S F i} h hi hm n x hx := by
    rw [ptr2 hi]
    exact (write_any h.1 i (by rw [h.2]; exact hi) n x hx (by
      have h1 : mostD S = most2 S := if_pos h.2
      have h2 := few_two h.2 i
      omega)).mono fun _ _ hr => RetS.reta ((write_dsM S i n x).trans h.2) hr
  cfl {w S F i} h hi := by
    rw [ptr2 hi]
    exact (flush_any h.1 i (by rw [h.2]; exact hi)).mono fun _ _ hr => RetS.reta ((flush_dsM S i).trans h.2) hr
  clen {w S F i} h hi := by
    rw [ptr2 hi]
    exact (len_sys h.1 i (by rw [h.2]; exact hi)).mono fun _ _ hr => by
      obtain ⟨rfl, rfl⟩ := hr
      exact ⟨rfl, Below.refl _ _⟩
/-- A device's sectors, as it reads them, whether it is out, and at most how many writes wait. -/
structure See (S : Sy) (i : Nat) (L : List (List UInt8)) (g : Bool) (m : Nat) : Prop where
  ds : S.ds.length = 2
  p : S.p = ⟨false, -1⟩
  lt : i < 2
  len : (S.at i).st.length = L.length
  now : ∀ k, k < L.length → (S.at i).now k = L.getD k zeroS
  gone : (S.at i).gone = g
  lies : (S.at i).lies = false
  few : (S.at i).wt.length ≤ m
section
variable {S : Sy} {i j : Nat} {L L' : List (List UInt8)} {g g' : Bool} {m m' : Nat}
theorem See.more (h : See S i L g m) {m' : Nat} (hm : m ≤ m') : See S i L g m' := ⟨h.ds, h.p, h.lt, h.len, h.now, h.gone, h.lies, Nat.le_trans h.few hm⟩
theorem See.put (h : See S j L' g' m') (d : Dv) (hij : j ≠ i) : See (S.put i d) j L' g' m' := by
  have ha : (S.put i d).at j = S.at j := by
    show (S.ds.set i d).getD j noDv = S.ds.getD j noDv
    rw [List.getD_eq_getElem?_getD, List.getD_eq_getElem?_getD, List.getElem?_set, if_neg (fun e => hij e.symm)]
  exact ⟨by rw [len_put]; exact h.ds, h.p, h.lt, by rw [ha]; exact h.len, by rw [ha]; exact h.now, by rw [ha]; exact h.gone, by rw [ha]; exact h.lies, by rw [ha]; exact h.few⟩
theorem see_new (n : Nat) (hn : n ≤ 4096) : See ((S0.new (n : Int)).new (n : Int)) 0 (List.replicate n zeroS) false 0 ∧ See ((S0.new (n : Int)).new (n : Int)) 1 (List.replicate n zeroS) false 0 := by
  have hc : clampN (n : Int) = n := by unfold clampN; omega
  have h1 : ((S0.new (n : Int)).new (n : Int)).at 0 = newDv n := by rw [Sy.new, Sy.new, hc]; rfl
  have h2 : ((S0.new (n : Int)).new (n : Int)).at 1 = newDv n := by rw [Sy.new, Sy.new, hc]; rfl
  refine ⟨⟨rfl, rfl, by omega, by rw [h1, List.length_replicate]; exact List.length_replicate, fun k hk => ?_, by rw [h1]; rfl, by rw [h1]; rfl, by rw [h1]; exact Nat.le_refl _⟩, ⟨rfl, rfl, by omega, by rw [h2, List.length_replicate]; exact List.length_replicate, fun k hk => ?_, by rw [h2]; rfl, by rw [h2]; rfl, by rw [h2]; exact Nat.le_refl _⟩⟩
  · rw [h1]; rfl
  · rw [h2]; rfl
theorem See.refuse (h : See S i L g m) (n : Int) : refuseN S.p (S.at i) n = if g then 13 else if n < 0 ∨ (L.length : Int) ≤ n then 2 else 0 := by
  rw [refuseN, h.p, h.gone, h.len]; rfl
theorem See.read (h : See S i L g m) (n : Int) : readS S.p (S.at i) n = if (g = false ∧ 0 ≤ n ∧ n < (L.length : Int)) then L.getD n.toNat zeroS else zeroS := by
  rw [readS, h.refuse]
  cases g with
  | true => simp
  | false =>
    by_cases hc : n < 0 ∨ (L.length : Int) ≤ n
    · rw [if_neg (show ¬ ((if false = true then (13 : Int) else if n < 0 ∨ (L.length : Int) ≤ n then 2 else 0) = 0) by rw [if_neg (by simp), if_pos hc]; omega), if_neg (fun h => by omega)]
    · rw [if_pos (show (if false = true then (13 : Int) else if n < 0 ∨ (L.length : Int) ≤ n then 2 else 0) = 0 by rw [if_neg (by simp), if_neg hc]), if_pos ⟨rfl, by omega, by omega⟩]
      exact h.now _ (by omega)
theorem See.write_no (h : See S i L g m) {n : Int} {x : List UInt8} (hn : ¬ (g = false ∧ 0 ≤ n ∧ n < (L.length : Int))) : S.write i n x = (if g then 13 else 2, S) := by
  have hr : refuseN S.p (S.at i) n = if g then 13 else 2 := by
    rw [h.refuse]
    cases g with
    | true => rfl
    | false =>
      have hc : n < 0 ∨ (L.length : Int) ≤ n := by
        by_cases h1 : n < 0
        · exact .inl h1
        · by_cases h2 : n < (L.length : Int)
          · exact absurd ⟨rfl, by omega, h2⟩ hn
          · exact .inr (by omega)
      show (if false = true then (13 : Int) else if n < 0 ∨ (L.length : Int) ≤ n then 2 else 0) = 2
      rw [if_neg (by simp), if_pos hc]
  rw [Kd.write_no (by rw [hr]; cases g <;> simp), hr]
theorem See.write_yes (h : See S i L g m) {k : Nat} {x : List UInt8} (hg : g = false) (hk : k < L.length) :
    (S.write i (k : Int) x).1 = 0 ∧ See (S.write i (k : Int) x).2 i (L.set k x) g (m + 1) ∧ ∀ {j L' g' m'}, j ≠ i → See S j L' g' m' → See (S.write i (k : Int) x).2 j L' g' m' := by
  have hr : refuseN S.p (S.at i) (k : Int) = 0 := by rw [h.refuse, hg, if_neg (by simp), if_neg (by omega)]
  have hw := Kd.write_yes (s := x) hr
  have hp : S.p.fails = false := by rw [h.p]; rfl
  have hd0 : i < S.ds.length := by rw [h.ds]; exact h.lt
  have hpp : (S.put i ((S.at i).add k x)).p = ⟨false, -1⟩ := h.p
  rw [hp, count_plain hpp] at hw
  rw [hw]
  have ha : (S.put i ((S.at i).add k x)).at i = (S.at i).add k x := by rw [at_put _ hd0, if_pos rfl]
  refine ⟨rfl, ⟨by rw [len_put]; exact h.ds, hpp, h.lt, by rw [ha, List.length_set]; exact h.len, fun j hj => ?_, by rw [ha]; exact h.gone, by rw [ha]; exact h.lies, ?_⟩, fun hne hj => hj.put _ hne⟩
  · rw [List.length_set] at hj
    rw [ha, set_getD _ _ _ _ hj]
    show nowL (S.at i).st ((S.at i).wt ++ [(k, x)]) j = _
    rw [now_snoc]
    split
    · rfl
    · exact h.now j hj
  · rw [ha]
    show ((S.at i).wt ++ [(k, x)]).length ≤ m + 1
    rw [List.length_append]; have := h.few; simp; exact this
theorem See.flush_no (h : See S i L g m) (hg : g = true) : S.flush i = (13, S) := by
  unfold Sy.flush; dsimp only; rw [h.p, h.gone, hg]; rfl
theorem See.flush_yes (h : See S i L g m) (hg : g = false) : (S.flush i).1 = 0 ∧ See (S.flush i).2 i L g 0 ∧ ∀ {j L' g' m'}, j ≠ i → See S j L' g' m' → See (S.flush i).2 j L' g' m' := by
  have hd0 : i < S.ds.length := by rw [h.ds]; exact h.lt
  have hp : S.p.fails = false := by rw [h.p]; rfl
  have hw : S.flush i = (0, S.put i { S.at i with st := flushL (S.at i).st (S.at i).wt, wt := [] }) := by
    unfold Sy.flush; dsimp only
    rw [if_neg (by rw [h.p, h.gone, hg]; simp), hp, if_neg (by simp), h.lies, if_neg (by simp), count_plain h.p]
  have ha : (S.put i { S.at i with st := flushL (S.at i).st (S.at i).wt, wt := [] }).at i = { S.at i with st := flushL (S.at i).st (S.at i).wt, wt := [] } := by rw [at_put _ hd0, if_pos rfl]
  rw [hw]
  refine ⟨rfl, ⟨by rw [len_put]; exact h.ds, h.p, h.lt, by rw [ha]; exact (flush_length _ _).trans h.len, fun j hj => ?_, by rw [ha]; exact h.gone, by rw [ha]; exact h.lies, by rw [ha]; exact Nat.le_refl _⟩, fun hne hj => hj.put _ hne⟩
  rw [ha]
  show nowL (flushL (S.at i).st (S.at i).wt) [] j = _
  rw [Kd.flush_nil, flush_get _ _ _ (by rw [h.len]; exact hj)]
  exact h.now j hj
theorem See.dry (h : See S i L g 0) : (S.at i).wt = [] := List.length_eq_zero_iff.1 (Nat.le_zero.1 h.few)
theorem See.stable (h : See S i L g 0) : (S.at i).st = L := by
  apply List.ext_getElem?
  intro k
  by_cases hk : k < L.length
  · have h1 := h.now k hk
    rw [Dv.now, h.dry, Kd.flush_nil, List.getD_eq_getElem?_getD, List.getD_eq_getElem?_getD, List.getElem?_eq_getElem (by rw [h.len]; exact hk), List.getElem?_eq_getElem hk] at h1
    rw [List.getElem?_eq_getElem (by rw [h.len]; exact hk), List.getElem?_eq_getElem hk]
    exact congrArg some h1
  · rw [List.getElem?_eq_none (by rw [h.len]; omega), List.getElem?_eq_none (by omega)]
theorem See.out (h : See S i L g 0) (on : Bool) : See (S.put i ((S.at i).out on)) i L on 0 := by
  have hd0 : i < S.ds.length := by rw [h.ds]; exact h.lt
  have ha : (S.put i ((S.at i).out on)).at i = (S.at i).out on := by rw [at_put _ hd0, if_pos rfl]
  have hw : ((S.at i).out on).wt = [] := by show (if on then [] else (S.at i).wt) = []; rw [h.dry]; split <;> rfl
  refine ⟨by rw [len_put]; exact h.ds, h.p, h.lt, by rw [ha]; exact h.len, fun j hj => ?_, by rw [ha]; rfl, by rw [ha]; exact h.lies, by rw [ha, hw]; exact Nat.le_refl _⟩
  rw [ha, Dv.now, hw]
  show nowL (S.at i).st [] j = _
  rw [← h.now j hj, Dv.now, h.dry]
theorem See.rot (h : See S i L g 0) (n a : Int) (b : UInt8) : See (S.rot i n a b) i (if hasByte L.length n a then rotL L n.toNat a.toNat b else L) g 0 := by
  have hl : (S.at i).st.length = L.length := h.len
  rw [Sy.rot, hl]
  split
  · have hd0 : i < S.ds.length := by rw [h.ds]; exact h.lt
    have ha : (S.put i ((S.at i).rot n.toNat a.toNat b)).at i = (S.at i).rot n.toNat a.toNat b := by rw [at_put _ hd0, if_pos rfl]
    refine ⟨by rw [len_put]; exact h.ds, h.p, h.lt, ?_, fun j hj => ?_, by rw [ha]; exact h.gone, by rw [ha]; exact h.lies, by rw [ha]; exact h.few⟩
    · rw [ha, ← h.stable]; rfl
    · rw [ha, Dv.now]
      show nowL (rotL (S.at i).st n.toNat a.toNat b) (S.at i).wt j = _
      rw [h.dry, Kd.flush_nil, h.stable]
  · exact h
theorem See.rot_other (h : See S j L' g' m') (n a : Int) (b : UInt8) (hij : j ≠ i) : See (S.rot i n a b) j L' g' m' := by
  rw [Sy.rot]; split
  · exact h.put _ hij
  · exact h
end
end Go.Proofs.Ytgfldfofiglefaa.Mu
/-
  A mirror of two devices of one power that never fails, as the document tells of it. No program.
-/
namespace Go.Proofs.Ytgfldfofiglefaa.Mu
open Kd Mi
section
variable {pw g1 g2 : Nat} {s : Mr (one pw g1 g2)} {x : Md} {m : Nat} {G : Gd}
structure Sees (s : Mr (one pw g1 g2)) (x : Md) (m : Nat) : Prop where
  d0 : See s.d 0 x.l0 x.o0 m
  d1 : See s.d 1 x.l1 x.o1 m
  a : s.a = x.a
  b : s.b = x.b
  n0 : x.l0.length = x.a.length
  n1 : x.l1.length = x.a.length
  nb : x.b.length = x.a.length
theorem Sees.more (h : Sees s x m) {m' : Nat} (hm : m ≤ m') : Sees s x m' := ⟨h.d0.more hm, h.d1.more hm, h.a, h.b, h.n0, h.n1, h.nb⟩
theorem Sees.ok (h : Sees s x m) : s.ok x.a.length := ⟨by rw [h.a], by rw [h.b]; exact h.nb⟩
theorem Sees.st (h : Sees s x m) (i : Nat) : s.st i = x.st i := by
  unfold Mr.st Md.st; split
  · exact h.a
  · exact h.b
theorem Sees.most (h : Sees s x m) : (one pw g1 g2).most s.d ≤ m := by
  show mostD s.d ≤ m
  unfold mostD
  rw [if_pos h.d0.ds]
  exact Nat.max_le.2 ⟨h.d0.few, h.d1.few⟩
theorem Sees.has (h : Sees s x m) (n : Int) : Mi.has s n = x.has n := by rw [Mi.has, Md.has, h.a]
theorem Sees.rd (h : Sees s x m) {i : Nat} (hi : i < 2) (n : Int) :
    (one pw g1 g2).rd s.d i n = (if x.o i then 13 else if n < 0 ∨ (x.a.length : Int) ≤ n then 2 else 0, if x.o i = false ∧ 0 ≤ n ∧ n < (x.a.length : Int) then (x.l i).getD n.toNat zeroS else zeroS) := by
  rcases two hi with rfl | rfl
  · show (refuseN s.d.p (s.d.at 0) n, readS s.d.p (s.d.at 0) n) = _
    rw [h.d0.refuse, h.d0.read, h.n0]; rfl
  · show (refuseN s.d.p (s.d.at 1) n, readS s.d.p (s.d.at 1) n) = _
    rw [h.d1.refuse, h.d1.read, h.n1]; rfl
theorem Sees.there (h : Sees s x m) {i : Nat} (hi : i < 2) : (one pw g1 g2).there s.d i = !(x.o i) := by
  have hp : ((one pw g1 g2).ptr i).isSome = true := by rcases two hi with rfl | rfl <;> rfl
  rw [Duo.there, hp, h.rd hi]
  cases x.o i
  · show (true && ((if false = true then (13 : Int) else if (0 : Int) < 0 ∨ (x.a.length : Int) ≤ 0 then 2 else 0) != 13)) = true
    rw [if_neg (by simp)]
    split <;> rfl
  · rfl
/-- A place's reading. -/
theorem Sees.rd_at (h : Sees s x m) {i k : Nat} (hi : i < 2) (hk : k < x.a.length) : (one pw g1 g2).rd s.d i (k : Int) = (if x.o i then 13 else 0, if x.o i then zeroS else (x.l i).getD k zeroS) := by
  rw [h.rd hi]
  cases x.o i
  · simp only [Bool.false_eq_true, if_false, true_and]
    rw [if_neg (by omega), if_pos ⟨by omega, by omega⟩, Int.toNat_natCast]
  · simp
theorem Sees.rdOk (h : Sees s x m) {i k : Nat} (hi : i < 2) (hk : k < x.a.length) : Mi.rdOk (one pw g1 g2) G s.d i (k : Int) = (!(x.o i) && G.f k ((x.l i).getD k zeroS)) := by
  rw [Mi.rdOk, h.rd_at hi hk]
  cases x.o i <;> rfl
theorem Sees.right (h : Sees s x m) {i k : Nat} (hi : i < 2) (hk : k < x.a.length) : Mi.right (one pw g1 g2) G s i k = x.right G.f i k := by
  rw [Mi.right, Md.right, h.st, h.rdOk hi hk]
theorem Sees.rightV (h : Sees s x m) {i k : Nat} (hi : i < 2) (hk : k < x.a.length) (hr : x.right G.f i k = true) : Mi.rightV (one pw g1 g2) G s i k = (x.l i).getD k zeroS := by
  have ho : x.o i = false := by
    rw [Md.right] at hr
    cases ho : x.o i
    · rfl
    · rw [ho] at hr; simp at hr
  rw [Mi.rightV, h.right hi hk, hr, if_pos rfl, h.rd_at hi hk, ho]; rfl
theorem Sees.put (h : Sees s x m) (i k : Nat) (v : Bool) : Sees (s.put i k v) (x.put i k v) m := by
  unfold Mr.put Md.put
  split
  · exact ⟨h.d0, h.d1, by show s.a.set k v = x.a.set k v; rw [h.a], h.b, by show x.l0.length = (x.a.set k v).length; rw [List.length_set]; exact h.n0, by show x.l1.length = (x.a.set k v).length; rw [List.length_set]; exact h.n1, by show x.b.length = (x.a.set k v).length; rw [List.length_set]; exact h.nb⟩
  · exact ⟨h.d0, h.d1, h.a, by show s.b.set k v = x.b.set k v; rw [h.b], h.n0, h.n1, by show (x.b.set k v).length = x.a.length; rw [List.length_set]; exact h.nb⟩
theorem Sees.wd (h : Sees s x m) {i k : Nat} (hi : i < 2) (hk : k < x.a.length) (y : List UInt8) :
    ((one pw g1 g2).wr s.d i (k : Int) y).1 = (if x.o i then 13 else 0) ∧ Sees (s.dev ((one pw g1 g2).wr s.d i (k : Int) y).2) (x.wd i k y) (m + 1) := by
  rcases two hi with rfl | rfl
  · cases ho : x.o0 with
    | true =>
      have hw : (one pw g1 g2).wr s.d 0 (k : Int) y = _ := h.d0.write_no (n := (k : Int)) (x := y) (by rw [ho]; simp)
      rw [hw, ho]
      refine ⟨by rw [show x.o 0 = true from ho]; rfl, ?_⟩
      rw [Md.wd, show x.o 0 = true from ho, if_pos rfl]
      exact h.more (Nat.le_succ _)
    | false =>
      obtain ⟨h1, h2, h3⟩ := h.d0.write_yes (x := y) ho (k := k) (by rw [h.n0]; exact hk)
      refine ⟨by show (s.d.write 0 k y).1 = _; rw [h1, show x.o 0 = false from ho]; rfl, ?_⟩
      rw [Md.wd, show x.o 0 = false from ho, if_neg (by simp)]
      exact ⟨h2, (h3 (by omega) h.d1).more (Nat.le_succ _), h.a, h.b, by show (x.l0.set k y).length = _; rw [List.length_set]; exact h.n0, h.n1, h.nb⟩
  · cases ho : x.o1 with
    | true =>
      have hw : (one pw g1 g2).wr s.d 1 (k : Int) y = _ := h.d1.write_no (n := (k : Int)) (x := y) (by rw [ho]; simp)
      rw [hw, ho]
      refine ⟨by rw [show x.o 1 = true from ho]; rfl, ?_⟩
      rw [Md.wd, show x.o 1 = true from ho, if_pos rfl]
      exact h.more (Nat.le_succ _)
    | false =>
      obtain ⟨h1, h2, h3⟩ := h.d1.write_yes (x := y) ho (k := k) (by rw [h.n1]; exact hk)
      refine ⟨by show (s.d.write 1 k y).1 = _; rw [h1, show x.o 1 = false from ho]; rfl, ?_⟩
      rw [Md.wd, show x.o 1 = false from ho, if_neg (by simp)]
      exact ⟨(h3 (by omega) h.d0).more (Nat.le_succ _), h2, h.a, h.b, h.n0, by show (x.l1.set k y).length = _; rw [List.length_set]; exact h.n1, h.nb⟩
theorem Sees.write (h : Sees s x m) (n : Int) (y : List UInt8) : (s.write n y).1 = (x.write n y).1 ∧ Sees (s.write n y).2 (x.write n y).2 (m + 2) := by
  rw [Mr.write, Md.write, h.has]
  cases hh : x.has n with
  | false => exact ⟨rfl, h.more (by omega)⟩
  | true =>
    obtain ⟨k, rfl, hk⟩ := has_place hh
    rw [if_pos rfl, if_pos rfl, Int.toNat_natCast]
    obtain ⟨e0, h0⟩ := h.wd (i := 0) (by omega) hk y
    obtain ⟨e1, h1⟩ := h0.wd (i := 1) (by omega) (by rw [wd_a]; exact hk) y
    have e1' : ((one pw g1 g2).wr (s.w0 (k : Int) y 0).d 1 (k : Int) y).1 = _ := e1
    rw [wd_o] at e1'
    rw [e0, e1', eq13, eq13]
    have h2 : Sees ((s.w0 (k : Int) y 0).w0 (k : Int) y 1) ((x.wd 0 k y).wd 1 k y) (m + 1 + 1) := h1
    rw [Mr.reach, show x.o 0 = x.o0 from rfl, show x.o 1 = x.o1 from rfl]
    cases ho0 : x.o0 <;> cases ho1 : x.o1
    · exact ⟨rfl, (h2.put 0 k false).put 1 k false⟩
    · exact ⟨rfl, (h2.put 0 k false).put 1 k true⟩
    · exact ⟨rfl, (h2.put 0 k true).put 1 k false⟩
    · refine ⟨rfl, ?_⟩
      have hx : (x.wd 0 k y).wd 1 k y = x := by
        have h3 : x.wd 0 k y = x := by rw [Md.wd, show x.o 0 = true from ho0, if_pos rfl]
        rw [h3, Md.wd, show x.o 1 = true from ho1, if_pos rfl]
      rw [hx] at h2
      exact h2
end
end Go.Proofs.Ytgfldfofiglefaa.Mu
/-
  .. and what Choose, Flush, Read, Heal, Both, New make of it. No program.
-/
namespace Go.Proofs.Ytgfldfofiglefaa.Mu
open Kd Mi
section
variable {pw g1 g2 : Nat} {s : Mr (one pw g1 g2)} {x : Md} {m : Nat} {G : Gd}
theorem Sees.c1 (h : Sees s x m) {i k : Nat} (hi : i < 2) (hk : k < x.a.length) (y : List UInt8) : (s.c1 (k : Int) y i).1 = !(x.o i) ∧ Sees (s.c1 (k : Int) y i).2 (x.wd i k y) (m + 1) := by
  obtain ⟨e, hw⟩ := h.wd hi hk y
  rw [Mr.c1, h.rd_at hi hk]
  cases ho : x.o i with
  | true =>
    rw [if_neg (by simp)]
    refine ⟨rfl, ?_⟩
    rw [Md.wd, ho, if_pos rfl]
    exact h.more (Nat.le_succ _)
  | false =>
    rw [if_pos (by simp)]
    by_cases hy : (x.l i).getD k zeroS = y
    · rw [if_pos (by simpa using hy)]
      refine ⟨rfl, ?_⟩
      rw [← hy, wd_same ho]
      exact h.more (Nat.le_succ _)
    · rw [if_neg (by simpa using hy)]
      exact ⟨by rw [e, eq13, ho], hw⟩
theorem Sees.choose (h : Sees s x m) (n : Int) (y : List UInt8) : (s.choose n y).1 = (x.write n y).1 ∧ Sees (s.choose n y).2 (x.write n y).2 (m + 2) := by
  rw [Mr.choose, Md.write, h.has]
  cases hh : x.has n with
  | false => exact ⟨rfl, h.more (by omega)⟩
  | true =>
    obtain ⟨k, rfl, hk⟩ := has_place hh
    rw [if_pos rfl, if_pos rfl, Int.toNat_natCast]
    obtain ⟨e0, h0⟩ := h.c1 (i := 0) (by omega) hk y
    obtain ⟨e1, h1⟩ := h0.c1 (i := 1) (by omega) (by rw [wd_a]; exact hk) y
    rw [wd_o] at e1
    rw [e0, e1]
    have h2 : Sees ((s.c1 (k : Int) y 0).2.c1 (k : Int) y 1).2 ((x.wd 0 k y).wd 1 k y) (m + 1 + 1) := h1
    rw [Mr.reach, show x.o 0 = x.o0 from rfl, show x.o 1 = x.o1 from rfl]
    cases ho0 : x.o0 <;> cases ho1 : x.o1
    · exact ⟨rfl, (h2.put 0 k false).put 1 k false⟩
    · exact ⟨rfl, (h2.put 0 k false).put 1 k true⟩
    · exact ⟨rfl, (h2.put 0 k true).put 1 k false⟩
    · refine ⟨rfl, ?_⟩
      have hx : (x.wd 0 k y).wd 1 k y = x := by
        have h3 : x.wd 0 k y = x := by rw [Md.wd, show x.o 0 = true from ho0, if_pos rfl]
        rw [h3, Md.wd, show x.o 1 = true from ho1, if_pos rfl]
      rw [hx] at h2
      exact h2
structure Dry (s : Mr (one pw g1 g2)) (x : Md) : Prop where
  d0 : x.o0 = true → See s.d 0 x.l0 x.o0 0
  d1 : x.o1 = true → See s.d 1 x.l1 x.o1 0
theorem Sees.dry (h : Sees s x 0) : Dry s x := ⟨fun _ => h.d0, fun _ => h.d1⟩
theorem Dry.put (h : Dry s x) (i k : Nat) (v : Bool) : Dry (s.put i k v) (x.put i k v) := by
  unfold Mr.put Md.put; split <;> exact ⟨h.d0, h.d1⟩
theorem Dry.wd (h : Dry s x) (hs : Sees s x m) {i k : Nat} (hi : i < 2) (hk : k < x.a.length) (y : List UInt8) : Dry (s.dev ((one pw g1 g2).wr s.d i (k : Int) y).2) (x.wd i k y) := by
  rcases two hi with rfl | rfl
  · cases ho : x.o0 with
    | true =>
      have hw : (one pw g1 g2).wr s.d 0 (k : Int) y = _ := hs.d0.write_no (n := (k : Int)) (x := y) (by rw [ho]; simp)
      rw [hw, Md.wd, show x.o 0 = true from ho, if_pos rfl]
      exact h
    | false =>
      obtain ⟨h1, h2, h3⟩ := hs.d0.write_yes (x := y) ho (k := k) (by rw [hs.n0]; exact hk)
      rw [Md.wd, show x.o 0 = false from ho, if_neg (by simp)]
      exact ⟨fun h1 => (by have h2 : x.o0 = true := h1; rw [ho] at h2; cases h2), fun h4 => h3 (by omega) (h.d1 h4)⟩
  · cases ho : x.o1 with
    | true =>
      have hw : (one pw g1 g2).wr s.d 1 (k : Int) y = _ := hs.d1.write_no (n := (k : Int)) (x := y) (by rw [ho]; simp)
      rw [hw, Md.wd, show x.o 1 = true from ho, if_pos rfl]
      exact h
    | false =>
      obtain ⟨h1, h2, h3⟩ := hs.d1.write_yes (x := y) ho (k := k) (by rw [hs.n1]; exact hk)
      rw [Md.wd, show x.o 1 = false from ho, if_neg (by simp)]
      exact ⟨fun h4 => h3 (by omega) (h.d0 h4), fun h1 => (by have h2 : x.o1 = true := h1; rw [ho] at h2; cases h2)⟩
theorem Sees.fl (h : Sees s x m) (hd : Dry s x) : s.flushed = (!x.o0, !x.o1) ∧ Sees ((s.fl0 0).fl0 1) x 0 := by
  have h0 : ((s.d.flush 0).1 == 0) = !x.o0 ∧ See (s.d.flush 0).2 0 x.l0 x.o0 0 ∧ ∀ {L' g' m'}, See s.d 1 L' g' m' → See (s.d.flush 0).2 1 L' g' m' := by
    cases ho : x.o0 with
    | true => rw [h.d0.flush_no ho]; exact ⟨rfl, ho ▸ hd.d0 ho, fun h => h⟩
    | false => obtain ⟨h1, h2, h3⟩ := h.d0.flush_yes ho; rw [h1]; exact ⟨rfl, ho ▸ h2, fun h => h3 (by omega) h⟩
  have hs1 := h0.2.2 h.d1
  have h1 : (((s.d.flush 0).2.flush 1).1 == 0) = !x.o1 ∧ See ((s.d.flush 0).2.flush 1).2 1 x.l1 x.o1 0 ∧ See ((s.d.flush 0).2.flush 1).2 0 x.l0 x.o0 0 := by
    cases ho : x.o1 with
    | true => rw [hs1.flush_no ho]; exact ⟨rfl, ho ▸ h0.2.2 (hd.d1 ho), h0.2.1⟩
    | false => obtain ⟨h1, h2, h3⟩ := hs1.flush_yes ho; rw [h1]; exact ⟨rfl, ho ▸ h2, h3 (by omega) h0.2.1⟩
  refine ⟨?_, h1.2.2, h1.2.1, h.a, h.b, h.n0, h.n1, h.nb⟩
  rw [Mr.flushed]
  show (((s.d.flush 0).1 == 0), (((s.d.flush 0).2.flush 1).1 == 0)) = _
  rw [h0.1, h1.1]
theorem Sees.flush (h : Sees s x m) (hd : Dry s x) : s.flush.1 = (if x.o0 && x.o1 then 13 else 0) ∧ Sees s.flush.2 x 0 := by
  obtain ⟨h1, h2⟩ := h.fl hd
  rw [Mr.flush, h1, h.there (by omega), h.there (by omega), show x.o 0 = x.o0 from rfl, show x.o 1 = x.o1 from rfl]
  refine ⟨?_, h2⟩
  cases x.o0 <;> cases x.o1 <;> rfl
theorem Sees.read (h : Sees s x m) (n : Int) : readM (one pw g1 g2) G s n = x.read G.f n := by
  rw [readM, Md.read, h.has]
  cases hh : x.has n with
  | false => rfl
  | true =>
    obtain ⟨k, rfl, hk⟩ := has_place hh
    rw [if_pos rfl, if_pos rfl, Int.toNat_natCast, h.right (by omega) hk, h.right (by omega) hk, h.rd_at (by omega) hk, h.rd_at (by omega) hk, h.there (by omega), h.there (by omega)]
    cases h0 : x.right G.f 0 k with
    | true => simp only [if_true, right_in h0]; rfl
    | false =>
      simp only [Bool.false_eq_true, if_false]
      cases h1 : x.right G.f 1 k with
      | true => simp only [if_true, right_in h1]; rfl
      | false =>
        simp only [Bool.false_eq_true, if_false]
        rw [show x.o 0 = x.o0 from rfl, show x.o 1 = x.o1 from rfl]
        cases x.o0 <;> cases x.o1 <;> rfl
theorem Sees.bothTo (h : Sees s x m) {k : Nat} (hk : k < x.a.length) : ∀ p, p ≤ 2 → Mi.bothTo (one pw g1 g2) G s.d (k : Int) p = x.bothTo G.f k p
  | 0, _ => rfl
  | p + 1, hp => by
    rw [Mi.bothTo, Md.bothTo, h.bothTo hk p (by omega), h.rdOk (by omega) hk, h.rd_at (by omega) hk]
    cases ho : x.o p
    · rfl
    · rfl
theorem Sees.both (h : Sees s x m) (n : Int) : bothL G s n = x.both G.f n := by
  rw [bothL, Md.both, h.has]
  cases hh : x.has n with
  | false => rfl
  | true =>
    obtain ⟨k, rfl, hk⟩ := has_place hh
    rw [if_pos rfl, if_pos rfl, Int.toNat_natCast, h.bothTo hk 2 (by omega)]
theorem Sees.mend (h : Sees s x m) {i k : Nat} (hi : i < 2) (hk : k < x.a.length) (ho : x.o i = false) (y : List UInt8) : (s.mend i k y).1 = 0 ∧ Sees (s.mend i k y).2 (x.mend i k y) (m + 1) := by
  obtain ⟨e, hw⟩ := h.wd hi hk y
  rw [ho] at e
  rw [Md.wd, ho, if_neg (by simp)] at hw
  rw [Mr.mend]
  rw [e]
  exact ⟨rfl, hw.put i k false⟩
theorem Sees.healTo (h : Sees s x m) {i k : Nat} (hi : i < 2) (hk : k < x.a.length) (ho : x.o i = false) (y : List UInt8) : (s.healTo i k y).1 = (1, 0) ∧ Sees (s.healTo i k y).2 (x.mend i k y) (m + 1) := by
  obtain ⟨e, hw⟩ := h.mend hi hk ho y
  rw [Mr.healTo, e]
  exact ⟨rfl, hw⟩
theorem Sees.heal (h : Sees s x m) (n : Int) : (s.heal G n).1 = (x.heal G.f n).1 ∧ Sees (s.heal G n).2 (x.heal G.f n).2 (m + 1) := by
  rw [Mr.heal, Md.heal, h.has]
  cases hh : x.has n with
  | false => exact ⟨rfl, h.more (by omega)⟩
  | true =>
    obtain ⟨k, rfl, hk⟩ := has_place hh
    rw [if_pos rfl, if_pos rfl, Int.toNat_natCast, h.there (by omega), h.there (by omega), h.right (by omega) hk, h.right (by omega) hk, show x.o 0 = x.o0 from rfl, show x.o 1 = x.o1 from rfl]
    cases ho0 : x.o0 with
    | true => exact ⟨rfl, h.more (by omega)⟩
    | false =>
      cases ho1 : x.o1 with
      | true => exact ⟨rfl, h.more (by omega)⟩
      | false =>
        rw [if_pos (show ((!false) && !false) = true from rfl), if_neg (show ¬ (false || false) = true by simp)]
        cases h0 : x.right G.f 0 k with
        | true =>
          have v0 : Mi.rightV (one pw g1 g2) G s 0 k = x.l0.getD k zeroS := h.rightV (i := 0) (by omega) hk h0
          simp only [if_true, v0]
          cases h1 : x.right G.f 1 k with
          | true =>
            have v1 : Mi.rightV (one pw g1 g2) G s 1 k = x.l1.getD k zeroS := h.rightV (i := 1) (by omega) hk h1
            simp only [if_true, v1, Bool.true_and]
            by_cases he : x.l0.getD k zeroS = x.l1.getD k zeroS
            · rw [if_pos he, if_pos (decide_eq_true he)]; exact ⟨rfl, h.more (by omega)⟩
            · rw [if_neg he, if_neg (by rw [decide_eq_false he]; simp)]; exact h.healTo (i := 1) (by omega) hk ho1 _
          | false => simp only [Bool.false_eq_true, if_false, Bool.false_and]; exact h.healTo (i := 1) (by omega) hk ho1 _
        | false =>
          simp only [Bool.false_eq_true, if_false]
          cases h1 : x.right G.f 1 k with
          | true =>
            have v1 : Mi.rightV (one pw g1 g2) G s 1 k = x.l1.getD k zeroS := h.rightV (i := 1) (by omega) hk h1
            simp only [if_true, v1]; exact h.healTo (i := 0) (by omega) hk ho0 _
          | false => simp only [Bool.false_eq_true, if_false]; exact ⟨trivial, h.more (by omega)⟩
theorem sees_new {S : Sy} {L0 L1 : List (List UInt8)} {o0 o1 : Bool} {n : Nat} (h0 : See S 0 L0 o0 m) (h1 : See S 1 L1 o1 m) (e0 : L0.length = n) (e1 : L1.length = n) :
    Sees (newM (one pw g1 g2) S) ⟨L0, L1, o0, o1, List.replicate n o0, List.replicate n o1⟩ m := by
  have hs : Sees (⟨S, List.replicate n o0, List.replicate n o1⟩ : Mr (one pw g1 g2)) ⟨L0, L1, o0, o1, List.replicate n o0, List.replicate n o1⟩ m :=
    ⟨h0, h1, rfl, rfl, by rw [List.length_replicate]; exact e0, by rw [List.length_replicate]; exact e1, by rw [List.length_replicate, List.length_replicate]⟩
  have hp : (one pw g1 g2).places S = n := by
    show min (S.at 0).st.length (S.at 1).st.length = n
    rw [h0.len, h1.len, e0, e1, Nat.min_self]
  have t0 : (one pw g1 g2).there S 0 = !o0 := hs.there (i := 0) (by omega)
  have t1 : (one pw g1 g2).there S 1 = !o1 := hs.there (i := 1) (by omega)
  have e : newM (one pw g1 g2) S = ⟨S, List.replicate n o0, List.replicate n o1⟩ := by
    show (⟨S, List.replicate ((one pw g1 g2).places S) (!((one pw g1 g2).there S 0)), List.replicate ((one pw g1 g2).places S) (!((one pw g1 g2).there S 1))⟩ : Mr (one pw g1 g2)) = _
    rw [hp, t0, t1, Bool.not_not, Bool.not_not]
  rw [e]
  exact hs
end
end Go.Proofs.Ytgfldfofiglefaa.Mu
/-
  .. Sync, Out, Rot; what waits of what is out. No program.
-/
namespace Go.Proofs.Ytgfldfofiglefaa.Mu
open Kd Mi
section
variable {pw g1 g2 : Nat} {s : Mr (one pw g1 g2)} {x : Md} {m : Nat} {G : Gd}
theorem dry_in (h0 : x.o0 = false) (h1 : x.o1 = false) : Dry s x := ⟨fun h => (by rw [h0] at h; cases h), fun h => (by rw [h1] at h; cases h)⟩
theorem Dry.write (hd : Dry s x) (h : Sees s x m) (n : Int) (y : List UInt8) : Dry (s.write n y).2 (x.write n y).2 := by
  rw [Mr.write, Md.write, h.has]
  cases hh : x.has n with
  | false => exact hd
  | true =>
    obtain ⟨k, rfl, hk⟩ := has_place hh
    rw [if_pos rfl, if_pos rfl, Int.toNat_natCast]
    obtain ⟨e0, h0⟩ := h.wd (i := 0) (by omega) hk y
    obtain ⟨e1, _⟩ := h0.wd (i := 1) (by omega) (by rw [wd_a]; exact hk) y
    have e1' : ((one pw g1 g2).wr (s.w0 (k : Int) y 0).d 1 (k : Int) y).1 = _ := e1
    rw [wd_o] at e1'
    rw [e0, e1', eq13, eq13]
    have h2 : Dry ((s.w0 (k : Int) y 0).w0 (k : Int) y 1) ((x.wd 0 k y).wd 1 k y) := (hd.wd h (by omega) hk y).wd h0 (by omega) (by rw [wd_a]; exact hk) y
    rw [Mr.reach, show x.o 0 = x.o0 from rfl, show x.o 1 = x.o1 from rfl]
    cases ho0 : x.o0 <;> cases ho1 : x.o1
    · exact (h2.put 0 k false).put 1 k false
    · exact (h2.put 0 k false).put 1 k true
    · exact (h2.put 0 k true).put 1 k false
    · have hx : (x.wd 0 k y).wd 1 k y = x := by
        have h3 : x.wd 0 k y = x := by rw [Md.wd, show x.o 0 = true from ho0, if_pos rfl]
        rw [h3, Md.wd, show x.o 1 = true from ho1, if_pos rfl]
      rw [hx] at h2
      exact h2
theorem Dry.c1 (hd : Dry s x) (h : Sees s x m) {i k : Nat} (hi : i < 2) (hk : k < x.a.length) (y : List UInt8) : Dry (s.c1 (k : Int) y i).2 (x.wd i k y) := by
  have hw := hd.wd h hi hk y
  rw [Mr.c1, h.rd_at hi hk]
  cases ho : x.o i with
  | true =>
    rw [if_neg (by simp), Md.wd, ho, if_pos rfl]
    exact hd
  | false =>
    rw [if_pos (by simp)]
    by_cases hy : (x.l i).getD k zeroS = y
    · rw [if_pos (by simpa using hy), ← hy, wd_same ho]
      exact hd
    · rw [if_neg (by simpa using hy)]
      exact hw
theorem Dry.choose (hd : Dry s x) (h : Sees s x m) (n : Int) (y : List UInt8) : Dry (s.choose n y).2 (x.write n y).2 := by
  rw [Mr.choose, Md.write, h.has]
  cases hh : x.has n with
  | false => exact hd
  | true =>
    obtain ⟨k, rfl, hk⟩ := has_place hh
    rw [if_pos rfl, if_pos rfl, Int.toNat_natCast]
    obtain ⟨e0, h0⟩ := h.c1 (i := 0) (by omega) hk y
    obtain ⟨e1, _⟩ := h0.c1 (i := 1) (by omega) (by rw [wd_a]; exact hk) y
    rw [wd_o] at e1
    rw [e0, e1]
    have h2 : Dry ((s.c1 (k : Int) y 0).2.c1 (k : Int) y 1).2 ((x.wd 0 k y).wd 1 k y) := (hd.c1 h (by omega) hk y).c1 h0 (by omega) (by rw [wd_a]; exact hk) y
    rw [Mr.reach, show x.o 0 = x.o0 from rfl, show x.o 1 = x.o1 from rfl]
    cases ho0 : x.o0 <;> cases ho1 : x.o1
    · exact (h2.put 0 k false).put 1 k false
    · exact (h2.put 0 k false).put 1 k true
    · exact (h2.put 0 k true).put 1 k false
    · have hx : (x.wd 0 k y).wd 1 k y = x := by
        have h3 : x.wd 0 k y = x := by rw [Md.wd, show x.o 0 = true from ho0, if_pos rfl]
        rw [h3, Md.wd, show x.o 1 = true from ho1, if_pos rfl]
      rw [hx] at h2
      exact h2
theorem Dry.heal (hd : Dry s x) (h : Sees s x m) (n : Int) : Dry (s.heal G n).2 (x.heal G.f n).2 := by
  by_cases hc : x.has n = true ∧ x.o0 = false ∧ x.o1 = false
  · obtain ⟨hh, h0, h1⟩ := hc
    have e : (x.heal G.f n).2.o0 = false ∧ (x.heal G.f n).2.o1 = false := by
      rw [Md.heal, hh, if_pos rfl, if_neg (by rw [h0, h1]; simp)]
      split
      · split
        · exact ⟨h0, h1⟩
        · obtain ⟨a, b, _⟩ := mend_o x 1 n.toNat (x.l0.getD n.toNat zeroS); exact ⟨a.trans h0, b.trans h1⟩
      · split
        · obtain ⟨a, b, _⟩ := mend_o x 0 n.toNat (x.l1.getD n.toNat zeroS); exact ⟨a.trans h0, b.trans h1⟩
        · exact ⟨h0, h1⟩
    exact dry_in e.1 e.2
  · have e : (s.heal G n).2 = s ∧ (x.heal G.f n).2 = x := by
      rw [Mr.heal, Md.heal, h.has]
      cases hh : x.has n with
      | false => exact ⟨rfl, rfl⟩
      | true =>
        rw [if_pos rfl, if_pos rfl, h.there (by omega), h.there (by omega), show x.o 0 = x.o0 from rfl, show x.o 1 = x.o1 from rfl]
        cases h0 : x.o0 with
        | true => exact ⟨rfl, rfl⟩
        | false =>
          cases h1 : x.o1 with
          | true => exact ⟨rfl, rfl⟩
          | false => exact absurd ⟨hh, h0, h1⟩ hc
    rw [e.1, e.2]
    exact hd
theorem Sees.catch1 (h : Sees s x m) {i k : Nat} (hi : i < 2) (hk : k < x.a.length) (ho : x.o i = false) : Sees (s.catch1 G i k) (x.catch1 G.f i k) (m + 1) := by
  rw [Mr.catch1, Md.catch1, h.st, h.right (by omega) hk]
  split
  · rename_i hc
    have hr : x.right G.f (1 - i) k = true := by
      cases hr : x.right G.f (1 - i) k
      · rw [hr, Bool.and_false] at hc; cases hc
      · rfl
    rw [h.rightV (by omega) hk hr]
    exact (h.mend hi hk ho _).2
  · exact h.more (Nat.le_succ _)
theorem Sees.catchTo (h : Sees s x m) {i : Nat} (hi : i < 2) (ho0 : x.o0 = false) (ho1 : x.o1 = false) : ∀ k, k ≤ x.a.length → Sees (s.catchTo G i k) (x.catchTo G.f i k) (m + k)
  | 0, _ => h
  | k + 1, hk => by
    obtain ⟨a, b, c⟩ := catchTo_o G.f x i k
    refine (h.catchTo hi ho0 ho1 k (by omega)).catch1 hi (by rw [c]; omega) ?_
    rcases two hi with rfl | rfl
    · exact a.trans ho0
    · exact b.trans ho1
theorem Sees.sync (h : Sees s x 0) : (s.sync G x.a.length).1 = (x.sync G.f).1 ∧ Sees (s.sync G x.a.length).2 (x.sync G.f).2 0 := by
  rw [Mr.sync, Md.sync, h.there (by omega), h.there (by omega), show x.o 0 = x.o0 from rfl, show x.o 1 = x.o1 from rfl]
  cases ho0 : x.o0 with
  | true => exact ⟨rfl, h⟩
  | false =>
    cases ho1 : x.o1 with
    | true => exact ⟨rfl, h⟩
    | false =>
      rw [if_pos (show ((!false) && !false) = true from rfl), if_neg (show ¬ (false || false) = true by simp)]
      obtain ⟨a, b, c⟩ := catchTo_o G.f x 0 x.a.length
      have h1 := h.catchTo (G := G) (i := 0) (by omega) ho0 ho1 x.a.length (Nat.le_refl _)
      have h2 : Sees (s.caught G x.a.length) (x.caught G.f) (0 + x.a.length + x.a.length) := h1.catchTo (i := 1) (by omega) (a.trans ho0) (b.trans ho1) x.a.length (by rw [c]; exact Nat.le_refl _)
      obtain ⟨d, e, g⟩ := catchTo_o G.f (x.catchTo G.f 0 x.a.length) 1 x.a.length
      have o0 : (x.caught G.f).o0 = false := (d.trans a).trans ho0
      have o1 : (x.caught G.f).o1 = false := (e.trans b).trans ho1
      obtain ⟨h3, h4⟩ := h2.fl (dry_in o0 o1)
      rw [o0, o1] at h3
      rw [if_pos (show (s.caught G x.a.length).flushed = (true, true) from h3)]
      refine ⟨?_, h4⟩
      rw [show (((s.caught G x.a.length).fl0 0).fl0 1).a = (x.caught G.f).a from h4.a, show (((s.caught G x.a.length).fl0 0).fl0 1).b = (x.caught G.f).b from h4.b]
theorem Dry.sync (h : Sees s x 0) : Dry (s.sync G x.a.length).2 (x.sync G.f).2 := (h.sync).2.dry
theorem Sees.out0 (h : Sees s x 0) (on : Bool) : Sees (⟨s.d.put 0 ((s.d.at 0).out on), s.a, s.b⟩ : Mr (one pw g1 g2)) (x.out 0 on) 0 := ⟨h.d0.out on, h.d1.put _ (by omega), h.a, h.b, h.n0, h.n1, h.nb⟩
theorem Sees.out1 (h : Sees s x 0) (on : Bool) : Sees (⟨s.d.put 1 ((s.d.at 1).out on), s.a, s.b⟩ : Mr (one pw g1 g2)) (x.out 1 on) 0 := ⟨h.d0.put _ (by omega), h.d1.out on, h.a, h.b, h.n0, h.n1, h.nb⟩
theorem Sees.rot0 (h : Sees s x 0) (n a : Int) (b : UInt8) : Sees (⟨s.d.rot 0 n a b, s.a, s.b⟩ : Mr (one pw g1 g2)) (x.rot 0 n a b) 0 := by
  have h1 := h.d0.rot n a b
  have h2 := h.d1.rot_other (i := 0) n a b (by omega)
  rw [h.n0] at h1
  rw [Md.rot]
  split
  · rename_i hc
    rw [if_pos hc] at h1
    exact ⟨h1, h2, h.a, h.b, by show (rotL _ _ _ _).length = _; rw [Mi.rotL_length]; exact h.n0, h.n1, h.nb⟩
  · rename_i hc
    rw [if_neg hc] at h1
    exact ⟨h1, h2, h.a, h.b, h.n0, h.n1, h.nb⟩
theorem Sees.rot1 (h : Sees s x 0) (n a : Int) (b : UInt8) : Sees (⟨s.d.rot 1 n a b, s.a, s.b⟩ : Mr (one pw g1 g2)) (x.rot 1 n a b) 0 := by
  have h1 := h.d1.rot n a b
  have h2 := h.d0.rot_other (i := 1) n a b (by omega)
  rw [h.n1] at h1
  rw [Md.rot]
  split
  · rename_i hc
    rw [if_pos hc] at h1
    exact ⟨h2, h1, h.a, h.b, h.n0, by show (rotL _ _ _ _).length = _; rw [Mi.rotL_length]; exact h.n1, h.nb⟩
  · rename_i hc
    rw [if_neg hc] at h1
    exact ⟨h2, h1, h.a, h.b, h.n0, h.n1, h.nb⟩
end
end Go.Proofs.Ytgfldfofiglefaa.Mu
/-
  Two devices of one power, and a mirror of them, in the laws: what each call tells, and makes of what is told of them.
-/
namespace Go.Proofs.Ytgfldfofiglefaa.Mu
open Go.RowKit Kd Mi
section
variable {p g1 g2 g : Nat} {G : Gd} {w0 w w1 w' : World} {F F' : Nat → Prop} {m : Nat}
/-- Two devices, new behind w0. -/
structure LD (p g1 g2 : Nat) (w0 w : World) (d : Sy) (F : Nat → Prop) (L0 L1 : List (List UInt8)) (o0 o1 : Bool) (m : Nat) : Prop where
  live : LiveA (SysL p [g1, g2] 2) w0 w d F
  d0 : See d 0 L0 o0 m
  d1 : See d 1 L1 o1 m
/-- A mirror of them. -/
structure LM (p g1 g2 : Nat) (G : Gd) (g : Nat) (w0 w : World) (s : Mr (one p g1 g2)) (F : Nat → Prop) (x : Md) (m : Nat) : Prop where
  live : LiveA (ML (one p g1 g2) G g) w0 w s F
  sees : Sees s x m
  dry : Dry s x
/-- It returns v; the mirror is x now. -/
def RetM (v : Value) (p g1 g2 : Nat) (G : Gd) (g : Nat) (w0 : World) (x : Md) (m : Nat) (F : Nat → Prop) (w : World) (e : Ending) (w' : World) : Prop :=
  e = .returned v ∧ ∃ (s : Mr (one p g1 g2)) (F' : Nat → Prop), LM p g1 g2 G g w0 w' s F' x m ∧ Mv (ML (one p g1 g2) G g) w F w' s F'
variable {s s' : Mr (one p g1 g2)} {x x' : Md}
theorem LM.ret (h : LM p g1 g2 G g w0 w s F x m) {v : Value} {e : Ending} {m' : Nat} (hr : RetA (ML (one p g1 g2) G g) v s' F w e w') (hs : Sees s' x' m') (hd : Dry s' x') : RetM v p g1 g2 G g w0 x' m' F w e w' := by
  obtain ⟨rfl, F', hm⟩ := hr
  exact ⟨rfl, s', F', ⟨h.live.step hm, hs, hd⟩, hm⟩
theorem LM.below (h : LM p g1 g2 G g w0 w s F x m) (hb : Below w.heap.size w w') : LM p g1 g2 G g w0 w' s F x m := ⟨h.live.below hb, h.sees, h.dry⟩
theorem LM.more (h : LM p g1 g2 G g w0 w s F x m) {m' : Nat} (hm : m ≤ m') : LM p g1 g2 G g w0 w s F x m' := ⟨h.live, h.sees.more hm, h.dry⟩
theorem lm_write (h : LM p g1 g2 G g w0 w s F x m) (n : Int) (y : List UInt8) (hy : y.length = 128) (hm : m < 900000) :
    Calls Try.prog 41 #[.pointer (some ⟨g, 0, none⟩), .int .i64 n, .agg (bva y)] w (RetM (.int .i64 (x.write n y).1) p g1 g2 G g w0 (x.write n y).2 (m + 2) F w) := by
  obtain ⟨h1, h2⟩ := h.sees.write n y
  have hc := mwrite_any h.live.at_ h.sees.ok n y hy (Nat.lt_of_le_of_lt h.sees.most hm)
  rw [h1] at hc
  exact hc.mono fun _ _ hr => h.ret hr h2 (h.dry.write h.sees n y)
theorem lm_flush (h : LM p g1 g2 G g w0 w s F x m) :
    Calls Try.prog 42 #[.pointer (some ⟨g, 0, none⟩)] w (RetM (.int .i64 (if x.o0 && x.o1 then 13 else 0)) p g1 g2 G g w0 x 0 F w) := by
  obtain ⟨h1, h2⟩ := h.sees.flush h.dry
  have hc := mflushm_any h.live.at_
  rw [h1] at hc
  exact hc.mono fun _ _ hr => h.ret hr h2 h2.dry
theorem lm_read (h : LM p g1 g2 G g w0 w s F x m) (n : Int) :
    Calls Try.prog 35 #[.pointer (some ⟨g, 0, none⟩), .int .i64 n] w (RetM (.tuple #[.agg (bva (x.read G.f n).1), .int .i64 (x.read G.f n).2]) p g1 g2 G g w0 x m F w) := by
  have hc := mread_any h.live.at_ (by rw [h.sees.ok.1, h.sees.ok.2]) n
  rw [h.sees.read n] at hc
  exact hc.mono fun _ _ hr => h.ret hr h.sees h.dry
theorem lm_heal (h : LM p g1 g2 G g w0 w s F x m) (n : Int) (hm : m < 900000) :
    Calls Try.prog 34 #[.pointer (some ⟨g, 0, none⟩), .int .i64 n] w (RetM (tup2 (x.heal G.f n).1) p g1 g2 G g w0 (x.heal G.f n).2 (m + 1) F w) := by
  obtain ⟨h1, h2⟩ := h.sees.heal (G := G) n
  have hc := heal_any h.live.at_ h.sees.ok n (Nat.lt_of_le_of_lt h.sees.most (by omega))
  rw [h1] at hc
  exact hc.mono fun _ _ hr => h.ret hr h2 (h.dry.heal h.sees n)
theorem lm_stale (h : LM p g1 g2 G g w0 w s F x m) : Calls Try.prog 84 #[.pointer (some ⟨g, 0, none⟩)] w (RetB (.tuple #[.int .i64 (cnt x.a), .int .i64 (cnt x.b)]) w) := by
  have hc := stale_any h.live.at_
  rwa [h.sees.a, h.sees.b] at hc
theorem lm_both (h : LM p g1 g2 G g w0 w s F x m) (n : Int) : Calls Try.prog 36 #[.pointer (some ⟨g, 0, none⟩), .int .i64 n] w (RetSec (x.both G.f n) w) := by
  have hc := both_any h.live.at_ n
  rwa [h.sees.both n] at hc
theorem lm_len (h : LM p g1 g2 G g w0 w s F x m) : Calls Try.prog 31 #[.pointer (some ⟨g, 0, none⟩)] w (RetB (.int .i64 x.a.length) w) := by
  have hc := mlen_any h.live.at_
  rwa [h.sees.a] at hc
/-! ### The devices beneath a mirror -/
theorem ml_sys (h : (ML (one p g1 g2) G g).At w s F) : ∃ F1, Kd.Sys w p [g1, g2] s.d F1 ∧ s.d.ds.length = 2 ∧ ∀ {v : Value} {S : Sy} {e w'}, S.ds.length = 2 → RetS v p [g1, g2] S F1 w e w' → RetA (ML (one p g1 g2) G g) v ⟨S, s.a, s.b⟩ F w e w' := by
  obtain ⟨F1, h1, hl⟩ := ml_dev h
  exact ⟨F1, h1.1, h1.2, fun hS hr => hl (RetS.reta hS hr)⟩
theorem lm_out0 (h : LM p g1 g2 G g w0 w s F x 0) (on : Bool) : Calls Try.prog 27 #[.pointer (some ⟨g1, 0, none⟩), .bool on] w (RetM (.tuple #[]) p g1 g2 G g w0 (x.out 0 on) 0 F w) := by
  obtain ⟨F1, h1, h2, hl⟩ := ml_sys h.live.at_
  have hs := h.sees.out0 on
  exact (out_sys h1 0 (by rw [h2]; omega) on).mono fun _ _ hr => h.ret (hl ((len_put _).trans h2) hr) hs hs.dry
theorem lm_out1 (h : LM p g1 g2 G g w0 w s F x 0) (on : Bool) : Calls Try.prog 27 #[.pointer (some ⟨g2, 0, none⟩), .bool on] w (RetM (.tuple #[]) p g1 g2 G g w0 (x.out 1 on) 0 F w) := by
  obtain ⟨F1, h1, h2, hl⟩ := ml_sys h.live.at_
  have hs := h.sees.out1 on
  exact (out_sys h1 1 (by rw [h2]; omega) on).mono fun _ _ hr => h.ret (hl ((len_put _).trans h2) hr) hs hs.dry
theorem rot_dsT {S : Sy} (i : Nat) (n a : Int) (b : UInt8) : (S.rot i n a b).ds.length = S.ds.length := by rw [Sy.rot]; split; exact len_put _; rfl
theorem lm_rot0 (h : LM p g1 g2 G g w0 w s F x 0) (n a : Int) (b : UInt8) : Calls Try.prog 57 #[.pointer (some ⟨g1, 0, none⟩), .int .i64 n, .int .i64 a, .int .u8 (b.toNat : Int)] w (RetM (.bool (hasByte x.a.length n a)) p g1 g2 G g w0 (x.rot 0 n a b) 0 F w) := by
  obtain ⟨F1, h1, h2, hl⟩ := ml_sys h.live.at_
  have hs := h.sees.rot0 n a b
  have hc := rot_sys h1 0 (by rw [h2]; omega) n a b
  rw [h.sees.d0.len, h.sees.n0] at hc
  exact hc.mono fun _ _ hr => h.ret (hl ((rot_dsT 0 n a b).trans h2) hr) hs hs.dry
theorem lm_rot1 (h : LM p g1 g2 G g w0 w s F x 0) (n a : Int) (b : UInt8) : Calls Try.prog 57 #[.pointer (some ⟨g2, 0, none⟩), .int .i64 n, .int .i64 a, .int .u8 (b.toNat : Int)] w (RetM (.bool (hasByte x.a.length n a)) p g1 g2 G g w0 (x.rot 1 n a b) 0 F w) := by
  obtain ⟨F1, h1, h2, hl⟩ := ml_sys h.live.at_
  have hs := h.sees.rot1 n a b
  have hc := rot_sys h1 1 (by rw [h2]; omega) n a b
  rw [h.sees.d1.len, h.sees.n1] at hc
  exact hc.mono fun _ _ hr => h.ret (hl ((rot_dsT 1 n a b).trans h2) hr) hs hs.dry
/-- A device beneath it is read. -/
theorem lm_dread0 (h : LM p g1 g2 G g w0 w s F x m) (n : Int) : Calls Try.prog 49 #[.pointer (some ⟨g1, 0, none⟩), .int .i64 n] w (RetB (.tuple #[.agg (bva (if x.o0 = false ∧ 0 ≤ n ∧ n < (x.a.length : Int) then x.l0.getD n.toNat zeroS else zeroS)), .int .i64 (if x.o0 then 13 else if n < 0 ∨ (x.a.length : Int) ≤ n then 2 else 0)]) w) := by
  obtain ⟨F1, h1, hl⟩ := ml_dev h.live.at_
  have hc := (one p g1 g2).crd (i := 0) h1 (by omega) n
  rw [h.sees.rd (i := 0) (by omega) n] at hc
  exact hc
theorem lm_dread1 (h : LM p g1 g2 G g w0 w s F x m) (n : Int) : Calls Try.prog 49 #[.pointer (some ⟨g2, 0, none⟩), .int .i64 n] w (RetB (.tuple #[.agg (bva (if x.o1 = false ∧ 0 ≤ n ∧ n < (x.a.length : Int) then x.l1.getD n.toNat zeroS else zeroS)), .int .i64 (if x.o1 then 13 else if n < 0 ∨ (x.a.length : Int) ≤ n then 2 else 0)]) w) := by
  obtain ⟨F1, h1, hl⟩ := ml_dev h.live.at_
  have hc := (one p g1 g2).crd (i := 1) h1 (by omega) n
  rw [h.sees.rd (i := 1) (by omega) n] at hc
  exact hc
/-! ### Two devices ahead of a mirror -/
variable {d : Sy} {L0 L1 : List (List UInt8)} {o0 o1 : Bool}
theorem LD.below (h : LD p g1 g2 w0 w d F L0 L1 o0 o1 m) (hb : Below w.heap.size w w') : LD p g1 g2 w0 w' d F L0 L1 o0 o1 m := ⟨h.live.below hb, h.d0, h.d1⟩
theorem ld_new {S : Sy} (h : Live w0 w p [g1, g2] S F) (s1 : See S 0 L0 o0 m) (s2 : See S 1 L1 o1 m) : LD p g1 g2 w0 w S F L0 L1 o0 o1 m :=
  ⟨⟨⟨h.sys, s1.ds⟩, h.new, h.bel⟩, s1, s2⟩
/-- It returns v; the devices have that now. -/
def RetD (v : Value) (p g1 g2 : Nat) (w0 : World) (L0 L1 : List (List UInt8)) (o0 o1 : Bool) (m : Nat) (F : Nat → Prop) (w : World) (e : Ending) (w' : World) : Prop :=
  e = .returned v ∧ ∃ (d : Sy) (F' : Nat → Prop), LD p g1 g2 w0 w' d F' L0 L1 o0 o1 m ∧ (∀ q, F' q → F q ∨ w.heap.size ≤ q) ∧ But F w w'
theorem LD.ret (h : LD p g1 g2 w0 w d F L0 L1 o0 o1 m) {v : Value} {S : Sy} {L0' L1' : List (List UInt8)} {o0' o1' : Bool} {m' : Nat} {e : Ending} (hr : RetS v p [g1, g2] S F w e w') (s1 : See S 0 L0' o0' m') (s2 : See S 1 L1' o1' m') : RetD v p g1 g2 w0 L0' L1' o0' o1' m' F w e w' := by
  obtain ⟨rfl, F', h1, h2, h3⟩ := hr
  exact ⟨rfl, S, F', ⟨h.live.step ⟨⟨h1, s1.ds⟩, h2, h3⟩, s1, s2⟩, h2, h3⟩
theorem ld_write0 (h : LD p g1 g2 w0 w d F L0 L1 false o1 m) (k : Nat) (hk : k < L0.length) (y : List UInt8) (hy : y.length = 128) (hm : m < 900000) :
    Calls Try.prog 58 #[.pointer (some ⟨g1, 0, none⟩), .int .i64 k, .agg (bva y)] w (RetD (.int .i64 0) p g1 g2 w0 (L0.set k y) L1 false o1 (m + 1) F w) := by
  obtain ⟨h1, h2, h3⟩ := h.d0.write_yes (x := y) rfl hk
  have hc := write_any h.live.at_.1 0 (by rw [h.d0.ds]; omega) (k : Int) y hy (by have := h.d0.few; omega)
  rw [h1] at hc
  exact hc.mono fun _ _ hr => h.ret hr h2 ((h3 (by omega) h.d1).more (Nat.le_succ _))
theorem ld_write1 (h : LD p g1 g2 w0 w d F L0 L1 o0 false m) (k : Nat) (hk : k < L1.length) (y : List UInt8) (hy : y.length = 128) (hm : m < 900000) :
    Calls Try.prog 58 #[.pointer (some ⟨g2, 0, none⟩), .int .i64 k, .agg (bva y)] w (RetD (.int .i64 0) p g1 g2 w0 L0 (L1.set k y) o0 false (m + 1) F w) := by
  obtain ⟨h1, h2, h3⟩ := h.d1.write_yes (x := y) rfl hk
  have hc := write_any h.live.at_.1 1 (by rw [h.d0.ds]; omega) (k : Int) y hy (by have := h.d1.few; omega)
  rw [h1] at hc
  exact hc.mono fun _ _ hr => h.ret hr ((h3 (by omega) h.d0).more (Nat.le_succ _)) h2
theorem ld_flush0 (h : LD p g1 g2 w0 w d F L0 L1 false o1 m) :
    Calls Try.prog 60 #[.pointer (some ⟨g1, 0, none⟩)] w (RetD (.int .i64 0) p g1 g2 w0 L0 L1 false o1 m F w) := by
  obtain ⟨h1, h2, h3⟩ := h.d0.flush_yes rfl
  have hc := flush_any h.live.at_.1 0 (by rw [h.d0.ds]; omega)
  rw [h1] at hc
  exact hc.mono fun _ _ hr => h.ret hr (h2.more (Nat.zero_le _)) (h3 (by omega) h.d1)
/-- The second one's flush, when nothing waits of the first. -/
theorem ld_flush1 (h : LD p g1 g2 w0 w d F L0 L1 o0 false m) (hw : See d 0 L0 o0 0) :
    Calls Try.prog 60 #[.pointer (some ⟨g2, 0, none⟩)] w (RetD (.int .i64 0) p g1 g2 w0 L0 L1 o0 false 0 F w) := by
  obtain ⟨h1, h2, h3⟩ := h.d1.flush_yes rfl
  have hc := flush_any h.live.at_.1 1 (by rw [h.d0.ds]; omega)
  rw [h1] at hc
  exact hc.mono fun _ _ hr => h.ret hr (h3 (by omega) hw) h2
theorem ld_flush0' (h : LD p g1 g2 w0 w d F L0 L1 false o1 m) :
    Calls Try.prog 60 #[.pointer (some ⟨g1, 0, none⟩)] w (fun e w' => e = .returned (.int .i64 0) ∧ ∃ (d : Sy) (F' : Nat → Prop), LD p g1 g2 w0 w' d F' L0 L1 false o1 m ∧ See d 0 L0 false 0 ∧ (∀ q, F' q → F q ∨ w.heap.size ≤ q) ∧ But F w w') := by
  obtain ⟨h1, h2, h3⟩ := h.d0.flush_yes rfl
  have hc := flush_any h.live.at_.1 0 (by rw [h.d0.ds]; omega)
  rw [h1] at hc
  exact hc.mono fun _ _ hr => by
    obtain ⟨h4, S, F', h5, h6, h7⟩ := h.ret (L0' := L0) (L1' := L1) (m' := m) hr (h2.more (Nat.zero_le _)) (h3 (by omega) h.d1)
    obtain ⟨_, F2, h8, h9, h10⟩ := hr
    exact ⟨h4, _, F2, ⟨h.live.step ⟨⟨h8, h2.ds⟩, h9, h10⟩, h2.more (Nat.zero_le _), h3 (by omega) h.d1⟩, h2, h9, h10⟩
theorem lm_new (hR : ∀ A n c B m e, G.R A n c B m e) {n : Nat} (h : LD p g1 g2 w0 w d F L0 L1 o0 o1 0) (e0 : L0.length = n) (e1 : L1.length = n) (hl : G.l = [] := by rfl) :
    Calls Try.prog 28 #[.pointer (some ⟨g1, 0, none⟩), .pointer (some ⟨g2, 0, none⟩), G.v] w (fun e w' => ∃ g s F', e = .returned (.pointer (some ⟨g, 0, none⟩)) ∧ LM p g1 g2 G g w0 w' s F' ⟨L0, L1, o0, o1, List.replicate n o0, List.replicate n o1⟩ 0 ∧ (∀ q, F' q → F q ∨ w.heap.size ≤ q) ∧ But F w w') := by
  refine (new_any (C := one p g1 g2) hR h.live.at_ hl).mono ?_
  rintro e w' ⟨g, F', rfl, h1, h2, h3⟩
  have hs : Sees (newM (one p g1 g2) d) ⟨L0, L1, o0, o1, List.replicate n o0, List.replicate n o1⟩ 0 := sees_new h.d0 h.d1 e0 e1
  exact ⟨g, _, F', rfl, ⟨⟨h1, fun q hq => (h2 q hq).elim (h.live.new q) (Nat.le_trans h.live.bel.size), h.live.bel.trans (h3.below (fun k hk hq => by have := h.live.new k hq; omega) h.live.bel.size)⟩, hs, hs.dry⟩, h2, h3⟩
end
end Go.Proofs.Ytgfldfofiglefaa.Mu
/-
  Two devices of one power that fails, beneath a mirror: what a write that is flushed makes of them. The second one is never torn.
-/
namespace Go.Proofs.Ytgfldfofiglefaa.Mu
open Go.RowKit Kd Mi
def dvT (st : List (List UInt8)) (wt : List (Nat × List UInt8)) (k b : Int) : Dv := ⟨st, wt, k, b, false, false⟩
def syT (c : Nat) (d0 d1 : Dv) : Sy := ⟨⟨false, (c : Int)⟩, [d0, d1]⟩
/-- Power is on. -/
def upS (c : Nat) (D : List (List UInt8)) (k b : Int) : Sy := syT c (dvT D [] k b) (dvT D [] 0 0)
/-- Power has failed. -/
def dnS (E D : List (List UInt8)) (k b : Int) : Sy := ⟨⟨true, -1⟩, [dvT E [] k b, dvT D [] 0 0]⟩
theorem fails_zero (x : Bool) : Pw.fails ⟨x, ((0 : Nat) : Int)⟩ = true := rfl
theorem fails_succ (x : Bool) (c : Nat) : Pw.fails ⟨x, ((c + 1 : Nat) : Int)⟩ = false := by
  unfold Pw.fails
  rw [decide_eq_false (show ¬ (((c + 1 : Nat) : Int) - 1 < 0) by omega), Bool.and_false]
theorem step_zero (x : Bool) : Pw.step ⟨x, ((0 : Nat) : Int)⟩ = ⟨true, -1⟩ := rfl
theorem step_succ (x : Bool) (c : Nat) : Pw.step ⟨x, ((c + 1 : Nat) : Int)⟩ = ⟨false, (c : Int)⟩ := by
  unfold Pw.step
  rw [if_neg (show ¬ (((c + 1 : Nat) : Int) < 0) by omega)]
  show Pw.mk (decide (((c + 1 : Nat) : Int) - 1 < 0)) (((c + 1 : Nat) : Int) - 1) = _
  rw [decide_eq_false (by omega)]
  congr 1
  omega
theorem count_zero (d0 d1 : Dv) : (syT 0 d0 d1).count = ⟨⟨true, -1⟩, [d0.fall, d1.fall]⟩ := rfl
theorem count_succ (c : Nat) (d0 d1 : Dv) : (syT (c + 1) d0 d1).count = syT c d0 d1 := by
  unfold Sy.count syT
  show (if Pw.fails ⟨false, ((c + 1 : Nat) : Int)⟩ = true then _ else Sy.mk (Pw.step ⟨false, ((c + 1 : Nat) : Int)⟩) [d0, d1]) = _
  rw [fails_succ, step_succ, if_neg (by simp)]
theorem refT {c : Nat} {d : Dv} (hg : d.gone = false) {n : Nat} (hn : n < d.st.length) : refuseN ⟨false, (c : Int)⟩ d (n : Int) = 0 := by
  unfold refuseN
  rw [hg, if_neg (by simp), if_neg (by omega)]
theorem wr0_up (c n : Nat) {D : List (List UInt8)} {k b : Int} (hn : n < D.length) (y : List UInt8) (d1 : Dv) : (syT (c + 1) (dvT D [] k b) d1).write 0 (n : Int) y = (0, syT c (dvT D [(n, y)] k b) d1) := by
  rw [Kd.write_yes (s := y) (show refuseN (syT (c + 1) (dvT D [] k b) d1).p ((syT (c + 1) (dvT D [] k b) d1).at 0) (n : Int) = 0 from refT rfl hn)]
  show (if Pw.fails ⟨false, ((c + 1 : Nat) : Int)⟩ = true then (13 : Int) else 0, (syT (c + 1) (dvT D [(n, y)] k b) d1).count) = _
  rw [fails_succ, count_succ, if_neg (by simp)]
theorem wr0_dn (n : Nat) {D : List (List UInt8)} {k b : Int} (hn : n < D.length) (y : List UInt8) (d1 : Dv) : (syT 0 (dvT D [] k b) d1).write 0 (n : Int) y = (13, ⟨⟨true, -1⟩, [(dvT D [(n, y)] k b).fall, d1.fall]⟩) := by
  rw [Kd.write_yes (s := y) (show refuseN (syT 0 (dvT D [] k b) d1).p ((syT 0 (dvT D [] k b) d1).at 0) (n : Int) = 0 from refT rfl hn)]
  rfl
theorem wr1_up (c n : Nat) {D : List (List UInt8)} {k b : Int} (hn : n < D.length) (y : List UInt8) (d0 : Dv) : (syT (c + 1) d0 (dvT D [] k b)).write 1 (n : Int) y = (0, syT c d0 (dvT D [(n, y)] k b)) := by
  rw [Kd.write_yes (s := y) (show refuseN (syT (c + 1) d0 (dvT D [] k b)).p ((syT (c + 1) d0 (dvT D [] k b)).at 1) (n : Int) = 0 from refT rfl hn)]
  show (if Pw.fails ⟨false, ((c + 1 : Nat) : Int)⟩ = true then (13 : Int) else 0, (syT (c + 1) d0 (dvT D [(n, y)] k b)).count) = _
  rw [fails_succ, count_succ, if_neg (by simp)]
theorem wr1_dn (n : Nat) {D : List (List UInt8)} {k b : Int} (hn : n < D.length) (y : List UInt8) (d0 : Dv) : (syT 0 d0 (dvT D [] k b)).write 1 (n : Int) y = (13, ⟨⟨true, -1⟩, [d0.fall, (dvT D [(n, y)] k b).fall]⟩) := by
  rw [Kd.write_yes (s := y) (show refuseN (syT 0 d0 (dvT D [] k b)).p ((syT 0 d0 (dvT D [] k b)).at 1) (n : Int) = 0 from refT rfl hn)]
  rfl
theorem set_same (D : List (List UInt8)) (n : Nat) : D.set n (D.getD n zeroS) = D := by
  apply List.ext_getElem?
  intro i
  rw [List.getElem?_set]
  split
  · rename_i h; subst h
    split
    · rename_i h; rw [List.getD_eq_getElem?_getD, List.getElem?_eq_getElem h]; rfl
    · rename_i h; rw [List.getElem?_eq_none (by omega)]
  · rfl
theorem fl_up (S : Sy) (i : Nat) (ho : S.p.off = false) (hg : (S.at i).gone = false) (hl : (S.at i).lies = false) (hf : S.p.fails = false) : S.flush i = (0, S.count.put i { S.at i with st := flushL (S.at i).st (S.at i).wt, wt := [] }) := by
  unfold Sy.flush
  dsimp only
  rw [if_neg (by rw [ho, hg]; simp), if_neg (by rw [hf]; simp), if_neg (by rw [hl]; simp)]
theorem fl_dn (S : Sy) (i : Nat) (ho : S.p.off = false) (hg : (S.at i).gone = false) (hf : S.p.fails = true) : S.flush i = (13, S.count) := by
  unfold Sy.flush
  dsimp only
  rw [if_neg (by rw [ho, hg]; simp), if_pos hf]
theorem fl0_up (c n : Nat) (D : List (List UInt8)) (k b : Int) (y : List UInt8) (d1 : Dv) : (syT (c + 1) (dvT D [(n, y)] k b) d1).flush 0 = (0, syT c (dvT (D.set n y) [] k b) d1) := by
  rw [fl_up _ _ rfl rfl rfl (fails_succ _ _), count_succ]
  rfl
theorem fl0_dn (d0 d1 : Dv) (hg : d0.gone = false) : (syT 0 d0 d1).flush 0 = (13, ⟨⟨true, -1⟩, [d0.fall, d1.fall]⟩) := fl_dn _ _ rfl hg rfl
theorem fl1_up (c n : Nat) (D : List (List UInt8)) (k b : Int) (y : List UInt8) (d0 : Dv) : (syT (c + 1) d0 (dvT D [(n, y)] k b)).flush 1 = (0, syT c d0 (dvT (D.set n y) [] k b)) := by
  rw [fl_up _ _ rfl rfl rfl (fails_succ _ _), count_succ]
  rfl
theorem fl1_dn (d0 d1 : Dv) (hg : d1.gone = false) : (syT 0 d0 d1).flush 1 = (13, ⟨⟨true, -1⟩, [d0.fall, d1.fall]⟩) := fl_dn _ _ rfl hg rfl
theorem wr_off (ds : List Dv) (i : Nat) (n : Int) (y : List UInt8) : (Sy.mk ⟨true, -1⟩ ds).write i n y = (13, ⟨⟨true, -1⟩, ds⟩) := write_down8 rfl
theorem fl_off (ds : List Dv) (i : Nat) : (Sy.mk ⟨true, -1⟩ ds).flush i = (13, ⟨⟨true, -1⟩, ds⟩) := flush_down8 rfl
/-- What waits on the first device when power fails: some of it is there. -/
theorem fall0 (D : List (List UInt8)) (n : Nat) (y : List UInt8) (k b : Int) (h3 : ∀ s ∈ D, s.length = 128) (hy : y.length = 128) (hb : 0 ≤ b ∧ b ≤ 128) : ∃ z : List UInt8, z.length = 128 ∧ (dvT D [(n, y)] k b).fall = dvT (D.set n z) [] k b := by
  show ∃ z : List UInt8, z.length = 128 ∧ dvT (if ((0 : Nat) : Int) < k then D.set n y else if ((0 : Nat) : Int) = k then D.set n (tornL b y (D.getD n zeroS)) else D) [] k b = _
  by_cases h1 : ((0 : Nat) : Int) < k
  · exact ⟨y, hy, by rw [if_pos h1]⟩
  · by_cases h2 : ((0 : Nat) : Int) = k
    · exact ⟨tornL b y (D.getD n zeroS), torn_length hy (getD_ok h3 _) hb, by rw [if_neg h1, if_pos h2]⟩
    · refine ⟨D.getD n zeroS, getD_ok h3 _, ?_⟩
      rw [if_neg h1, if_neg h2, set_same]
theorem fall_dry (D : List (List UInt8)) (k b : Int) : (dvT D [] k b).fall = dvT D [] k b := rfl
/-- What waits on the second one is lost. -/
theorem fall1 (D : List (List UInt8)) (n : Nat) (y : List UInt8) : (dvT D [(n, y)] 0 0).fall = dvT D [] 0 0 := by
  show dvT (D.set n (tornL 0 y (D.getD n zeroS))) [] 0 0 = _
  rw [show tornL 0 y (D.getD n zeroS) = D.getD n zeroS from rfl, set_same]
/-! ### A write that is flushed -/
section
variable {p g1 g2 : Nat} {s : Mr (one p g1 g2)} {D : List (List UInt8)} {c n : Nat} {k b : Int} {y : List UInt8}
theorem one_there {S : Sy} {i : Nat} (hi : i < 2) : (one p g1 g2).there S i = (refuseN S.p (S.at i) 0 != 13) := by
  rcases (show i = 0 ∨ i = 1 by omega) with rfl | rfl <;> rfl
theorem there_up {d0 d1 : Dv} {i : Nat} (hi : i < 2) (h0 : d0.gone = false) (h1 : d1.gone = false) (l0 : 0 < d0.st.length) (l1 : 0 < d1.st.length) : (one p g1 g2).there (syT c d0 d1) i = true := by
  rw [one_there hi]
  rcases (show i = 0 ∨ i = 1 by omega) with rfl | rfl
  · rw [show refuseN (syT c d0 d1).p ((syT c d0 d1).at 0) 0 = 0 from refT (n := 0) h0 l0]; rfl
  · rw [show refuseN (syT c d0 d1).p ((syT c d0 d1).at 1) 0 = 0 from refT (n := 0) h1 l1]; rfl
theorem there_off {ds : List Dv} {i : Nat} (hi : i < 2) : (one p g1 g2).there (Sy.mk ⟨true, -1⟩ ds) i = false := by
  rw [one_there hi, show refuseN (Sy.mk ⟨true, -1⟩ ds).p ((Sy.mk ⟨true, -1⟩ ds).at i) 0 = 13 from by unfold refuseN; rw [if_pos (by rfl)]]
  rfl
/-- Power has failed: the first device has anything at n, all else is as it was. -/
def Dn (S : Sy) (D : List (List UInt8)) (n : Nat) (k b : Int) : Prop := ∃ z : List UInt8, z.length = 128 ∧ S = dnS (D.set n z) D k b
theorem reach_d (s2 : Mr (one p g1 g2)) (m : Nat) (x y : Bool) : (s2.reach m x y).1 = (if x || y then 0 else 13) ∧ (s2.reach m x y).2.d = s2.d ∧ (s2.reach m x y).2.a.length = s2.a.length ∧ (s2.reach m x y).2.b.length = s2.b.length := by
  cases x <;> cases y <;> first | exact ⟨rfl, rfl, rfl, rfl⟩ | exact ⟨rfl, rfl, List.length_set, List.length_set⟩
theorem write_d (hn : n < s.a.length) : (s.write (n : Int) y).1 = (if ((s.d.write 0 n y).1 == 0) || (((s.d.write 0 n y).2.write 1 n y).1 == 0) then 0 else 13) ∧ (s.write (n : Int) y).2.d = ((s.d.write 0 n y).2.write 1 n y).2 ∧ (s.write (n : Int) y).2.a.length = s.a.length ∧ (s.write (n : Int) y).2.b.length = s.b.length := by
  have hh : has s (n : Int) = true := by
    show (decide (0 ≤ (n : Int)) && decide ((n : Int) < s.a.length)) = true
    rw [decide_eq_true (by omega), decide_eq_true (by omega)]; rfl
  rw [Mr.write, hh, if_pos rfl]
  exact reach_d _ _ _ _
theorem flush_d : (s.flush).1 = (if ((one p g1 g2).there s.d 0 || (one p g1 g2).there s.d 1) && (((s.d.flush 0).1 == 0, ((s.d.flush 0).2.flush 1).1 == 0) == ((one p g1 g2).there s.d 0, (one p g1 g2).there s.d 1)) then 0 else 13) ∧ s.flush.2.d = ((s.d.flush 0).2.flush 1).2 := ⟨rfl, rfl⟩
/-- What flushing tells when power is off. -/
theorem flush_off {ds : List Dv} (hs : s.d = Sy.mk ⟨true, -1⟩ ds) : s.flush.1 = 13 ∧ s.flush.2.d = s.d := by
  obtain ⟨f1, f2⟩ := flush_d (s := s)
  rw [hs, there_off (by omega), there_off (by omega)] at f1
  rw [hs, fl_off] at f2
  exact ⟨f1, f2.trans (by rw [fl_off, hs])⟩
/-- A write that is flushed: all is there, on both; or power has failed, and one of the two told so. -/
theorem step_torn (hs : s.d = upS c D k b) (hl : D.length = 4) (ha : s.a.length = 4) (hn : n < 4) (h3 : ∀ s ∈ D, s.length = 128) (hy : y.length = 128) (hb : 0 ≤ b ∧ b ≤ 128) :
    ((s.write (n : Int) y).1 = 13 ∧ Dn (s.write (n : Int) y).2.d D n k b) ∨ ((s.write (n : Int) y).1 = 0 ∧ (((s.write (n : Int) y).2.flush.1 = 13 ∧ Dn (s.write (n : Int) y).2.flush.2.d D n k b) ∨ ((s.write (n : Int) y).2.flush.1 = 0 ∧ ∃ c', (s.write (n : Int) y).2.flush.2.d = upS c' (D.set n y) k b))) := by
  obtain ⟨w1, w2, _⟩ := write_d (s := s) (n := n) (y := y) (by omega)
  have hnl : n < D.length := by omega
  obtain ⟨z, hz, hf⟩ := fall0 D n y k b h3 hy hb
  rw [hs] at w1 w2
  rcases c with _ | c
  · rw [show upS 0 D k b = syT 0 (dvT D [] k b) (dvT D [] 0 0) from rfl, wr0_dn n hnl, wr_off] at w1 w2
    refine .inl ⟨w1, z, hz, ?_⟩
    rw [w2]
    show Sy.mk _ [(dvT D [(n, y)] k b).fall, _] = _
    rw [hf]; rfl
  rw [show upS (c + 1) D k b = syT (c + 1) (dvT D [] k b) (dvT D [] 0 0) from rfl, wr0_up c n hnl] at w1 w2
  rcases c with _ | c
  · rw [show ((0 : Int), syT 0 (dvT D [(n, y)] k b) (dvT D [] 0 0)).2 = syT 0 (dvT D [(n, y)] k b) (dvT D [] 0 0) from rfl, wr1_dn n hnl] at w1 w2
    have e : (s.write (n : Int) y).2.d = dnS (D.set n z) D k b := by
      rw [w2]
      show Sy.mk _ [(dvT D [(n, y)] k b).fall, (dvT D [(n, y)] 0 0).fall] = _
      rw [hf, fall1]; rfl
    obtain ⟨f1, f2⟩ := flush_off (s := (s.write (n : Int) y).2) e
    exact .inr ⟨w1, .inl ⟨f1, z, hz, f2.trans e⟩⟩
  rw [show ((0 : Int), syT (c + 1) (dvT D [(n, y)] k b) (dvT D [] 0 0)).2 = syT (c + 1) (dvT D [(n, y)] k b) (dvT D [] 0 0) from rfl, wr1_up c n hnl] at w1 w2
  refine .inr ⟨w1, ?_⟩
  obtain ⟨f1, f2⟩ := flush_d (s := (s.write (n : Int) y).2)
  have w3 : (s.write (n : Int) y).2.d = syT c (dvT D [(n, y)] k b) (dvT D [(n, y)] 0 0) := w2
  rw [w3, there_up (by omega) rfl rfl (by show 0 < D.length; omega) (by show 0 < D.length; omega), there_up (by omega) rfl rfl (by show 0 < D.length; omega) (by show 0 < D.length; omega)] at f1
  rw [w3] at f2
  rcases c with _ | c
  · rw [fl0_dn _ _ rfl] at f1 f2
    dsimp only at f1 f2
    rw [fl_off] at f1 f2
    refine .inl ⟨f1, z, hz, ?_⟩
    rw [f2]
    show Sy.mk _ [(dvT D [(n, y)] k b).fall, (dvT D [(n, y)] 0 0).fall] = _
    rw [hf, fall1]; rfl
  rw [fl0_up] at f1 f2
  dsimp only at f1 f2
  rcases c with _ | c
  · rw [fl1_dn _ _ rfl] at f1 f2
    refine .inl ⟨f1, y, hy, ?_⟩
    rw [f2]
    show Sy.mk _ [(dvT (D.set n y) [] k b).fall, (dvT D [(n, y)] 0 0).fall] = _
    rw [fall1]; rfl
  · rw [fl1_up] at f1 f2
    exact .inr ⟨f1, c, f2⟩
end
end Go.Proofs.Ytgfldfofiglefaa.Mu
/-
  A mirror of two devices of one power, whatever becomes of it: what is called. Four sectors in a box.
-/
namespace Go.Proofs.Ytgfldfofiglefaa.Mu
open Go.RowKit Kd Mi
attribute [local go_sem ↓] Go.wp_at_zero Go.wp_at_succ
set_option maxRecDepth 100000 in
theorem flushG_any (w : World) (n : Int) (x : List UInt8) : Calls Try.prog 37 #[.int .i64 n, .agg (bva x)] w (RetB (.bool true) w) := by
  go_enter Try.func37, Try.ntmps37
  go_wp2_with fail
  go_ret
  exact ⟨rfl, (Below.refl _ _).alloc (Nat.le_refl _) _⟩
theorem flushG_enter (args : Array Value) (W : World) : (callFunc 37 args).run Try.prog W = .ok (.enter 37 args) W := by kernel_rfl
set_option maxRecDepth 100000 in
/-- All may stand. -/
def gT : Gd where
  k := some 37
  f _ _ := true
  R _ _ _ _ _ _ := True
  none_ h := by cases h
  enter k' h args W := by injection h with h; subst h; exact flushG_enter args W
  call k' h w n x _ _ := by injection h with h; subst h; exact flushG_any w n x
section
variable {p g1 g2 g : Nat} {G : Gd} {w0 w w' : World} {F F' : Nat → Prop} {s s' : Mr (one p g1 g2)} {e : Ending} {v : Value}
/-- It returns v; the mirror is s' now. -/
def RetT (v : Value) (p g1 g2 : Nat) (G : Gd) (g : Nat) (w0 : World) (s' : Mr (one p g1 g2)) (F : Nat → Prop) (w : World) (e : Ending) (w' : World) : Prop :=
  e = .returned v ∧ ∃ F' : Nat → Prop, LiveA (ML (one p g1 g2) G g) w0 w' s' F' ∧ Mv (ML (one p g1 g2) G g) w F w' s' F'
theorem retT (h : LiveA (ML (one p g1 g2) G g) w0 w s F) (hr : RetA (ML (one p g1 g2) G g) v s' F w e w') : RetT v p g1 g2 G g w0 s' F w e w' := by
  obtain ⟨rfl, F', hm⟩ := hr
  exact ⟨rfl, F', h.step hm, hm⟩
theorem tm_write (h : LiveA (ML (one p g1 g2) G g) w0 w s F) {k : Nat} (hk : s.ok k) (n : Int) (y : List UInt8) (hy : y.length = 128) (hm : mostD s.d < 900000) :
    Calls Try.prog 41 #[.pointer (some ⟨g, 0, none⟩), .int .i64 n, .agg (bva y)] w (RetT (.int .i64 (s.write n y).1) p g1 g2 G g w0 (s.write n y).2 F w) :=
  (mwrite_any h.at_ hk n y hy hm).mono fun _ _ hr => retT h hr
theorem tm_flush (h : LiveA (ML (one p g1 g2) G g) w0 w s F) : Calls Try.prog 42 #[.pointer (some ⟨g, 0, none⟩)] w (RetT (.int .i64 s.flush.1) p g1 g2 G g w0 s.flush.2 F w) :=
  (mflushm_any h.at_).mono fun _ _ hr => retT h hr
theorem tm_tear (h : LiveA (ML (one p g1 g2) G g) w0 w s F) (x y : Int) : Calls Try.prog 38 #[.pointer (some ⟨g1, 0, none⟩), .int .i64 x, .int .i64 y] w (RetT (.tuple #[]) p g1 g2 G g w0 ⟨s.d.put 0 ((s.d.at 0).tear x y), s.a, s.b⟩ F w) := by
  obtain ⟨F1, h1, h2, hl⟩ := ml_sys h.at_
  exact (tear_sys h1 0 (by rw [h2]; omega) x y).mono fun _ _ hr => retT h (hl ((len_put _).trans h2) hr)
theorem tm_fail (h : LiveA (ML (one p g1 g2) G g) w0 w s F) (x : Int) (hx : x ≤ 9223372036854775807) : Calls Try.prog 39 #[.pointer (some ⟨p, 0, none⟩), .int .i64 x] w (RetT (.tuple #[]) p g1 g2 G g w0 ⟨s.d.fail x, s.a, s.b⟩ F w) := by
  obtain ⟨F1, h1, h2, hl⟩ := ml_sys h.at_
  exact (fail_sys h1 x hx).mono fun _ _ hr => retT h (hl h2 hr)
theorem tm_dump0 (h : LiveA (ML (one p g1 g2) G g) w0 w s F) {l : List (List UInt8)} (hst : (s.d.at 0).st = l) (hl : l.length = 4) : Calls Try.prog 25 #[.pointer (some ⟨g1, 0, none⟩)] w (fun e w' => ∃ A c, e = .returned (.slice A 4 c) ∧ w'.ownsRow w.heap.size 38 128 (.slice A 4 c) 4 (svs l) ∧ (∀ y ∈ l, y.length = 128) ∧ Below w.heap.size w w') := by
  obtain ⟨F1, h1, h2, _⟩ := ml_sys h.at_
  refine (dump_sys h1 0 (by rw [h2]; omega)).mono ?_
  rintro e w' ⟨A, n, c, rfl, ho, hb⟩
  have hok := (h1.ok (k := 0) (by rw [h2]; omega)).st
  rw [hst] at ho hok
  obtain rfl : 4 = n := by have h3 := ho.1; rw [svs_length hok] at h3; omega
  exact ⟨A, c, rfl, ho, hok, hb⟩
theorem tm_dump1 (h : LiveA (ML (one p g1 g2) G g) w0 w s F) {l : List (List UInt8)} (hst : (s.d.at 1).st = l) (hl : l.length = 4) : Calls Try.prog 25 #[.pointer (some ⟨g2, 0, none⟩)] w (fun e w' => ∃ A c, e = .returned (.slice A 4 c) ∧ w'.ownsRow w.heap.size 38 128 (.slice A 4 c) 4 (svs l) ∧ (∀ y ∈ l, y.length = 128) ∧ Below w.heap.size w w') := by
  obtain ⟨F1, h1, h2, _⟩ := ml_sys h.at_
  refine (dump_sys h1 1 (by rw [h2]; omega)).mono ?_
  rintro e w' ⟨A, n, c, rfl, ho, hb⟩
  have hok := (h1.ok (k := 1) (by rw [h2]; omega)).st
  rw [hst] at ho hok
  obtain rfl : 4 = n := by have h3 := ho.1; rw [svs_length hok] at h3; omega
  exact ⟨A, c, rfl, ho, hok, hb⟩
/-- A mirror of two new devices of four sectors. -/
theorem tm_new (h : Live w0 w p [g1, g2] ((S0.new 4).new 4) F) : Calls Try.prog 28 #[.pointer (some ⟨g1, 0, none⟩), .pointer (some ⟨g2, 0, none⟩), gT.v] w (fun e w' => ∃ (g : Nat) (s : Mr (one p g1 g2)) (F' : Nat → Prop), e = .returned (.pointer (some ⟨g, 0, none⟩)) ∧ LiveA (ML (one p g1 g2) gT g) w0 w' s F' ∧ s.d = (S0.new 4).new 4 ∧ s.ok 4) := by
  refine (new_any (C := one p g1 g2) (G := gT) (d := (S0.new 4).new 4) (F1 := F) (fun _ _ _ _ _ _ => trivial) ⟨h.sys, rfl⟩).mono ?_
  rintro e w' ⟨g, F', rfl, h1, h2, h3⟩
  exact ⟨g, _, F', rfl, ⟨h1, fun q hq => (h2 q hq).elim (h.new q) (Nat.le_trans h.bel.size), h.bel.trans (h3.below (fun k hk hq => by have := h.new k hq; omega) h.bel.size)⟩, rfl, List.length_replicate, List.length_replicate⟩
theorem lt_own (h : LiveA (ML (one p g1 g2) G g) w0 w s F) {w1 : World} {T : Nat → Prop} (hb : But T w w1) (ht : ∀ q, T q → w0.heap.size ≤ q) (hd : ∀ q, F q → T q → False) : LiveA (ML (one p g1 g2) G g) w0 w1 s F :=
  ⟨(ML (one p g1 g2) G g).but h.at_ hb hd, h.new, h.bel.trans (hb.below (fun k hk hq => by have := ht k hq; omega) h.bel.size)⟩
/-- New devices, the first one told what is kept, and power when it fails. -/
theorem up_new (x y z : Int) : (((S0.new 4).new 4).put 0 ((((S0.new 4).new 4).at 0).tear x y)).fail z = ⟨⟨false, failN z⟩, [dvT (List.replicate 4 zeroS) [] (keptN x) (bytesN y), dvT (List.replicate 4 zeroS) [] 0 0]⟩ := rfl
end
/-! ### Four sectors in a box -/
def svF (l : List (List UInt8)) : Array Value := (svs l).toArray
set_option maxRecDepth 100000 in
theorem four_zero (W : World) : (zeroValue 74).run Try.prog W = .ok (.agg (svF (List.replicate 4 zeroS))) W := by kernel_rfl
theorem four_info : Hid ((Try.prog.info? 74).map (·.size) = some 512) := Lib.hid (by kernel_rfl)
theorem svFs {l : List (List UInt8)} (h3 : ∀ s ∈ l, s.length = 128) (hl : l.length = 4) : (svF l).size = 512 := by
  rw [svF, List.size_toArray, svs_length h3, hl]
theorem four_set {w : World} {b k : Nat} {W : List (List UInt8)} {y : List UInt8} (hb : Blk w b (svF W) 74) (h3 : ∀ s ∈ W, s.length = 128) (hy : y.length = 128) (hk : k < W.length) :
    w.there b (k * 128) (bva y).size ∧ Blk (w.setCells b (k * 128) (bva y).toList) b (svF (W.set k y)) 74 := by
  have hl : k * 128 + (bv y).length ≤ (svs W).length := by rw [bv_length, hy, svs_length h3]; omega
  have hr := row_setCells b 74 (bv y) (k * 128) w (svs W) hb hl
  refine ⟨?_, ?_⟩
  · have h := there_of_blk hb hl
    rwa [show (bv y).length = (bva y).size by rw [bv_length, bva_size]] at h
  · unfold Blk svF
    rw [svs_splice h3 hy hk]
    exact hr
theorem four_cells {w : World} {b k : Nat} {W : List (List UInt8)} (hb : Blk w b (svF W) 74) (h3 : ∀ s ∈ W, s.length = 128) (hk : k < W.length) : ∀ i v, (bv (W.getD k zeroS))[i]? = some v → w.cell? ((⟨b, k * 128, none⟩ : Addr).add i) = some v := fun i v hv => by
  have e : W.getD k zeroS = W[k] := by rw [List.getD_eq_getElem?_getD, List.getElem?_eq_getElem hk]; rfl
  rw [e] at hv
  have h := svs_get h3 hk hv
  rw [Addr.add_mid, hb.cell, svF, List.getElem?_toArray, show k * 128 + i = 128 * k + i by omega]
  exact h
end Go.Proofs.Ytgfldfofiglefaa.Mu
/-
  How an array of numbers that came in by value is opened: its numbers, as a list.
-/
namespace Go.Proofs.Ytgfldfofiglefaa
open Go.RowKit Go.ChangeShapes Go.WideShapes

section
variable {H : Type} {enc : TypeId × Value → H} {P : Program} {w : World} {r : Reach} {b0 base : Nat} {spare : Nat → Bool} {held : Bool}

theorem open_arr {t e n : Nat} {k : IntKind} {v : Value} {d : DataW H} {ps : List MemPlace} (ht : P.underlying t = some (.array n e)) (he : P.underlying e = some (.int k)) (hc : P.cellsOf e = 1) (hn : P.cellsOf t = n)
    (hval : Value.okWide P w r b0 t v) (h : DataW.Trod enc P w base spare held t v d ps) :
    ∃ zs : List Int, zs.length = n ∧ v = .agg (zs.map (Value.int k)).toArray ∧ ∀ z ∈ zs, (Lit.int k z).wf = true := by
  obtain ⟨cs, rfl, hsz⟩ : ∃ cs, v = .agg cs ∧ cs.size = n := by
    have h1 := hval
    simp only [Value.okWide, ht] at h1
    obtain ⟨cs, e1, e2, _⟩ := h1
    exact ⟨cs, e1, by rw [e2, hn]⟩
  obtain ⟨fuel, hf⟩ := h
  obtain ⟨xs, m, _, _, hl, hx, hel⟩ := DataW.trod_array ht hf
  have each : ∀ i (hi : i < cs.size), ∃ z, cs[i] = .int k z ∧ (Lit.int k z).wf = true := by
    intro i hi
    have h1 := hel i (by omega)
    have hxi : i < xs.length := by omega
    rw [List.getElem?_eq_getElem hxi, hc, Nat.mul_one] at h1
    obtain ⟨z, e1, _, hw⟩ := DataW.trod_int he h1
    have e2 : ((Value.agg cs).cells.toList.drop i).take 1 = [cs[i]] := by
      show (cs.toList.drop i).take 1 = [cs[i]]
      rw [List.drop_eq_getElem_cons (by simpa using hi)]
      simp
    rw [e2] at e1
    injection e1 with e1
    exact ⟨z, e1, hw⟩
  refine ⟨cs.toList.map (fun v => match v with | .int _ z => z | _ => 0), by simpa using hsz, ?_, ?_⟩
  · congr 1
    apply Array.ext
    · simp
    · intro i h1 h2
      obtain ⟨z, hz, _⟩ := each i h1
      simp [hz]
  · intro z hz
    simp only [List.mem_map] at hz
    obtain ⟨v, hv, rfl⟩ := hz
    obtain ⟨i, hi, rfl⟩ := List.getElem_of_mem hv
    obtain ⟨z, hz, hw⟩ := each i (by simpa using hi)
    have : cs.toList[i] = .int k z := by simpa using hz
    rw [this]
    exact hw

theorem open_u32s {t e n : Nat} {v : Value} {d : DataW H} {ps : List MemPlace} (ht : P.underlying t = some (.array n e)) (he : P.underlying e = some (.int .u32)) (hc : P.cellsOf e = 1) (hn : P.cellsOf t = n)
    (hval : Value.okWide P w r b0 t v) (h : DataW.Trod enc P w base spare held t v d ps) : ∃ s : List UInt32, s.length = n ∧ v = .agg (uv s) := by
  obtain ⟨zs, hl, rfl, hw⟩ := open_arr ht he hc hn hval h
  refine ⟨zs.map fun z => UInt32.ofNat z.toNat, by simpa using hl, ?_⟩
  unfold uv
  rw [List.map_map]
  congr 2
  apply List.map_congr_left
  intro z hz
  have hb := bounds_u32 (hw z hz)
  simp only [Function.comp]
  exact int_eq (by rw [UInt32.toNat_ofNat']; omega)
theorem open_u8s {t e n : Nat} {v : Value} {d : DataW H} {ps : List MemPlace} (ht : P.underlying t = some (.array n e)) (he : P.underlying e = some (.int .u8)) (hc : P.cellsOf e = 1) (hn : P.cellsOf t = n)
    (hval : Value.okWide P w r b0 t v) (h : DataW.Trod enc P w base spare held t v d ps) : ∃ l : List UInt8, l.length = n ∧ v = .agg (bva l) := by
  obtain ⟨zs, hl, rfl, hw⟩ := open_arr ht he hc hn hval h
  refine ⟨zs.map fun z => UInt8.ofNat z.toNat, by simpa using hl, ?_⟩
  unfold bva bv
  rw [List.map_map]
  congr 2
  apply List.map_congr_left
  intro z hz
  have hb := bounds_u8 (hw z hz)
  simp only [Function.comp]
  exact int_eq (by rw [UInt8.toNat_ofNat']; omega)
end
end Go.Proofs.Ytgfldfofiglefaa
