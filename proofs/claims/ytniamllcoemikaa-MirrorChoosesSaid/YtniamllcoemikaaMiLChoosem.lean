/-
  The law MirrorChooses holds: what is chosen at a place is what both have there, if both are there; all other places stay. For any first bytes, place and sector.
-/
import Derived.Test.YtniamllcoemikaaMc1
import Derived.OrdersHeld
import Derived.Deep.RegionHeld
import Derived.Test.YtniamllcoemikaaRows
import Derived.ProofKit
import Derived.OpenShut
import Derived.ShutString
import Derived.ChangeOld
namespace Go.Proofs.Ytniamllcoemikaa
open Go.RowKit Kd Mi Sc Go.ChangeShapes Go.WideShapes Go.ChangeAt
attribute [local go_sem ↓] Go.wp_at_zero Go.wp_at_succ
theorem byte_ofW {a : Int} (h : 0 ≤ a ∧ a ≤ 255) : ∃ x : UInt8, a = (x.toNat : Int) := ⟨UInt8.ofNat a.toNat, by rw [UInt8.toNat_ofNat']; omega⟩
theorem prs_get {l : List (UInt8 × UInt8)} {j : Nat} (hj : j < l.length) : (prs l).toArray[2 * j]? = some (.int .u8 ((l[j]).1.toNat : Int)) ∧ (prs l).toArray[2 * j + 1]? = some (.int .u8 ((l[j]).2.toNat : Int)) := by
  rw [List.getElem?_toArray, List.getElem?_toArray]
  exact ⟨Sc.prs_get hj (j := 0) rfl, Sc.prs_get hj (j := 1) rfl⟩
theorem two_blks (w : World) (u v : Array Value) (t : TypeId) : ∃ w2, w2 = (w.alloc (.cells u t)).alloc (.cells v t) ∧ Blk w2 w.heap.size u t ∧ Blk w2 (w.heap.size + 1) v t ∧ Below w.heap.size w w2 := by
  have hsz : (w.alloc (.cells u t)).heap.size = w.heap.size + 1 := Array.size_push _
  refine ⟨_, rfl, Blk.below (w := w.alloc (.cells u t)) (heap_alloc_new _ _) ((Below.refl _ _).alloc (Nat.le_refl _) _), ?_, ?_⟩
  · rw [← hsz]; exact heap_alloc_new _ _
  · have b1 : Below w.heap.size w (w.alloc (.cells u t)) := (Below.refl _ _).alloc (Nat.le_refl _) _
    exact b1.alloc b1.size _
theorem start_write2 {L M : List (List UInt8)} {n j : Nat} (hj : j < n) (y : List UInt8) : (startM L M n).write j y = (0, startM (L.set j y) (M.set j y) n) := by
  have hh : (startM L M n).has (j : Int) = true := by rw [Md.has, start_len]; simp; omega
  rw [Md.write, hh, if_pos rfl, if_neg (by show ¬ (false && false) = true; simp), Int.toNat_natCast]
  show ((0 : Int), (⟨L.set j y, M.set j y, false, false, (List.replicate n false).set j false, (List.replicate n false).set j false⟩ : Md)) = _
  rw [rep_set]; rfl
theorem start_read {L M : List (List UInt8)} {n k : Nat} {y : List UInt8} {f : Int → List UInt8 → Bool} (hk : k < n) (hL : L.getD k zeroS = y) (hM : M.getD k zeroS = y) : (startM L M n).read f (k : Int) = if f (k : Int) y then (y, 0) else (zeroS, 9) := by
  have hh : (startM L M n).has (k : Int) = true := by rw [Md.has, start_len]; simp; omega
  have h0 : (startM L M n).right f 0 k = f (k : Int) y := by
    rw [Md.right]
    show (!((List.replicate n false).getD k false) && (!false && f (k : Int) (L.getD k zeroS))) = _
    rw [hL, show (List.replicate n false).getD k false = false by rw [List.getD_eq_getElem?_getD, List.getElem?_replicate]; split <;> rfl]; rfl
  have h1 : (startM L M n).right f 1 k = f (k : Int) y := by
    rw [Md.right]
    show (!((List.replicate n false).getD k false) && (!false && f (k : Int) (M.getD k zeroS))) = _
    rw [hM, show (List.replicate n false).getD k false = false by rw [List.getD_eq_getElem?_getD, List.getElem?_replicate]; split <;> rfl]; rfl
  rw [Md.read, hh, if_pos rfl, Int.toNat_natCast, h0, h1]
  show (if f (k : Int) y = true then (L.getD k zeroS, (0 : Int)) else if f (k : Int) y = true then (M.getD k zeroS, 0) else (zeroS, if (false && false) = true then 13 else 9)) = _
  rw [hL]
  cases f (k : Int) y <;> rfl
set_option maxRecDepth 100000 in
set_option maxHeartbeats 25600000 in
theorem mirrorChooses_any (w : World) (la : List (UInt8 × UInt8)) (hla : la.length = 6) (lb : List (UInt8 × UInt8)) (hlb : lb.length = 6) (a2 : Int) (c2 : 0 ≤ a2 ∧ a2 ≤ 255) (a3 : Int) (c3 : 0 ≤ a3 ∧ a3 ≤ 255) (a4 : Int) (c4 : 0 ≤ a4 ∧ a4 ≤ 255) : Calls Try.prog 15 #[.agg (prs la).toArray, .agg (prs lb).toArray, .int .u8 a2, .int .u8 a3, .int .u8 a4] w (RetB (.bool true) w) := by
  obtain ⟨vn, rfl⟩ := byte_ofW c2
  obtain ⟨vx, rfl⟩ := byte_ofW c3
  obtain ⟨vy, rfl⟩ := byte_ofW c4
  clear c2 c3 c4
  obtain ⟨k, hk⟩ : ∃ k, k = vn.toNat % 6 := ⟨_, rfl⟩
  have HK := Lib.hid (show k < 6 by rw [hk]; exact Nat.mod_lt _ (by omega))
  have wn : IntKind.i64.wrap (vn.toNat : Int) = (vn.toNat : Int) := IntWalk.i64_in _ (by have := UInt8.toNat_lt vn; omega)
  have hm6 : ((vn.toNat : Int)).tmod 6 = (k : Int) := by rw [hk, Int.tmod_eq_emod_of_nonneg (by omega)]; omega
  clear hk
  obtain ⟨z, hz0⟩ : ∃ z : List UInt8, z = zeroS := ⟨_, rfl⟩
  have hz : ∀ W, (zeroValue 37).run Try.prog W = .ok (.agg (bva z)) W := fun _ => by rw [hz0]; kernel_rfl
  have HZ3 := Lib.hid (show z.length = 128 by rw [hz0]; exact zeroS_length)
  clear hz0
  obtain ⟨fa, hfa⟩ : ∃ fa : Nat → List UInt8, ∀ j, fa j = secN (la.getD j (0, 0)).1 (la.getD j (0, 0)).2 := ⟨fun j => secN (la.getD j (0, 0)).1 (la.getD j (0, 0)).2, fun _ => rfl⟩
  obtain ⟨fb, hfb⟩ : ∃ fb : Nat → List UInt8, ∀ j, fb j = secN (lb.getD j (0, 0)).1 (lb.getD j (0, 0)).2 := ⟨fun j => secN (lb.getD j (0, 0)).1 (lb.getD j (0, 0)).2, fun _ => rfl⟩
  have HFA := Lib.hid hfa
  have HFB := Lib.hid hfb
  have HA6 := Lib.hid hla
  have HB6 := Lib.hid hlb
  obtain ⟨w1, hw1, hX, hY, hB⟩ := two_blks w (prs la).toArray (prs lb).toArray 92
  have B1 := Lib.hid hB
  obtain ⟨qa, hqa⟩ : ∃ qa, qa = w.heap.size := ⟨_, rfl⟩
  obtain ⟨qb, hqb⟩ : ∃ qb, qb = w.heap.size + 1 := ⟨_, rfl⟩
  rw [← hqa] at hX
  rw [← hqb] at hY
  have X1 := Lib.hid hX
  have Y1 := Lib.hid hY
  clear hX hY hB hfa hfb hla hlb
  go_enter Try.func15, Try.ntmps15
  go_upto_region 1 with fail
  rw [← hw1, ← hqb, ← hqa]
  clear hw1 hqa hqb
  go_wp2_with fail
  refine (Mi.awake_any w1).mono ?_
  rintro e w2 ⟨rfl, bw⟩
  have B2 := Lib.hid (B1.out.trans (bw.mono B1.out.size))
  have X2 := Lib.hid (X1.out.below bw)
  have Y2 := Lib.hid (Y1.out.below bw)
  clear bw B1 X1 Y1
  go_wp2_with fail
  refine (live_new0 6).mono ?_
  rintro e w3 ⟨p1, g1, rfl, F3, h⟩
  have H3 := Lib.hid h
  clear h
  go_wp2_with fail
  refine (live_new0 6).mono ?_
  rintro e w4 ⟨p2, g2, rfl, F4, h⟩
  have HD4 := Lib.hid (ld_new H3.out h (see_new 6 (by omega)) (see_new 6 (by omega)))
  clear h H3
  go_wp2_with fail
  go_loopw [13] (fun i wr => ∃ (j : Nat) (d : (Two p1 g1 p2 g2).L.St) (F : Nat → Prop), j ≤ 6 ∧ i = .int .i64 j ∧ LD p1 g1 p2 g2 w2 wr d F (LJ fa j 6) (LJ fb j 6) false false (2 * j)) (fun i _ => 6 - (intOf i).toNat)
  case atStart => exact ⟨0, _, _, Nat.zero_le _, rfl, by rw [LJ_zero, LJ_zero]; exact HD4.out⟩
  case round =>
    clear HD4
    obtain ⟨j, d, F, hj, rfl, hld⟩ := hrel
    have H := Lib.hid hld
    have HJ := Lib.hid hj
    clear hld hj
    by_cases hlt : j < 6
    · have HLT := Lib.hid hlt
      have j0 : (0 : Int) ≤ (j : Int) := by omega
      have j1 : (j : Int) < 6 := by omega
      have wj : IntKind.i64.wrap ((j : Int) + 1) = ((j + 1 : Nat) : Int) := IntWalk.i64_in _ (by omega)
      have hja : j < la.length := by rw [HA6.out]; exact hlt
      have hjb : j < lb.length := by rw [HB6.out]; exact hlt
      obtain ⟨a, ha⟩ : ∃ a, a = la[j] := ⟨_, rfl⟩
      obtain ⟨b, hb⟩ : ∃ b, b = lb[j] := ⟨_, rfl⟩
      have hfa : fa j = secN a.1 a.2 := by rw [HFA.out, List.getD_eq_getElem?_getD, List.getElem?_eq_getElem hja, ha]; rfl
      have hfb : fb j = secN b.1 b.2 := by rw [HFB.out, List.getD_eq_getElem?_getD, List.getElem?_eq_getElem hjb, hb]; rfl
      have HCA := Lib.hid (show ∀ w', Below w2.heap.size w2 w' → w'.cell? ⟨qa, j * 2, none⟩ = some (.int .u8 (a.1.toNat : Int)) ∧ w'.cell? ⟨qa, j * 2 + 1, none⟩ = some (.int .u8 (a.2.toNat : Int)) from fun w' hw => by
        rw [(X2.out.below hw).cell, (X2.out.below hw).cell, ha, Nat.mul_comm j 2]; exact prs_get hja)
      have HCB := Lib.hid (show ∀ w', Below w2.heap.size w2 w' → w'.cell? ⟨qb, j * 2, none⟩ = some (.int .u8 (b.1.toNat : Int)) ∧ w'.cell? ⟨qb, j * 2 + 1, none⟩ = some (.int .u8 (b.2.toNat : Int)) from fun w' hw => by
        rw [(Y2.out.below hw).cell, (Y2.out.below hw).cell, hb, Nat.mul_comm j 2]; exact prs_get hjb)
      obtain ⟨y, hy⟩ : ∃ y, y = fa j := ⟨_, rfl⟩
      obtain ⟨v, hv⟩ : ∃ v, v = fb j := ⟨_, rfl⟩
      have HY3 := Lib.hid (show y.length = 128 by rw [hy, hfa]; exact secN_length _ _)
      have HV3 := Lib.hid (show v.length = 128 by rw [hv, hfb]; exact secN_length _ _)
      have HSA := Lib.hid (show ∀ w, Calls Try.prog 49 #[.int .u8 (a.1.toNat : Int), .int .u8 (a.2.toNat : Int)] w (RetB (.agg (bva y)) w) from fun w => by rw [hy, hfa]; exact sector9_any w a.1 a.2)
      have HSB2 := Lib.hid (show ∀ w, Calls Try.prog 49 #[.int .u8 (b.1.toNat : Int), .int .u8 (b.2.toNat : Int)] w (RetB (.agg (bva v)) w) from fun w => by rw [hv, hfb]; exact sector9_any w b.1 b.2)
      have HLA := Lib.hid (show (LJ fa j 6).set j y = LJ fa (j + 1) 6 by rw [hy]; exact LJ_set hlt)
      have HLB := Lib.hid (show (LJ fb j 6).set j v = LJ fb (j + 1) 6 by rw [hv]; exact LJ_set hlt)
      clear hlt hja hjb ha hb hfa hfb hy hv
      go_upto_region 7 with fail
      refine wp_region_late (S0 := fun w' => Below w2.heap.size w2 w') (S := fun w' => Below wr.heap.size wr w') (W := [11]) (by kernel_rfl) ?_
      have HSB := Lib.hid (show Below wr.heap.size wr wr.drew from (Below.refl _ _).drew)
      have H0 := Lib.hid (show Below w2.heap.size w2 wr.drew from H.out.live.bel.drew)
      refine wpAnyL_take0 (i := 0) (v := ?vLP0) rfl (by kernel_rfl) (by kernel_rfl) (by kernel_rfl) (fun _ _ _ h => h) (by rfl) (Or.inl ⟨by rfl, fun w' hw' => ?yLP0⟩) H0.out (.inr HSB.out) ?_
      case yLP0 => (go_simp; try with_reducible rfl)
      refine wpAnyL_take0 (i := 1) (v := ?vLP1) rfl (by kernel_rfl) (by kernel_rfl) (by kernel_rfl) (fun _ _ _ h => h) (by rfl) (Or.inl ⟨by rfl, fun w' hw' => ?yLP1⟩) H0.out (.inr HSB.out) ?_
      case yLP1 => (go_simp; try with_reducible rfl)
      refine wpAnyL_take0 (i := 2) (v := ?vLP2) rfl (by kernel_rfl) (by kernel_rfl) (by kernel_rfl) (fun _ _ _ h => h) (by rfl) (Or.inl ⟨by rfl, fun w' hw' => ?yLP2⟩) H0.out (.inr HSB.out) ?_
      case yLP2 => (go_simp; try with_reducible rfl)
      try simp only [List.getElem_toArray, List.getElem_cons_succ, List.getElem_cons_zero, Act.put, List.setIfInBounds_toArray, List.set_cons_zero, List.set_cons_succ]
      refine wpAnyL_take0 (i := 3) (v := ?vLP3) rfl (by kernel_rfl) (by kernel_rfl) (by kernel_rfl) (fun _ _ _ h => h) (by rfl) (Or.inl ⟨by rfl, fun w' hw' => ?yLP3⟩) H0.out (.inr HSB.out) ?_
      case yLP3 => (go_simp; try with_reducible rfl)
      refine wpAnyL_take0 (i := 4) (v := ?vLP4) rfl (by kernel_rfl) (by kernel_rfl) (by kernel_rfl) (fun _ _ _ h => h) (by rfl) (Or.inl ⟨by rfl, fun w' hw' => ?yLP4⟩) H0.out (.inr HSB.out) ?_
      case yLP4 => (go_simp; try with_reducible rfl)
      refine wpAnyL_take0 (i := 5) (v := .int .u8 (a.1.toNat : Int)) rfl (by kernel_rfl) (by kernel_rfl) (by kernel_rfl) (fun _ _ _ h => h) (by rfl) (Or.inl ⟨by rfl, fun w' hw' => ?yLP5⟩) H0.out (.inr HSB.out) ?_
      case yLP5 => (have hc := (HCA.out w' hw').1; go_simp; try with_reducible rfl)
      try simp only [List.getElem_toArray, List.getElem_cons_succ, List.getElem_cons_zero, Act.put, List.setIfInBounds_toArray, List.set_cons_zero, List.set_cons_succ]
      refine wpAnyL_take0 (i := 6) (v := ?vLP6) rfl (by kernel_rfl) (by kernel_rfl) (by kernel_rfl) (fun _ _ _ h => h) (by rfl) (Or.inl ⟨by rfl, fun w' hw' => ?yLP6⟩) H0.out (.inr HSB.out) ?_
      case yLP6 => (go_simp; try with_reducible rfl)
      refine wpAnyL_take0 (i := 7) (v := ?vLP7) rfl (by kernel_rfl) (by kernel_rfl) (by kernel_rfl) (fun _ _ _ h => h) (by rfl) (Or.inl ⟨by rfl, fun w' hw' => ?yLP7⟩) H0.out (.inr HSB.out) ?_
      case yLP7 => (go_simp; try with_reducible rfl)
      refine wpAnyL_take0 (i := 8) (v := ?vLP8) rfl (by kernel_rfl) (by kernel_rfl) (by kernel_rfl) (fun _ _ _ h => h) (by rfl) (Or.inl ⟨by rfl, fun w' hw' => ?yLP8⟩) H0.out (.inr HSB.out) ?_
      case yLP8 => (go_simp; try with_reducible rfl)
      try simp only [List.getElem_toArray, List.getElem_cons_succ, List.getElem_cons_zero, Act.put, List.setIfInBounds_toArray, List.set_cons_zero, List.set_cons_succ]
      refine wpAnyL_take0 (i := 9) (v := .int .u8 (a.2.toNat : Int)) rfl (by kernel_rfl) (by kernel_rfl) (by kernel_rfl) (fun _ _ _ h => h) (by rfl) (Or.inl ⟨by rfl, fun w' hw' => ?yLP9⟩) H0.out (.inr HSB.out) ?_
      case yLP9 => (have hc := (HCA.out w' hw').2; go_simp; try with_reducible rfl)
      try simp only [List.getElem_toArray, List.getElem_cons_succ, List.getElem_cons_zero, Act.put, List.setIfInBounds_toArray, List.set_cons_zero, List.set_cons_succ]
      refine wpAnyL_ready (rs := [10]) (by kernel_rfl) (by simp) (AllReadyL.cons rfl (fun K hK => ?_) AllReadyL.nil)
      go_simp
      refine (HSA.out _).mono ?_
      rintro e v1 ⟨rfl, bw⟩
      go_simp
      have G0 := Lib.hid (HSB.out.trans (bw.mono HSB.out.size))
      have G1 := Lib.hid (H0.out.trans (bw.mono H0.out.size))
      refine hK.out _ _ ⟨G1.out, .inr G0.out⟩ ?_
      clear hK K H0 HSB bw
      try simp only [List.getElem_toArray, List.getElem_cons_succ, List.getElem_cons_zero, Act.put, List.setIfInBounds_toArray, List.set_cons_zero, List.set_cons_succ]
      refine wpAnyL_ready (rs := [11]) (by kernel_rfl) (by simp) (AllReadyL.cons rfl (fun K hK => ?_) AllReadyL.nil)
      go_simp
      refine (ld2_write0 (H.out.below G0.out) j (by rw [LJ_length (by have := HLT.out; omega)]; exact HLT.out) y HY3.out (by have := HLT.out; omega)).mono ?_
      rintro e wP ⟨rfl, dP, FP, h, hm⟩
      rw [HLA.out] at h
      have HP := Lib.hid h
      go_simp
      refine hK.out _ _ ⟨HP.out.live.bel, .inl ⟨11, by simp, by rfl⟩⟩ ?_
      clear hK K h hm H G0 G1
      try simp only [List.getElem_toArray, List.getElem_cons_succ, List.getElem_cons_zero, Act.put, List.setIfInBounds_toArray, List.set_cons_zero, List.set_cons_succ]
      refine wpAnyL_done (by kernel_rfl) ?_ _
      go_wp2_with fail
      refine wp_region_late (S0 := fun w' => Below w2.heap.size w2 w') (S := fun w' => Below wP.heap.size wP w') (W := [11]) (by kernel_rfl) ?_
      have HSB := Lib.hid (show Below wP.heap.size wP wP.drew from (Below.refl _ _).drew)
      have H0 := Lib.hid (show Below w2.heap.size w2 wP.drew from HP.out.live.bel.drew)
      refine wpAnyL_take0 (i := 0) (v := ?vLQ0) rfl (by kernel_rfl) (by kernel_rfl) (by kernel_rfl) (fun _ _ _ h => h) (by rfl) (Or.inl ⟨by rfl, fun w' hw' => ?yLQ0⟩) H0.out (.inr HSB.out) ?_
      case yLQ0 => (go_simp; try with_reducible rfl)
      refine wpAnyL_take0 (i := 1) (v := ?vLQ1) rfl (by kernel_rfl) (by kernel_rfl) (by kernel_rfl) (fun _ _ _ h => h) (by rfl) (Or.inl ⟨by rfl, fun w' hw' => ?yLQ1⟩) H0.out (.inr HSB.out) ?_
      case yLQ1 => (go_simp; try with_reducible rfl)
      refine wpAnyL_take0 (i := 2) (v := ?vLQ2) rfl (by kernel_rfl) (by kernel_rfl) (by kernel_rfl) (fun _ _ _ h => h) (by rfl) (Or.inl ⟨by rfl, fun w' hw' => ?yLQ2⟩) H0.out (.inr HSB.out) ?_
      case yLQ2 => (go_simp; try with_reducible rfl)
      try simp only [List.getElem_toArray, List.getElem_cons_succ, List.getElem_cons_zero, Act.put, List.setIfInBounds_toArray, List.set_cons_zero, List.set_cons_succ]
      refine wpAnyL_take0 (i := 3) (v := ?vLQ3) rfl (by kernel_rfl) (by kernel_rfl) (by kernel_rfl) (fun _ _ _ h => h) (by rfl) (Or.inl ⟨by rfl, fun w' hw' => ?yLQ3⟩) H0.out (.inr HSB.out) ?_
      case yLQ3 => (go_simp; try with_reducible rfl)
      refine wpAnyL_take0 (i := 4) (v := ?vLQ4) rfl (by kernel_rfl) (by kernel_rfl) (by kernel_rfl) (fun _ _ _ h => h) (by rfl) (Or.inl ⟨by rfl, fun w' hw' => ?yLQ4⟩) H0.out (.inr HSB.out) ?_
      case yLQ4 => (go_simp; try with_reducible rfl)
      refine wpAnyL_take0 (i := 5) (v := .int .u8 (b.1.toNat : Int)) rfl (by kernel_rfl) (by kernel_rfl) (by kernel_rfl) (fun _ _ _ h => h) (by rfl) (Or.inl ⟨by rfl, fun w' hw' => ?yLQ5⟩) H0.out (.inr HSB.out) ?_
      case yLQ5 => (have hc := (HCB.out w' hw').1; go_simp; try with_reducible rfl)
      try simp only [List.getElem_toArray, List.getElem_cons_succ, List.getElem_cons_zero, Act.put, List.setIfInBounds_toArray, List.set_cons_zero, List.set_cons_succ]
      refine wpAnyL_take0 (i := 6) (v := ?vLQ6) rfl (by kernel_rfl) (by kernel_rfl) (by kernel_rfl) (fun _ _ _ h => h) (by rfl) (Or.inl ⟨by rfl, fun w' hw' => ?yLQ6⟩) H0.out (.inr HSB.out) ?_
      case yLQ6 => (go_simp; try with_reducible rfl)
      refine wpAnyL_take0 (i := 7) (v := ?vLQ7) rfl (by kernel_rfl) (by kernel_rfl) (by kernel_rfl) (fun _ _ _ h => h) (by rfl) (Or.inl ⟨by rfl, fun w' hw' => ?yLQ7⟩) H0.out (.inr HSB.out) ?_
      case yLQ7 => (go_simp; try with_reducible rfl)
      refine wpAnyL_take0 (i := 8) (v := ?vLQ8) rfl (by kernel_rfl) (by kernel_rfl) (by kernel_rfl) (fun _ _ _ h => h) (by rfl) (Or.inl ⟨by rfl, fun w' hw' => ?yLQ8⟩) H0.out (.inr HSB.out) ?_
      case yLQ8 => (go_simp; try with_reducible rfl)
      try simp only [List.getElem_toArray, List.getElem_cons_succ, List.getElem_cons_zero, Act.put, List.setIfInBounds_toArray, List.set_cons_zero, List.set_cons_succ]
      refine wpAnyL_take0 (i := 9) (v := .int .u8 (b.2.toNat : Int)) rfl (by kernel_rfl) (by kernel_rfl) (by kernel_rfl) (fun _ _ _ h => h) (by rfl) (Or.inl ⟨by rfl, fun w' hw' => ?yLQ9⟩) H0.out (.inr HSB.out) ?_
      case yLQ9 => (have hc := (HCB.out w' hw').2; go_simp; try with_reducible rfl)
      try simp only [List.getElem_toArray, List.getElem_cons_succ, List.getElem_cons_zero, Act.put, List.setIfInBounds_toArray, List.set_cons_zero, List.set_cons_succ]
      refine wpAnyL_ready (rs := [10]) (by kernel_rfl) (by simp) (AllReadyL.cons rfl (fun K hK => ?_) AllReadyL.nil)
      go_simp
      refine (HSB2.out _).mono ?_
      rintro e v1 ⟨rfl, bw⟩
      go_simp
      have G0 := Lib.hid (HSB.out.trans (bw.mono HSB.out.size))
      have G1 := Lib.hid (H0.out.trans (bw.mono H0.out.size))
      refine hK.out _ _ ⟨G1.out, .inr G0.out⟩ ?_
      clear hK K H0 HSB bw
      try simp only [List.getElem_toArray, List.getElem_cons_succ, List.getElem_cons_zero, Act.put, List.setIfInBounds_toArray, List.set_cons_zero, List.set_cons_succ]
      refine wpAnyL_ready (rs := [11]) (by kernel_rfl) (by simp) (AllReadyL.cons rfl (fun K hK => ?_) AllReadyL.nil)
      go_simp
      refine (ld2_write1 (HP.out.below G0.out) j (by rw [LJ_length (by have := HLT.out; omega)]; exact HLT.out) v HV3.out (by have := HLT.out; omega)).mono ?_
      rintro e wQ ⟨rfl, dQ, FQ, h, hm⟩
      rw [HLB.out] at h
      have HQ := Lib.hid h
      go_simp
      refine hK.out _ _ ⟨HQ.out.live.bel, .inl ⟨11, by simp, by rfl⟩⟩ ?_
      clear hK K h hm HP G0 G1
      try simp only [List.getElem_toArray, List.getElem_cons_succ, List.getElem_cons_zero, Act.put, List.setIfInBounds_toArray, List.set_cons_zero, List.set_cons_succ]
      refine wpAnyL_done (by kernel_rfl) ?_ _
      go_wp2_with fail
      go_roundw
      case rel => exact ⟨j + 1, dQ, FQ, HLT.out, by go_num, HQ.out⟩
      case measure => (have := HLT.out; simp [intOf]; omega)
    · have hj6 : j = 6 := by have := HJ.out; omega
      subst hj6
      clear hlt HJ
      go_wp2_with fail
      refine (ld2_flush0 H.out).mono ?_
      rintro e wf1 ⟨rfl, df1, Ff1, h, hs, hm⟩
      have HF1 := Lib.hid h
      have HS1 := Lib.hid hs
      clear h hs hm H
      go_wp2_with fail
      refine (ld2_flush1 HF1.out HS1.out).mono ?_
      rintro e wf2 ⟨rfl, df2, Ff2, h, hm⟩
      have HF2 := Lib.hid h
      clear h hm HF1 HS1
      obtain ⟨LA, hLA⟩ : ∃ LA, LA = LJ fa 6 6 := ⟨_, rfl⟩
      obtain ⟨LB, hLB⟩ : ∃ LB, LB = LJ fb 6 6 := ⟨_, rfl⟩
      have HH := HF2.out
      rw [← hLA, ← hLB] at HH
      have HF3 := Lib.hid HH
      have HLA6 := Lib.hid (show LA.length = 6 by rw [hLA]; exact LJ_length (Nat.le_refl _))
      have HLB6 := Lib.hid (show LB.length = 6 by rw [hLB]; exact LJ_length (Nat.le_refl _))
      have HGA := Lib.hid (show ∀ q, q < 6 → LA.getD q zeroS = fa q from fun q hq => by rw [hLA]; exact LJ_get hq)
      have HGB := Lib.hid (show ∀ q, q < 6 → LB.getD q zeroS = fb q from fun q hq => by rw [hLB]; exact LJ_get hq)
      have HA8 := Lib.hid (show ∀ x ∈ LA, x.length = 128 from fun x hx => by
        rw [hLA, LJ, Nat.sub_self, List.replicate_zero, List.append_nil] at hx
        obtain ⟨q, _, rfl⟩ := List.mem_map.1 hx
        rw [HFA.out]; exact secN_length _ _)
      have HB8 := Lib.hid (show ∀ x ∈ LB, x.length = 128 from fun x hx => by
        rw [hLB, LJ, Nat.sub_self, List.replicate_zero, List.append_nil] at hx
        obtain ⟨q, _, rfl⟩ := List.mem_map.1 hx
        rw [HFB.out]; exact secN_length _ _)
      clear HH HF2 hLA hLB
      obtain ⟨s, hs⟩ : ∃ s, s = secN vx vy := ⟨_, rfl⟩
      have HS3 := Lib.hid (show s.length = 128 by rw [hs]; exact secN_length _ _)
      have HSY := Lib.hid (show ∀ w, Calls Try.prog 49 #[.int .u8 (vx.toNat : Int), .int .u8 (vy.toNat : Int)] w (RetB (.agg (bva s)) w) from fun w => by rw [hs]; exact sector9_any w vx vy)
      have HIS := Lib.hid (show (Try.prog.info? 37).map (·.size) = some (bva s).size by rw [bva_size, HS3.out]; exact info_sec)
      clear hs
      go_wp2_with fail
      refine (lm_new (G := gG) (fun _ _ _ _ _ _ => trivial) HF3.out (n := 6) HLA6.out HLB6.out).mono ?_
      rintro e w71 ⟨g, s71, F71, rfl, h, hn, hb⟩
      have H71 := Lib.hid (show LM p1 g1 p2 g2 gG g w2 w71 s71 F71 (startM LA LB 6) 0 from h)
      clear h hn hb HF3
      go_wp2_with fail
      have hc := HSY.out w71
      refine hc.mono ?_
      clear hc
      rintro e w72 ⟨rfl, bw⟩
      have H72 := Lib.hid (H71.out.below bw)
      clear bw H71
      go_wp2_with (show wpList _ _ _ ({ dst := none, op := .store 37 (.tmp 16) (.tmp 66), type := _, pos := _, after := _, guard := _ } :: _) _ _; apply Classical.byContradiction; intro hneg)
      refine hneg ?_
      clear hneg
      refine wpList_store_row rfl 37 (.tmp 16) (.tmp 66) rfl w72.heap.size (bva s) rfl rfl 37 (bva z) (heap_alloc_new _ _) HIS.out (by rw [bva_size, bva_size, HS3.out, HZ3.out]) (bva_one _) ?_
      obtain ⟨w73, hw73⟩ : ∃ w73, w73 = (w72.alloc (.cells (bva z) 37)).setRow w72.heap.size (bva s) := ⟨_, rfl⟩
      have bw : Below w72.heap.size w72 w73 := by rw [hw73]; exact below_setRow ((Below.refl _ _).alloc (Nat.le_refl _) _) (Nat.le_refl _) _
      have hbx : Blk w73 w72.heap.size (bva s) 37 := by rw [hw73]; exact setRow_heap _ _ _ _ _ _ (heap_alloc_new _ _)
      rw [← hw73]
      clear hw73
      obtain ⟨b73, hb73⟩ : ∃ b73, b73 = w72.heap.size := ⟨_, rfl⟩
      rw [← hb73] at hbx
      rw [← hb73]
      have S73 := Lib.hid (show Bx w2 w73 F71 b73 (bva s) 37 from ⟨hbx, by rw [hb73]; exact H72.out.live.bel.size, fun hf => by have := (ML (Two p1 g1 p2 g2) gG g).lt H72.out.live.at_ _ hf; omega⟩)
      clear hb73 hbx
      have H73 := Lib.hid (H72.out.below bw)
      clear bw H72
      go_wp2_with (refine wpList_load_row rfl 37 (.tmp 16) rfl b73 rfl 37 (bva s) (0, 0) _ S73.out.1 Try.underlying37 rfl HIS.out ?_)
      have hc := lm_choose H73.out (k : Int) s HS3.out (by omega)
      rw [start_write2 HK.out s] at hc
      refine hc.mono ?_
      clear hc
      rintro e w74 ⟨rfl, s74, F74, h, hm74⟩
      have H74 := Lib.hid (show LM p1 g1 p2 g2 gG g w2 w74 s74 F74 (startM (LA.set k s) (LB.set k s) 6) (0 + 2) from h)
      have S74 := Lib.hid (S73.out.step hm74)
      clear h hm74 H73 S73
      go_wp2_with fail
      have hc := lm_flush H74.out
      rw [if_neg (by show ¬ (false && false) = true; simp)] at hc
      refine hc.mono ?_
      clear hc
      rintro e w75 ⟨rfl, s75, F75, h, hm75⟩
      have H75 := Lib.hid (show LM p1 g1 p2 g2 gG g w2 w75 s75 F75 (startM (LA.set k s) (LB.set k s) 6) 0 from h)
      have S75 := Lib.hid (S74.out.step hm75)
      clear h hm75 H74 S74
      go_wp2_with fail
      have hc := lm_dump0 H75.out
      rw [start_len] at hc
      refine hc.mono ?_
      clear hc
      rintro e w76 ⟨AU, cu, rfl, ho, bw⟩
      have RAU76 := Lib.hid (show Rd w76.heap.size w76 AU (svs (LA.set k s)) from Rd.ownN ho)
      clear ho
      have H76 := Lib.hid (H75.out.below bw)
      have S76 := Lib.hid (S75.out.below bw)
      clear bw H75 S75
      go_wp2_with fail
      have hc := lm_dump1 H76.out
      rw [start_len] at hc
      refine hc.mono ?_
      clear hc
      rintro e w77 ⟨AV, cv, rfl, ho, bw⟩
      have RAV77 := Lib.hid (show Rd w77.heap.size w77 AV (svs (LB.set k s)) from Rd.ownN ho)
      clear ho
      have RAU77 := Lib.hid ((RAU76.out.below bw).more bw.size)
      clear RAU76
      have H77 := Lib.hid (H76.out.below bw)
      have S77 := Lib.hid (S76.out.below bw)
      clear bw H76 S76
      have HU8 := Lib.hid (show ∀ x ∈ LA.set k s, x.length = 128 from fun x hx => (List.mem_or_eq_of_mem_set hx).elim (HA8.out x) (fun e => by rw [e]; exact HS3.out))
      have HU6 := Lib.hid (show (LA.set k s).length = 6 by rw [List.length_set]; exact HLA6.out)
      have HKU := Lib.hid (show ∃ h, (LA.set k s)[k]'h = s from ⟨by rw [HU6.out]; exact HK.out, List.getElem_set_self _⟩)
      have HIU := Lib.hid (show ∀ q, q < 6 → q ≠ k → ∃ h, (LA.set k s)[q]'h = fa q from fun q hq hne => ⟨by rw [HU6.out]; exact hq, by
        rw [List.getElem_set_ne (Ne.symm hne), ← HGA.out q hq, List.getD_eq_getElem?_getD, List.getElem?_eq_getElem (by rw [HLA6.out]; exact hq)]; rfl⟩)
      have HV8 := Lib.hid (show ∀ x ∈ LB.set k s, x.length = 128 from fun x hx => (List.mem_or_eq_of_mem_set hx).elim (HB8.out x) (fun e => by rw [e]; exact HS3.out))
      have HV6 := Lib.hid (show (LB.set k s).length = 6 by rw [List.length_set]; exact HLB6.out)
      have HKV := Lib.hid (show ∃ h, (LB.set k s)[k]'h = s from ⟨by rw [HV6.out]; exact HK.out, List.getElem_set_self _⟩)
      have HIV := Lib.hid (show ∀ q, q < 6 → q ≠ k → ∃ h, (LB.set k s)[q]'h = fb q from fun q hq hne => ⟨by rw [HV6.out]; exact hq, by
        rw [List.getElem_set_ne (Ne.symm hne), ← HGB.out q hq, List.getD_eq_getElem?_getD, List.getElem?_eq_getElem (by rw [HLB6.out]; exact hq)]; rfl⟩)
      obtain ⟨au, hau, CU⟩ : ∃ ad, AU = some ad ∧ ∀ w', Below w77.heap.size w77 w' → ∀ jj v, (bv s)[jj]? = some v → w'.cell? ((ad.add (k * 128)).add jj) = some v := by
        obtain ⟨hq, he⟩ := HKU.out
        obtain ⟨ad, hA, _, _⟩ := rd_sec RAU77.out HU8.out hq
        refine ⟨ad, hA, fun w' hb jj v hv => ?_⟩
        obtain ⟨ad', hA', _, hc'⟩ := rd_sec (RAU77.out.below hb) HU8.out hq
        rw [hA] at hA'; injection hA' with hA'; subst hA'
        exact hc' jj v (by rw [he]; exact hv)
      have HCU := Lib.hid CU
      clear CU
      obtain ⟨av, hav, CV⟩ : ∃ ad, AV = some ad ∧ ∀ w', Below w77.heap.size w77 w' → ∀ jj v, (bv s)[jj]? = some v → w'.cell? ((ad.add (k * 128)).add jj) = some v := by
        obtain ⟨hq, he⟩ := HKV.out
        obtain ⟨ad, hA, _, _⟩ := rd_sec RAV77.out HV8.out hq
        refine ⟨ad, hA, fun w' hb jj v hv => ?_⟩
        obtain ⟨ad', hA', _, hc'⟩ := rd_sec (RAV77.out.below hb) HV8.out hq
        rw [hA] at hA'; injection hA' with hA'; subst hA'
        exact hc' jj v (by rw [he]; exact hv)
      have HCV := Lib.hid CV
      clear CV
      subst hau
      subst hav
      have HISL := Lib.hid (show (Try.prog.info? 37).map (·.size) = some (bv s).length by rw [bv_length, HS3.out]; exact info_sec)
      have heq := eq_sec s s HS3.out HS3.out
      rw [decide_eq_true (rfl : s = s)] at heq
      have k6 : (k : Int) < 6 := by have := HK.out; omega
      go_upto_region 16 with fail
      refine wp_region_held_drew (S := fun w' => Below w77.heap.size w77 w') (by kernel_rfl) (Below.refl _ _).drew (fun hh => ?_)
      have HH := Lib.hid hh
      clear hh
      refine wpAnyH_take (i := 0) (v := ?vB0) rfl (by kernel_rfl) (by kernel_rfl) (by kernel_rfl) (fun _ _ _ h => h) (Or.inl ⟨by rfl, fun w' _ => ?yB0⟩) HH.out ?_
      case yB0 => (go_simp; try with_reducible rfl)
      refine wpAnyH_take (i := 1) (v := ?vB1) rfl (by kernel_rfl) (by kernel_rfl) (by kernel_rfl) (fun _ _ _ h => h) (Or.inl ⟨by rfl, fun w' _ => ?yB1⟩) HH.out ?_
      case yB1 => (go_simp; try with_reducible rfl)
      try simp only [List.getElem_toArray, List.getElem_cons_succ, List.getElem_cons_zero, Act.put, List.setIfInBounds_toArray, List.set_cons_zero, List.set_cons_succ]
      refine wpAnyH_take (i := 2) (v := ?vB2) rfl (by kernel_rfl) (by kernel_rfl) (by kernel_rfl) (fun _ _ _ h => h) (Or.inl ⟨by rfl, fun w' _ => ?yB2⟩) HH.out ?_
      case yB2 => (go_simp; try with_reducible rfl)
      try simp only [List.getElem_toArray, List.getElem_cons_succ, List.getElem_cons_zero, Act.put, List.setIfInBounds_toArray, List.set_cons_zero, List.set_cons_succ]
      refine wpAnyH_take (i := 3) (v := .agg (bva s)) rfl (by kernel_rfl) (by kernel_rfl) (by kernel_rfl) (fun _ _ _ h => h) (Or.inl ⟨by rfl, fun w' hw' => ?yB3⟩) HH.out ?_
      case yB3 => exact exec_load_at 37 (.tmp 83) rfl (au.add (k * 128)) rfl (HCU.out w' hw') Try.underlying37 rfl HISL.out
      try simp only [List.getElem_toArray, List.getElem_cons_succ, List.getElem_cons_zero, Act.put, List.setIfInBounds_toArray, List.set_cons_zero, List.set_cons_succ]
      refine wpAnyH_take (i := 4) (v := .agg (bva s)) rfl (by kernel_rfl) (by kernel_rfl) (by kernel_rfl) (fun _ _ _ h => h) (Or.inl ⟨by rfl, fun w' hw' => ?yB4⟩) HH.out ?_
      case yB4 => exact exec_load 37 (.tmp 16) rfl rfl (S77.out.1.below hw') Try.underlying37 rfl HIS.out
      try simp only [List.getElem_toArray, List.getElem_cons_succ, List.getElem_cons_zero, Act.put, List.setIfInBounds_toArray, List.set_cons_zero, List.set_cons_succ]
      refine wpAnyH_take (i := 5) (v := ?vB5) rfl (by kernel_rfl) (by kernel_rfl) (by kernel_rfl) (fun _ _ _ h => h) (Or.inl ⟨by rfl, fun w' _ => ?yB5⟩) HH.out ?_
      case yB5 => (go_simp; try with_reducible rfl)
      refine wpAnyH_take (i := 6) (v := ?vB6) rfl (by kernel_rfl) (by kernel_rfl) (by kernel_rfl) (fun _ _ _ h => h) (Or.inl ⟨by rfl, fun w' _ => ?yB6⟩) HH.out ?_
      case yB6 => (go_simp; try with_reducible rfl)
      try simp only [List.getElem_toArray, List.getElem_cons_succ, List.getElem_cons_zero, Act.put, List.setIfInBounds_toArray, List.set_cons_zero, List.set_cons_succ]
      refine wpAnyH_take (i := 7) (v := ?vB7) rfl (by kernel_rfl) (by kernel_rfl) (by kernel_rfl) (fun _ _ _ h => h) (Or.inl ⟨by rfl, fun w' _ => ?yB7⟩) HH.out ?_
      case yB7 => (go_simp; try with_reducible rfl)
      try simp only [List.getElem_toArray, List.getElem_cons_succ, List.getElem_cons_zero, Act.put, List.setIfInBounds_toArray, List.set_cons_zero, List.set_cons_succ]
      refine wpAnyH_take (i := 8) (v := ?vB8) rfl (by kernel_rfl) (by kernel_rfl) (by kernel_rfl) (fun _ _ _ h => h) (Or.inl ⟨by rfl, fun w' _ => ?yB8⟩) HH.out ?_
      case yB8 => (go_simp; try with_reducible rfl)
      try simp only [List.getElem_toArray, List.getElem_cons_succ, List.getElem_cons_zero, Act.put, List.setIfInBounds_toArray, List.set_cons_zero, List.set_cons_succ]
      refine wpAnyH_take (i := 9) (v := ?vB9) rfl (by kernel_rfl) (by kernel_rfl) (by kernel_rfl) (fun _ _ _ h => h) (Or.inl ⟨by rfl, fun w' _ => ?yB9⟩) HH.out ?_
      case yB9 => (go_simp; try with_reducible rfl)
      try simp only [List.getElem_toArray, List.getElem_cons_succ, List.getElem_cons_zero, Act.put, List.setIfInBounds_toArray, List.set_cons_zero, List.set_cons_succ]
      refine wpAnyH_take (i := 10) (v := .agg (bva s)) rfl (by kernel_rfl) (by kernel_rfl) (by kernel_rfl) (fun _ _ _ h => h) (Or.inl ⟨by rfl, fun w' hw' => ?yB10⟩) HH.out ?_
      case yB10 => exact exec_load_at 37 (.tmp 90) rfl (av.add (k * 128)) rfl (HCV.out w' hw') Try.underlying37 rfl HISL.out
      try simp only [List.getElem_toArray, List.getElem_cons_succ, List.getElem_cons_zero, Act.put, List.setIfInBounds_toArray, List.set_cons_zero, List.set_cons_succ]
      try simp only [List.getElem_toArray, List.getElem_cons_succ, List.getElem_cons_zero, Act.put, List.setIfInBounds_toArray, List.set_cons_zero, List.set_cons_succ]
      refine wpAnyH_take (i := 11) (v := .agg (bva s)) rfl (by kernel_rfl) (by kernel_rfl) (by kernel_rfl) (fun _ _ _ h => h) (Or.inl ⟨by rfl, fun w' hw' => ?yB11⟩) HH.out ?_
      case yB11 => exact exec_load 37 (.tmp 16) rfl rfl (S77.out.1.below hw') Try.underlying37 rfl HIS.out
      try simp only [List.getElem_toArray, List.getElem_cons_succ, List.getElem_cons_zero, Act.put, List.setIfInBounds_toArray, List.set_cons_zero, List.set_cons_succ]
      refine wpAnyH_take (i := 12) (v := ?vB12) rfl (by kernel_rfl) (by kernel_rfl) (by kernel_rfl) (fun _ _ _ h => h) (Or.inl ⟨by rfl, fun w' _ => ?yB12⟩) HH.out ?_
      case yB12 => (go_simp; try with_reducible rfl)
      try simp only [List.getElem_toArray, List.getElem_cons_succ, List.getElem_cons_zero, Act.put, List.setIfInBounds_toArray, List.set_cons_zero, List.set_cons_succ]
      refine wpAnyH_take (i := 13) (v := ?vB13) rfl (by kernel_rfl) (by kernel_rfl) (by kernel_rfl) (fun _ _ _ h => h) (Or.inl ⟨by rfl, fun w' _ => ?yB13⟩) HH.out ?_
      case yB13 => (go_simp; try with_reducible rfl)
      try simp only [List.getElem_toArray, List.getElem_cons_succ, List.getElem_cons_zero, Act.put, List.setIfInBounds_toArray, List.set_cons_zero, List.set_cons_succ]
      refine wpAnyH_done (by kernel_rfl) ?_ _
      go_wp2_with fail
      go_loopw [19] (fun i wr => ∃ (j : Nat), j ≤ 6 ∧ i = .int .i64 j ∧ Below w77.heap.size w77 wr) (fun i _ => 6 - (intOf i).toNat)
      case atStart => exact ⟨0, Nat.zero_le _, rfl, HH.out⟩
      case round =>
        clear HH heq
        obtain ⟨j, hj, rfl, hld⟩ := hrel
        have B3 := Lib.hid hld
        have HJ := Lib.hid hj
        clear hld hj
        by_cases hlt : j < 6
        · have HLT := Lib.hid hlt
          have j0 : (0 : Int) ≤ (j : Int) := by omega
          have j1 : (j : Int) < 6 := by omega
          have wj : IntKind.i64.wrap ((j : Int) + 1) = ((j + 1 : Nat) : Int) := IntWalk.i64_in _ (by omega)
          by_cases hjk : j = k
          · have jk : (j : Int) = (k : Int) := by omega
            go_upto_region 21 with fail
            refine wp_region_held_drew (S := fun w' => True) (by kernel_rfl) trivial (fun hh => ?_)
            have HH := Lib.hid hh
            clear hh
            refine wpAnyH_take (i := 0) (v := ?vC0) rfl (by kernel_rfl) (by kernel_rfl) (by kernel_rfl) (fun _ _ _ h => h) (Or.inl ⟨by rfl, fun w' _ => ?yC0⟩) HH.out ?_
            case yC0 => (go_simp; try with_reducible rfl)
            refine wpAnyH_take (i := 1) (v := ?vC1) rfl (by kernel_rfl) (by kernel_rfl) (by kernel_rfl) (fun _ _ _ h => h) (Or.inl ⟨by rfl, fun w' _ => ?yC1⟩) HH.out ?_
            case yC1 => (go_simp; try with_reducible rfl)
            try simp only [List.getElem_toArray, List.getElem_cons_succ, List.getElem_cons_zero, Act.put, List.setIfInBounds_toArray, List.set_cons_zero, List.set_cons_succ]
            refine wpAnyH_take (i := 2) (v := ?vC2) rfl (by kernel_rfl) (by kernel_rfl) (by kernel_rfl) (fun _ _ _ h => h) (Or.inl ⟨by rfl, fun w' _ => ?yC2⟩) HH.out ?_
            case yC2 => (go_simp; try with_reducible rfl)
            refine wpAnyH_take (i := 3) (v := ?vC3) rfl (by kernel_rfl) (by kernel_rfl) (by kernel_rfl) (fun _ _ _ h => h) (Or.inl ⟨by rfl, fun w' _ => ?yC3⟩) HH.out ?_
            case yC3 => (go_simp; try with_reducible rfl)
            refine wpAnyH_take (i := 4) (v := undef) rfl (by kernel_rfl) (by kernel_rfl) (by kernel_rfl) (fun _ _ _ h => h) (Or.inr ⟨by rfl, rfl⟩) HH.out ?_
            try simp only [List.getElem_toArray, List.getElem_cons_succ, List.getElem_cons_zero, Act.put, List.setIfInBounds_toArray, List.set_cons_zero, List.set_cons_succ]
            refine wpAnyH_take (i := 5) (v := undef) rfl (by kernel_rfl) (by kernel_rfl) (by kernel_rfl) (fun _ _ _ h => h) (Or.inr ⟨by rfl, rfl⟩) HH.out ?_
            refine wpAnyH_take (i := 6) (v := undef) rfl (by kernel_rfl) (by kernel_rfl) (by kernel_rfl) (fun _ _ _ h => h) (Or.inr ⟨by rfl, rfl⟩) HH.out ?_
            refine wpAnyH_take (i := 7) (v := undef) rfl (by kernel_rfl) (by kernel_rfl) (by kernel_rfl) (fun _ _ _ h => h) (Or.inr ⟨by rfl, rfl⟩) HH.out ?_
            try simp only [List.getElem_toArray, List.getElem_cons_succ, List.getElem_cons_zero, Act.put, List.setIfInBounds_toArray, List.set_cons_zero, List.set_cons_succ]
            refine wpAnyH_take (i := 8) (v := undef) rfl (by kernel_rfl) (by kernel_rfl) (by kernel_rfl) (fun _ _ _ h => h) (Or.inr ⟨by rfl, rfl⟩) HH.out ?_
            refine wpAnyH_take (i := 9) (v := undef) rfl (by kernel_rfl) (by kernel_rfl) (by kernel_rfl) (fun _ _ _ h => h) (Or.inr ⟨by rfl, rfl⟩) HH.out ?_
            refine wpAnyH_take (i := 10) (v := undef) rfl (by kernel_rfl) (by kernel_rfl) (by kernel_rfl) (fun _ _ _ h => h) (Or.inr ⟨by rfl, rfl⟩) HH.out ?_
            try simp only [List.getElem_toArray, List.getElem_cons_succ, List.getElem_cons_zero, Act.put, List.setIfInBounds_toArray, List.set_cons_zero, List.set_cons_succ]
            refine wpAnyH_take (i := 11) (v := undef) rfl (by kernel_rfl) (by kernel_rfl) (by kernel_rfl) (fun _ _ _ h => h) (Or.inr ⟨by rfl, rfl⟩) HH.out ?_
            refine wpAnyH_take (i := 12) (v := undef) rfl (by kernel_rfl) (by kernel_rfl) (by kernel_rfl) (fun _ _ _ h => h) (Or.inr ⟨by rfl, rfl⟩) HH.out ?_
            refine wpAnyH_take (i := 13) (v := undef) rfl (by kernel_rfl) (by kernel_rfl) (by kernel_rfl) (fun _ _ _ h => h) (Or.inr ⟨by rfl, rfl⟩) HH.out ?_
            try simp only [List.getElem_toArray, List.getElem_cons_succ, List.getElem_cons_zero, Act.put, List.setIfInBounds_toArray, List.set_cons_zero, List.set_cons_succ]
            refine wpAnyH_take (i := 14) (v := undef) rfl (by kernel_rfl) (by kernel_rfl) (by kernel_rfl) (fun _ _ _ h => h) (Or.inr ⟨by rfl, rfl⟩) HH.out ?_
            refine wpAnyH_take (i := 15) (v := undef) rfl (by kernel_rfl) (by kernel_rfl) (by kernel_rfl) (fun _ _ _ h => h) (Or.inr ⟨by rfl, rfl⟩) HH.out ?_
            refine wpAnyH_take (i := 16) (v := undef) rfl (by kernel_rfl) (by kernel_rfl) (by kernel_rfl) (fun _ _ _ h => h) (Or.inr ⟨by rfl, rfl⟩) HH.out ?_
            try simp only [List.getElem_toArray, List.getElem_cons_succ, List.getElem_cons_zero, Act.put, List.setIfInBounds_toArray, List.set_cons_zero, List.set_cons_succ]
            refine wpAnyH_take (i := 17) (v := undef) rfl (by kernel_rfl) (by kernel_rfl) (by kernel_rfl) (fun _ _ _ h => h) (Or.inr ⟨by rfl, rfl⟩) HH.out ?_
            refine wpAnyH_take (i := 18) (v := undef) rfl (by kernel_rfl) (by kernel_rfl) (by kernel_rfl) (fun _ _ _ h => h) (Or.inr ⟨by rfl, rfl⟩) HH.out ?_
            refine wpAnyH_take (i := 19) (v := undef) rfl (by kernel_rfl) (by kernel_rfl) (by kernel_rfl) (fun _ _ _ h => h) (Or.inr ⟨by rfl, rfl⟩) HH.out ?_
            try simp only [List.getElem_toArray, List.getElem_cons_succ, List.getElem_cons_zero, Act.put, List.setIfInBounds_toArray, List.set_cons_zero, List.set_cons_succ]
            refine wpAnyH_take (i := 20) (v := undef) rfl (by kernel_rfl) (by kernel_rfl) (by kernel_rfl) (fun _ _ _ h => h) (Or.inr ⟨by rfl, rfl⟩) HH.out ?_
            refine wpAnyH_take (i := 21) (v := undef) rfl (by kernel_rfl) (by kernel_rfl) (by kernel_rfl) (fun _ _ _ h => h) (Or.inr ⟨by rfl, rfl⟩) HH.out ?_
            refine wpAnyH_take (i := 22) (v := undef) rfl (by kernel_rfl) (by kernel_rfl) (by kernel_rfl) (fun _ _ _ h => h) (Or.inr ⟨by rfl, rfl⟩) HH.out ?_
            try simp only [List.getElem_toArray, List.getElem_cons_succ, List.getElem_cons_zero, Act.put, List.setIfInBounds_toArray, List.set_cons_zero, List.set_cons_succ]
            refine wpAnyH_take (i := 23) (v := undef) rfl (by kernel_rfl) (by kernel_rfl) (by kernel_rfl) (fun _ _ _ h => h) (Or.inr ⟨by rfl, rfl⟩) HH.out ?_
            refine wpAnyH_take (i := 24) (v := undef) rfl (by kernel_rfl) (by kernel_rfl) (by kernel_rfl) (fun _ _ _ h => h) (Or.inr ⟨by rfl, rfl⟩) HH.out ?_
            refine wpAnyH_take (i := 25) (v := undef) rfl (by kernel_rfl) (by kernel_rfl) (by kernel_rfl) (fun _ _ _ h => h) (Or.inr ⟨by rfl, rfl⟩) HH.out ?_
            try simp only [List.getElem_toArray, List.getElem_cons_succ, List.getElem_cons_zero, Act.put, List.setIfInBounds_toArray, List.set_cons_zero, List.set_cons_succ]
            refine wpAnyH_take (i := 26) (v := undef) rfl (by kernel_rfl) (by kernel_rfl) (by kernel_rfl) (fun _ _ _ h => h) (Or.inr ⟨by rfl, rfl⟩) HH.out ?_
            refine wpAnyH_take (i := 27) (v := undef) rfl (by kernel_rfl) (by kernel_rfl) (by kernel_rfl) (fun _ _ _ h => h) (Or.inr ⟨by rfl, rfl⟩) HH.out ?_
            refine wpAnyH_take (i := 28) (v := undef) rfl (by kernel_rfl) (by kernel_rfl) (by kernel_rfl) (fun _ _ _ h => h) (Or.inr ⟨by rfl, rfl⟩) HH.out ?_
            try simp only [List.getElem_toArray, List.getElem_cons_succ, List.getElem_cons_zero, Act.put, List.setIfInBounds_toArray, List.set_cons_zero, List.set_cons_succ]
            refine wpAnyH_take (i := 29) (v := undef) rfl (by kernel_rfl) (by kernel_rfl) (by kernel_rfl) (fun _ _ _ h => h) (Or.inr ⟨by rfl, rfl⟩) HH.out ?_
            refine wpAnyH_take (i := 30) (v := undef) rfl (by kernel_rfl) (by kernel_rfl) (by kernel_rfl) (fun _ _ _ h => h) (Or.inr ⟨by rfl, rfl⟩) HH.out ?_
            refine wpAnyH_take (i := 31) (v := undef) rfl (by kernel_rfl) (by kernel_rfl) (by kernel_rfl) (fun _ _ _ h => h) (Or.inr ⟨by rfl, rfl⟩) HH.out ?_
            try simp only [List.getElem_toArray, List.getElem_cons_succ, List.getElem_cons_zero, Act.put, List.setIfInBounds_toArray, List.set_cons_zero, List.set_cons_succ]
            refine wpAnyH_take (i := 32) (v := undef) rfl (by kernel_rfl) (by kernel_rfl) (by kernel_rfl) (fun _ _ _ h => h) (Or.inr ⟨by rfl, rfl⟩) HH.out ?_
            refine wpAnyH_take (i := 33) (v := undef) rfl (by kernel_rfl) (by kernel_rfl) (by kernel_rfl) (fun _ _ _ h => h) (Or.inr ⟨by rfl, rfl⟩) HH.out ?_
            refine wpAnyH_take (i := 34) (v := ?vC34) rfl (by kernel_rfl) (by kernel_rfl) (by kernel_rfl) (fun _ _ _ h => h) (Or.inl ⟨by rfl, fun w' _ => ?yC34⟩) HH.out ?_
            case yC34 => (go_simp; try with_reducible rfl)
            try simp only [List.getElem_toArray, List.getElem_cons_succ, List.getElem_cons_zero, Act.put, List.setIfInBounds_toArray, List.set_cons_zero, List.set_cons_succ]
            refine wpAnyH_done (by kernel_rfl) ?_ _
            go_wp2_with fail
            go_roundw
            case rel => exact ⟨j + 1, HLT.out, by rw [← jk]; go_num, B3.out.drew⟩
            case measure => (have := HLT.out; simp [intOf]; omega)
          · have jk : ¬ ((j : Int) = (k : Int)) := by omega
            have hja : j < la.length := by rw [HA6.out]; exact hlt
            have hjb : j < lb.length := by rw [HB6.out]; exact hlt
            obtain ⟨a, ha⟩ : ∃ a, a = la[j] := ⟨_, rfl⟩
            obtain ⟨b, hb⟩ : ∃ b, b = lb[j] := ⟨_, rfl⟩
            have hfa : fa j = secN a.1 a.2 := by rw [HFA.out, List.getD_eq_getElem?_getD, List.getElem?_eq_getElem hja, ha]; rfl
            have hfb : fb j = secN b.1 b.2 := by rw [HFB.out, List.getD_eq_getElem?_getD, List.getElem?_eq_getElem hjb, hb]; rfl
            have HCA := Lib.hid (show ∀ w', Below w77.heap.size w77 w' → w'.cell? ⟨qa, j * 2, none⟩ = some (.int .u8 (a.1.toNat : Int)) ∧ w'.cell? ⟨qa, j * 2 + 1, none⟩ = some (.int .u8 (a.2.toNat : Int)) from fun w' hw' => by
              have hw := H77.out.live.bel.trans (hw'.mono H77.out.live.bel.size)
              rw [(X2.out.below hw).cell, (X2.out.below hw).cell, ha, Nat.mul_comm j 2]; exact prs_get hja)
            have HCB := Lib.hid (show ∀ w', Below w77.heap.size w77 w' → w'.cell? ⟨qb, j * 2, none⟩ = some (.int .u8 (b.1.toNat : Int)) ∧ w'.cell? ⟨qb, j * 2 + 1, none⟩ = some (.int .u8 (b.2.toNat : Int)) from fun w' hw' => by
              have hw := H77.out.live.bel.trans (hw'.mono H77.out.live.bel.size)
              rw [(Y2.out.below hw).cell, (Y2.out.below hw).cell, hb, Nat.mul_comm j 2]; exact prs_get hjb)
            obtain ⟨y, hy⟩ : ∃ y, y = fa j := ⟨_, rfl⟩
            obtain ⟨v, hv⟩ : ∃ v, v = fb j := ⟨_, rfl⟩
            have HY3 := Lib.hid (show y.length = 128 by rw [hy, hfa]; exact secN_length _ _)
            have HV3 := Lib.hid (show v.length = 128 by rw [hv, hfb]; exact secN_length _ _)
            have HSA := Lib.hid (show ∀ w, Calls Try.prog 49 #[.int .u8 (a.1.toNat : Int), .int .u8 (a.2.toNat : Int)] w (RetB (.agg (bva y)) w) from fun w => by rw [hy, hfa]; exact sector9_any w a.1 a.2)
            have HSB2 := Lib.hid (show ∀ w, Calls Try.prog 49 #[.int .u8 (b.1.toNat : Int), .int .u8 (b.2.toNat : Int)] w (RetB (.agg (bva v)) w) from fun w => by rw [hv, hfb]; exact sector9_any w b.1 b.2)
            have HCX := Lib.hid (show ∀ w', Below w77.heap.size w77 w' → ∀ jj xx, (bv y)[jj]? = some xx → w'.cell? ((au.add (j * 128)).add jj) = some xx from fun w' hb jj xx hxx => by
              obtain ⟨hq, he⟩ := HIU.out j hlt hjk
              obtain ⟨ad', hA', _, hc'⟩ := rd_sec (RAU77.out.below hb) HU8.out hq
              injection hA' with hA'; subst hA'
              exact hc' jj xx (by rw [he, ← hy]; exact hxx))
            have HCY := Lib.hid (show ∀ w', Below w77.heap.size w77 w' → ∀ jj xx, (bv v)[jj]? = some xx → w'.cell? ((av.add (j * 128)).add jj) = some xx from fun w' hb jj xx hxx => by
              obtain ⟨hq, he⟩ := HIV.out j hlt hjk
              obtain ⟨ad', hA', _, hc'⟩ := rd_sec (RAV77.out.below hb) HV8.out hq
              injection hA' with hA'; subst hA'
              exact hc' jj xx (by rw [he, ← hv]; exact hxx))
            have HIYL := Lib.hid (show (Try.prog.info? 37).map (·.size) = some (bv y).length by rw [bv_length, HY3.out]; exact info_sec)
            have HIVL := Lib.hid (show (Try.prog.info? 37).map (·.size) = some (bv v).length by rw [bv_length, HV3.out]; exact info_sec)
            have heqy := eq_sec y y HY3.out HY3.out
            rw [decide_eq_true (rfl : y = y)] at heqy
            have heqv := eq_sec v v HV3.out HV3.out
            rw [decide_eq_true (rfl : v = v)] at heqv
            have B4 := B3.out.drew
            clear hlt hja hjb ha hb hfa hfb hy hv hjk
            go_upto_region 21 with fail
            refine wp_region_held_drew (S := fun w' => Below w77.heap.size w77 w') (by kernel_rfl) B4 (fun hh => ?_)
            have HH := Lib.hid hh
            clear hh
            refine wpAnyH_take (i := 0) (v := ?vD0) rfl (by kernel_rfl) (by kernel_rfl) (by kernel_rfl) (fun _ _ _ h => h) (Or.inl ⟨by rfl, fun w' _ => ?yD0⟩) HH.out ?_
            case yD0 => (go_simp; try with_reducible rfl)
            refine wpAnyH_take (i := 1) (v := ?vD1) rfl (by kernel_rfl) (by kernel_rfl) (by kernel_rfl) (fun _ _ _ h => h) (Or.inl ⟨by rfl, fun w' _ => ?yD1⟩) HH.out ?_
            case yD1 => (go_simp; try with_reducible rfl)
            try simp only [List.getElem_toArray, List.getElem_cons_succ, List.getElem_cons_zero, Act.put, List.setIfInBounds_toArray, List.set_cons_zero, List.set_cons_succ]
            refine wpAnyH_take (i := 2) (v := .bool true) rfl (by kernel_rfl) (by kernel_rfl) (by kernel_rfl) (fun _ _ _ h => h) (Or.inl ⟨by rfl, fun w' hw' => ?yD2⟩) HH.out ?_
            case yD2 => (go_simp; try with_reducible rfl)
            refine wpAnyH_take (i := 3) (v := .bool true) rfl (by kernel_rfl) (by kernel_rfl) (by kernel_rfl) (fun _ _ _ h => h) (Or.inl ⟨by rfl, fun w' hw' => ?yD3⟩) HH.out ?_
            case yD3 => (go_simp; try with_reducible rfl)
            try simp only [List.getElem_toArray, List.getElem_cons_succ, List.getElem_cons_zero, Act.put, List.setIfInBounds_toArray, List.set_cons_zero, List.set_cons_succ]
            refine wpAnyH_take (i := 4) (v := ?vD4) rfl (by kernel_rfl) (by kernel_rfl) (by kernel_rfl) (fun _ _ _ h => h) (Or.inl ⟨by rfl, fun w' _ => ?yD4⟩) HH.out ?_
            case yD4 => (go_simp; try with_reducible rfl)
            try simp only [List.getElem_toArray, List.getElem_cons_succ, List.getElem_cons_zero, Act.put, List.setIfInBounds_toArray, List.set_cons_zero, List.set_cons_succ]
            refine wpAnyH_take (i := 5) (v := ?vD5) rfl (by kernel_rfl) (by kernel_rfl) (by kernel_rfl) (fun _ _ _ h => h) (Or.inl ⟨by rfl, fun w' _ => ?yD5⟩) HH.out ?_
            case yD5 => (go_simp; try with_reducible rfl)
            try simp only [List.getElem_toArray, List.getElem_cons_succ, List.getElem_cons_zero, Act.put, List.setIfInBounds_toArray, List.set_cons_zero, List.set_cons_succ]
            refine wpAnyH_take (i := 6) (v := ?vD6) rfl (by kernel_rfl) (by kernel_rfl) (by kernel_rfl) (fun _ _ _ h => h) (Or.inl ⟨by rfl, fun w' _ => ?yD6⟩) HH.out ?_
            case yD6 => (go_simp; try with_reducible rfl)
            try simp only [List.getElem_toArray, List.getElem_cons_succ, List.getElem_cons_zero, Act.put, List.setIfInBounds_toArray, List.set_cons_zero, List.set_cons_succ]
            refine wpAnyH_take (i := 7) (v := .agg (bva y)) rfl (by kernel_rfl) (by kernel_rfl) (by kernel_rfl) (fun _ _ _ h => h) (Or.inl ⟨by rfl, fun w' hw' => ?yD7⟩) HH.out ?_
            case yD7 => exact exec_load_at 37 (.tmp 105) rfl (au.add (j * 128)) rfl (HCX.out w' hw') Try.underlying37 rfl HIYL.out
            try simp only [List.getElem_toArray, List.getElem_cons_succ, List.getElem_cons_zero, Act.put, List.setIfInBounds_toArray, List.set_cons_zero, List.set_cons_succ]
            refine wpAnyH_take (i := 8) (v := ?vD8) rfl (by kernel_rfl) (by kernel_rfl) (by kernel_rfl) (fun _ _ _ h => h) (Or.inl ⟨by rfl, fun w' _ => ?yD8⟩) HH.out ?_
            case yD8 => (go_simp; try with_reducible rfl)
            try simp only [List.getElem_toArray, List.getElem_cons_succ, List.getElem_cons_zero, Act.put, List.setIfInBounds_toArray, List.set_cons_zero, List.set_cons_succ]
            refine wpAnyH_take (i := 9) (v := ?vD9) rfl (by kernel_rfl) (by kernel_rfl) (by kernel_rfl) (fun _ _ _ h => h) (Or.inl ⟨by rfl, fun w' _ => ?yD9⟩) HH.out ?_
            case yD9 => (go_simp; try with_reducible rfl)
            try simp only [List.getElem_toArray, List.getElem_cons_succ, List.getElem_cons_zero, Act.put, List.setIfInBounds_toArray, List.set_cons_zero, List.set_cons_succ]
            refine wpAnyH_take (i := 10) (v := ?vD10) rfl (by kernel_rfl) (by kernel_rfl) (by kernel_rfl) (fun _ _ _ h => h) (Or.inl ⟨by rfl, fun w' _ => ?yD10⟩) HH.out ?_
            case yD10 => (go_simp; try with_reducible rfl)
            try simp only [List.getElem_toArray, List.getElem_cons_succ, List.getElem_cons_zero, Act.put, List.setIfInBounds_toArray, List.set_cons_zero, List.set_cons_succ]
            try simp only [List.getElem_toArray, List.getElem_cons_succ, List.getElem_cons_zero, Act.put, List.setIfInBounds_toArray, List.set_cons_zero, List.set_cons_succ]
            refine wpAnyH_take (i := 11) (v := .int .u8 (a.1.toNat : Int)) rfl (by kernel_rfl) (by kernel_rfl) (by kernel_rfl) (fun _ _ _ h => h) (Or.inl ⟨by rfl, fun w' hw' => ?yD11⟩) HH.out ?_
            case yD11 => (have hc := (HCA.out w' hw').1; go_simp; try with_reducible rfl)
            try simp only [List.getElem_toArray, List.getElem_cons_succ, List.getElem_cons_zero, Act.put, List.setIfInBounds_toArray, List.set_cons_zero, List.set_cons_succ]
            refine wpAnyH_take (i := 12) (v := ?vD12) rfl (by kernel_rfl) (by kernel_rfl) (by kernel_rfl) (fun _ _ _ h => h) (Or.inl ⟨by rfl, fun w' _ => ?yD12⟩) HH.out ?_
            case yD12 => (go_simp; try with_reducible rfl)
            try simp only [List.getElem_toArray, List.getElem_cons_succ, List.getElem_cons_zero, Act.put, List.setIfInBounds_toArray, List.set_cons_zero, List.set_cons_succ]
            refine wpAnyH_take (i := 13) (v := ?vD13) rfl (by kernel_rfl) (by kernel_rfl) (by kernel_rfl) (fun _ _ _ h => h) (Or.inl ⟨by rfl, fun w' _ => ?yD13⟩) HH.out ?_
            case yD13 => (go_simp; try with_reducible rfl)
            try simp only [List.getElem_toArray, List.getElem_cons_succ, List.getElem_cons_zero, Act.put, List.setIfInBounds_toArray, List.set_cons_zero, List.set_cons_succ]
            refine wpAnyH_take (i := 14) (v := ?vD14) rfl (by kernel_rfl) (by kernel_rfl) (by kernel_rfl) (fun _ _ _ h => h) (Or.inl ⟨by rfl, fun w' _ => ?yD14⟩) HH.out ?_
            case yD14 => (go_simp; try with_reducible rfl)
            try simp only [List.getElem_toArray, List.getElem_cons_succ, List.getElem_cons_zero, Act.put, List.setIfInBounds_toArray, List.set_cons_zero, List.set_cons_succ]
            refine wpAnyH_take (i := 15) (v := .int .u8 (a.2.toNat : Int)) rfl (by kernel_rfl) (by kernel_rfl) (by kernel_rfl) (fun _ _ _ h => h) (Or.inl ⟨by rfl, fun w' hw' => ?yD15⟩) HH.out ?_
            case yD15 => (have hc := (HCA.out w' hw').2; go_simp; try with_reducible rfl)
            try simp only [List.getElem_toArray, List.getElem_cons_succ, List.getElem_cons_zero, Act.put, List.setIfInBounds_toArray, List.set_cons_zero, List.set_cons_succ]
            refine wpAnyH_ready (rs := [16]) (by kernel_rfl) (by simp) (AllReadyH.cons rfl (fun K hK => ?_) AllReadyH.nil)
            rw [if_pos (by rfl)]
            go_simp
            refine (HSA.out _).mono ?_
            rintro e vv1 ⟨rfl, bw⟩
            go_simp
            refine hK.out _ _ (HH.out.trans (bw.mono HH.out.size)) (fun hh => ?_)
            have HH' := Lib.hid hh
            clear hh hK K HH bw
            have HH := Lib.hid HH'.out
            clear HH'
            try simp only [List.getElem_toArray, List.getElem_cons_succ, List.getElem_cons_zero, Act.put, List.setIfInBounds_toArray, List.set_cons_zero, List.set_cons_succ]
            refine wpAnyH_take (i := 17) (v := ?vD17) rfl (by kernel_rfl) (by kernel_rfl) (by kernel_rfl) (fun _ _ _ h => h) (Or.inl ⟨by rfl, fun w' _ => ?yD17⟩) HH.out ?_
            case yD17 => (go_simp; try with_reducible rfl)
            try simp only [List.getElem_toArray, List.getElem_cons_succ, List.getElem_cons_zero, Act.put, List.setIfInBounds_toArray, List.set_cons_zero, List.set_cons_succ]
            refine wpAnyH_take (i := 18) (v := ?vD18) rfl (by kernel_rfl) (by kernel_rfl) (by kernel_rfl) (fun _ _ _ h => h) (Or.inl ⟨by rfl, fun w' _ => ?yD18⟩) HH.out ?_
            case yD18 => (go_simp; try with_reducible rfl)
            try simp only [List.getElem_toArray, List.getElem_cons_succ, List.getElem_cons_zero, Act.put, List.setIfInBounds_toArray, List.set_cons_zero, List.set_cons_succ]
            refine wpAnyH_take (i := 19) (v := ?vD19) rfl (by kernel_rfl) (by kernel_rfl) (by kernel_rfl) (fun _ _ _ h => h) (Or.inl ⟨by rfl, fun w' _ => ?yD19⟩) HH.out ?_
            case yD19 => (go_simp; try with_reducible rfl)
            try simp only [List.getElem_toArray, List.getElem_cons_succ, List.getElem_cons_zero, Act.put, List.setIfInBounds_toArray, List.set_cons_zero, List.set_cons_succ]
            refine wpAnyH_take (i := 20) (v := ?vD20) rfl (by kernel_rfl) (by kernel_rfl) (by kernel_rfl) (fun _ _ _ h => h) (Or.inl ⟨by rfl, fun w' _ => ?yD20⟩) HH.out ?_
            case yD20 => (go_simp; try with_reducible rfl)
            try simp only [List.getElem_toArray, List.getElem_cons_succ, List.getElem_cons_zero, Act.put, List.setIfInBounds_toArray, List.set_cons_zero, List.set_cons_succ]
            refine wpAnyH_take (i := 21) (v := ?vD21) rfl (by kernel_rfl) (by kernel_rfl) (by kernel_rfl) (fun _ _ _ h => h) (Or.inl ⟨by rfl, fun w' _ => ?yD21⟩) HH.out ?_
            case yD21 => (go_simp; try with_reducible rfl)
            try simp only [List.getElem_toArray, List.getElem_cons_succ, List.getElem_cons_zero, Act.put, List.setIfInBounds_toArray, List.set_cons_zero, List.set_cons_succ]
            refine wpAnyH_take (i := 22) (v := .agg (bva v)) rfl (by kernel_rfl) (by kernel_rfl) (by kernel_rfl) (fun _ _ _ h => h) (Or.inl ⟨by rfl, fun w' hw' => ?yD22⟩) HH.out ?_
            case yD22 => exact exec_load_at 37 (.tmp 120) rfl (av.add (j * 128)) rfl (HCY.out w' hw') Try.underlying37 rfl HIVL.out
            try simp only [List.getElem_toArray, List.getElem_cons_succ, List.getElem_cons_zero, Act.put, List.setIfInBounds_toArray, List.set_cons_zero, List.set_cons_succ]
            refine wpAnyH_take (i := 23) (v := ?vD23) rfl (by kernel_rfl) (by kernel_rfl) (by kernel_rfl) (fun _ _ _ h => h) (Or.inl ⟨by rfl, fun w' _ => ?yD23⟩) HH.out ?_
            case yD23 => (go_simp; try with_reducible rfl)
            try simp only [List.getElem_toArray, List.getElem_cons_succ, List.getElem_cons_zero, Act.put, List.setIfInBounds_toArray, List.set_cons_zero, List.set_cons_succ]
            refine wpAnyH_take (i := 24) (v := ?vD24) rfl (by kernel_rfl) (by kernel_rfl) (by kernel_rfl) (fun _ _ _ h => h) (Or.inl ⟨by rfl, fun w' _ => ?yD24⟩) HH.out ?_
            case yD24 => (go_simp; try with_reducible rfl)
            try simp only [List.getElem_toArray, List.getElem_cons_succ, List.getElem_cons_zero, Act.put, List.setIfInBounds_toArray, List.set_cons_zero, List.set_cons_succ]
            refine wpAnyH_take (i := 25) (v := ?vD25) rfl (by kernel_rfl) (by kernel_rfl) (by kernel_rfl) (fun _ _ _ h => h) (Or.inl ⟨by rfl, fun w' _ => ?yD25⟩) HH.out ?_
            case yD25 => (go_simp; try with_reducible rfl)
            try simp only [List.getElem_toArray, List.getElem_cons_succ, List.getElem_cons_zero, Act.put, List.setIfInBounds_toArray, List.set_cons_zero, List.set_cons_succ]
            try simp only [List.getElem_toArray, List.getElem_cons_succ, List.getElem_cons_zero, Act.put, List.setIfInBounds_toArray, List.set_cons_zero, List.set_cons_succ]
            refine wpAnyH_take (i := 26) (v := .int .u8 (b.1.toNat : Int)) rfl (by kernel_rfl) (by kernel_rfl) (by kernel_rfl) (fun _ _ _ h => h) (Or.inl ⟨by rfl, fun w' hw' => ?yD26⟩) HH.out ?_
            case yD26 => (have hc := (HCB.out w' hw').1; go_simp; try with_reducible rfl)
            try simp only [List.getElem_toArray, List.getElem_cons_succ, List.getElem_cons_zero, Act.put, List.setIfInBounds_toArray, List.set_cons_zero, List.set_cons_succ]
            refine wpAnyH_take (i := 27) (v := ?vD27) rfl (by kernel_rfl) (by kernel_rfl) (by kernel_rfl) (fun _ _ _ h => h) (Or.inl ⟨by rfl, fun w' _ => ?yD27⟩) HH.out ?_
            case yD27 => (go_simp; try with_reducible rfl)
            try simp only [List.getElem_toArray, List.getElem_cons_succ, List.getElem_cons_zero, Act.put, List.setIfInBounds_toArray, List.set_cons_zero, List.set_cons_succ]
            refine wpAnyH_take (i := 28) (v := ?vD28) rfl (by kernel_rfl) (by kernel_rfl) (by kernel_rfl) (fun _ _ _ h => h) (Or.inl ⟨by rfl, fun w' _ => ?yD28⟩) HH.out ?_
            case yD28 => (go_simp; try with_reducible rfl)
            try simp only [List.getElem_toArray, List.getElem_cons_succ, List.getElem_cons_zero, Act.put, List.setIfInBounds_toArray, List.set_cons_zero, List.set_cons_succ]
            refine wpAnyH_take (i := 29) (v := ?vD29) rfl (by kernel_rfl) (by kernel_rfl) (by kernel_rfl) (fun _ _ _ h => h) (Or.inl ⟨by rfl, fun w' _ => ?yD29⟩) HH.out ?_
            case yD29 => (go_simp; try with_reducible rfl)
            try simp only [List.getElem_toArray, List.getElem_cons_succ, List.getElem_cons_zero, Act.put, List.setIfInBounds_toArray, List.set_cons_zero, List.set_cons_succ]
            refine wpAnyH_take (i := 30) (v := .int .u8 (b.2.toNat : Int)) rfl (by kernel_rfl) (by kernel_rfl) (by kernel_rfl) (fun _ _ _ h => h) (Or.inl ⟨by rfl, fun w' hw' => ?yD30⟩) HH.out ?_
            case yD30 => (have hc := (HCB.out w' hw').2; go_simp; try with_reducible rfl)
            try simp only [List.getElem_toArray, List.getElem_cons_succ, List.getElem_cons_zero, Act.put, List.setIfInBounds_toArray, List.set_cons_zero, List.set_cons_succ]
            refine wpAnyH_ready (rs := [31]) (by kernel_rfl) (by simp) (AllReadyH.cons rfl (fun K hK => ?_) AllReadyH.nil)
            rw [if_pos (by rfl)]
            go_simp
            refine (HSB2.out _).mono ?_
            rintro e vv2 ⟨rfl, bw⟩
            go_simp
            refine hK.out _ _ (HH.out.trans (bw.mono HH.out.size)) (fun hh => ?_)
            have HH' := Lib.hid hh
            clear hh hK K HH bw
            have HH := Lib.hid HH'.out
            clear HH'
            try simp only [List.getElem_toArray, List.getElem_cons_succ, List.getElem_cons_zero, Act.put, List.setIfInBounds_toArray, List.set_cons_zero, List.set_cons_succ]
            refine wpAnyH_take (i := 32) (v := ?vD32) rfl (by kernel_rfl) (by kernel_rfl) (by kernel_rfl) (fun _ _ _ h => h) (Or.inl ⟨by rfl, fun w' _ => ?yD32⟩) HH.out ?_
            case yD32 => (go_simp; try with_reducible rfl)
            try simp only [List.getElem_toArray, List.getElem_cons_succ, List.getElem_cons_zero, Act.put, List.setIfInBounds_toArray, List.set_cons_zero, List.set_cons_succ]
            refine wpAnyH_take (i := 33) (v := ?vD33) rfl (by kernel_rfl) (by kernel_rfl) (by kernel_rfl) (fun _ _ _ h => h) (Or.inl ⟨by rfl, fun w' _ => ?yD33⟩) HH.out ?_
            case yD33 => (go_simp; try with_reducible rfl)
            try simp only [List.getElem_toArray, List.getElem_cons_succ, List.getElem_cons_zero, Act.put, List.setIfInBounds_toArray, List.set_cons_zero, List.set_cons_succ]
            refine wpAnyH_take (i := 34) (v := ?vD34) rfl (by kernel_rfl) (by kernel_rfl) (by kernel_rfl) (fun _ _ _ h => h) (Or.inl ⟨by rfl, fun w' _ => ?yD34⟩) HH.out ?_
            case yD34 => (go_simp; try with_reducible rfl)
            try simp only [List.getElem_toArray, List.getElem_cons_succ, List.getElem_cons_zero, Act.put, List.setIfInBounds_toArray, List.set_cons_zero, List.set_cons_succ]
            refine wpAnyH_done (by kernel_rfl) ?_ _
            go_wp2_with fail
            go_roundw
            case rel => exact ⟨j + 1, HLT.out, by go_num, HH.out⟩
            case measure => (have := HLT.out; simp [intOf]; omega)
        · go_wp2_with fail
          obtain rfl : j = 6 := by have := HJ.out; omega
          clear hlt HJ
          have H80 := Lib.hid (H77.out.below B3.out)
          have S80 := Lib.hid (S77.out.below B3.out)
          clear H77 S77 HCU HCV HIU HIV RAU77 RAV77 X2 Y2 B3
          obtain ⟨xm, hxm⟩ : ∃ xm, xm = startM (LA.set k s) (LB.set k s) 6 := ⟨_, rfl⟩
          obtain ⟨gb, hgb⟩ : ∃ gb, gb = goodN (k : Int) s := ⟨_, rfl⟩
          have hru : (LA.set k s).getD k zeroS = s := by obtain ⟨hq, he⟩ := HKU.out; rw [List.getD_eq_getElem?_getD, List.getElem?_eq_getElem hq, he]; rfl
          have hrv : (LB.set k s).getD k zeroS = s := by obtain ⟨hq, he⟩ := HKV.out; rw [List.getD_eq_getElem?_getD, List.getElem?_eq_getElem hq, he]; rfl
          have HRD := Lib.hid (show xm.read gG.f (k : Int) = (if gb then (s, 0) else (zeroS, 9)) by
            rw [hxm, hgb]; exact start_read HK.out hru hrv)
          have HBL := Lib.hid (show (xm.both gG.f (k : Int)).length = (if gb then 2 else 0) by
            rw [hxm, fresh_both (start_fresh HU6.out HV6.out) HK.out, hgb]
            show (if goodN (k : Int) ((LA.set k s).getD k zeroS) = true then 1 else 0) + (if goodN (k : Int) ((LB.set k s).getD k zeroS) = true then 1 else 0) = _
            rw [hru, hrv]; cases goodN (k : Int) s <;> rfl)
          have HGD := Lib.hid (show ∀ w, Calls Try.prog 32 #[.int .i64 (k : Int), .agg (bva s)] w (RetB (.bool gb) w) from fun w => by rw [hgb]; exact good_any w k s HS3.out)
          clear hru hrv hgb
          rw [← hxm] at H80
          clear hxm
          have hc := lm_read H80.out (k : Int)
          rw [HRD.out] at hc
          have hQ := eq_sec s s HS3.out HS3.out
          rw [decide_eq_true (rfl : s = s)] at hQ
          cases gb
          ·
            rw [if_neg (by simp)] at hc
            refine hc.mono ?_
            clear hc
            rintro e w81 ⟨rfl, s81, F81, h, hm81⟩
            have H81 := Lib.hid (show LM p1 g1 p2 g2 gG g w2 w81 s81 F81 xm 0 from h)
            have S81 := Lib.hid (S80.out.step hm81)
            clear h hm81 H80 S80
            go_wp2_with (show wpList _ _ _ ({ dst := none, op := .store 37 (.tmp 20) (.tmp 138), type := _, pos := _, after := _, guard := _ } :: _) _ _; apply Classical.byContradiction; intro hneg)
            refine hneg ?_
            clear hneg
            refine wpList_store_row rfl 37 (.tmp 20) (.tmp 138) rfl w81.heap.size (bva zeroS) rfl rfl 37 (bva z) (heap_alloc_new _ _) (show (Try.prog.info? 37).map (·.size) = some (bva zeroS).size by rw [bva_size, zeroS_length]; exact info_sec) (by rw [bva_size, bva_size, zeroS_length, HZ3.out]) (bva_one _) ?_
            obtain ⟨w91, hw91⟩ : ∃ w91, w91 = (w81.alloc (.cells (bva z) 37)).setRow w81.heap.size (bva zeroS) := ⟨_, rfl⟩
            have bw : Below w81.heap.size w81 w91 := by rw [hw91]; exact below_setRow ((Below.refl _ _).alloc (Nat.le_refl _) _) (Nat.le_refl _) _
            have hbx : Blk w91 w81.heap.size (bva zeroS) 37 := by rw [hw91]; exact setRow_heap _ _ _ _ _ _ (heap_alloc_new _ _)
            rw [← hw91]
            clear hw91
            obtain ⟨b91, hb91⟩ : ∃ b91, b91 = w81.heap.size := ⟨_, rfl⟩
            rw [← hb91] at hbx
            rw [← hb91]
            have R91 := Lib.hid (show Bx w2 w91 F81 b91 (bva zeroS) 37 from ⟨hbx, by rw [hb91]; exact H81.out.live.bel.size, fun hf => by have := (ML (Two p1 g1 p2 g2) gG g).lt H81.out.live.at_ _ hf; omega⟩)
            clear hb91 hbx
            have H91 := Lib.hid (H81.out.below bw)
            have S91 := Lib.hid (S81.out.below bw)
            clear bw H81 S81
            go_wp2_with (refine wpList_load_row rfl 37 (.tmp 16) rfl b73 rfl 37 (bva s) (0, 0) _ S91.out.1 Try.underlying37 rfl HIS.out ?_)
            go_wp2_with fail
            have hc := HGD.out w91
            refine hc.mono ?_
            clear hc
            rintro e w92 ⟨rfl, bw⟩
            have H92 := Lib.hid (H91.out.below bw)
            have S92 := Lib.hid (S91.out.below bw)
            have R92 := Lib.hid (R91.out.below bw)
            clear bw H91 S91 R91
            go_wp2_with fail
            have hc := lm_both H92.out (k : Int)
            refine hc.mono ?_
            clear hc
            rintro e w99 ⟨A, n, c, rfl, hn, ho, bw⟩
            obtain rfl : 0 = n := by rw [← hn, HBL.out]; rfl
            clear hn ho
            have H99 := Lib.hid (H92.out.below bw)
            have S99 := Lib.hid (S92.out.below bw)
            have R99 := Lib.hid (R92.out.below bw)
            clear bw H92 S92 R92
            go_wp2_with fail
            go_ret
            exact ⟨rfl, (B2.out.trans (H99.out.live.bel.mono B2.out.size))⟩
          ·
            rw [if_pos rfl] at hc
            refine hc.mono ?_
            clear hc
            rintro e w81 ⟨rfl, s81, F81, h, hm81⟩
            have H81 := Lib.hid (show LM p1 g1 p2 g2 gG g w2 w81 s81 F81 xm 0 from h)
            have S81 := Lib.hid (S80.out.step hm81)
            clear h hm81 H80 S80
            go_wp2_with (show wpList _ _ _ ({ dst := none, op := .store 37 (.tmp 20) (.tmp 138), type := _, pos := _, after := _, guard := _ } :: _) _ _; apply Classical.byContradiction; intro hneg)
            refine hneg ?_
            clear hneg
            refine wpList_store_row rfl 37 (.tmp 20) (.tmp 138) rfl w81.heap.size (bva s) rfl rfl 37 (bva z) (heap_alloc_new _ _) HIS.out (by rw [bva_size, bva_size, HS3.out, HZ3.out]) (bva_one _) ?_
            obtain ⟨w91, hw91⟩ : ∃ w91, w91 = (w81.alloc (.cells (bva z) 37)).setRow w81.heap.size (bva s) := ⟨_, rfl⟩
            have bw : Below w81.heap.size w81 w91 := by rw [hw91]; exact below_setRow ((Below.refl _ _).alloc (Nat.le_refl _) _) (Nat.le_refl _) _
            have hbx : Blk w91 w81.heap.size (bva s) 37 := by rw [hw91]; exact setRow_heap _ _ _ _ _ _ (heap_alloc_new _ _)
            rw [← hw91]
            clear hw91
            obtain ⟨b91, hb91⟩ : ∃ b91, b91 = w81.heap.size := ⟨_, rfl⟩
            rw [← hb91] at hbx
            rw [← hb91]
            have R91 := Lib.hid (show Bx w2 w91 F81 b91 (bva s) 37 from ⟨hbx, by rw [hb91]; exact H81.out.live.bel.size, fun hf => by have := (ML (Two p1 g1 p2 g2) gG g).lt H81.out.live.at_ _ hf; omega⟩)
            clear hb91 hbx
            have H91 := Lib.hid (H81.out.below bw)
            have S91 := Lib.hid (S81.out.below bw)
            clear bw H81 S81
            go_wp2_with (refine wpList_load_row rfl 37 (.tmp 16) rfl b73 rfl 37 (bva s) (0, 0) _ S91.out.1 Try.underlying37 rfl HIS.out ?_)
            go_wp2_with fail
            have hc := HGD.out w91
            refine hc.mono ?_
            clear hc
            rintro e w92 ⟨rfl, bw⟩
            have H92 := Lib.hid (H91.out.below bw)
            have S92 := Lib.hid (S91.out.below bw)
            have R92 := Lib.hid (R91.out.below bw)
            clear bw H91 S91 R91
            go_wp2_with (first
              | (refine wpList_execg8 rfl (exec_load 37 (.tmp 20) rfl rfl R92.out.1 Try.underlying37 rfl HIS.out) ?_)
              | (refine wpList_execg8 rfl (exec_load 37 (.tmp 16) rfl rfl S92.out.1 Try.underlying37 rfl HIS.out) ?_))
            have hc := lm_both H92.out (k : Int)
            refine hc.mono ?_
            clear hc
            rintro e w99 ⟨A, n, c, rfl, hn, ho, bw⟩
            obtain rfl : 2 = n := by rw [← hn, HBL.out]; rfl
            clear hn ho
            have H99 := Lib.hid (H92.out.below bw)
            have S99 := Lib.hid (S92.out.below bw)
            have R99 := Lib.hid (R92.out.below bw)
            clear bw H92 S92 R92
            go_wp2_with fail
            go_ret
            exact ⟨rfl, (B2.out.trans (H99.out.live.bel.mono B2.out.size))⟩
theorem mirrorChooses_own : ownKnob Try.prog.godebug = none := by kernel_rfl
theorem mirrorChooses_laid : laidOutB Try.prog = true := by kernel_rfl

set_option maxRecDepth 100000 in
theorem mirrorChooses_lifted (os : Os) (started : os.Started) (H : Type) (enc : TypeId × Value → H) :
    ReturnsInHanded {} Try.checked os 15 .any (Rows.mirrorChoosesSpec.pre6 enc Try.prog Try.f15 Rows.mirrorChoosesRow.domain false) (Rows.mirrorChoosesSpec.post enc Try.prog Try.f15 false true false false) := by
  refine returnsInHanded_of_change (C := Try.checked) mirrorChooses_own started (by kernel_rfl) Try.func15
    (ChangeSpec.witness6 (enc := enc) (C := Try.checked) false ⟨#[], #[.agg #[.int .u8 0, .int .u8 0, .int .u8 0, .int .u8 0, .int .u8 0, .int .u8 0, .int .u8 0, .int .u8 0, .int .u8 0, .int .u8 0, .int .u8 0, .int .u8 0], .agg #[.int .u8 0, .int .u8 0, .int .u8 0, .int .u8 0, .int .u8 0, .int .u8 0, .int .u8 0, .int .u8 0, .int .u8 0, .int .u8 0, .int .u8 0, .int .u8 0], .int .u8 0, .int .u8 0, .int .u8 0], []⟩ 8 (by kernel_rfl) (by kernel_rfl) (by kernel_rfl) (by kernel_rfl)) ?_
  intro W base args ds gs before hval0 hW _ _
  have hval : ∀ (j : Nat) t v, Try.f15.params[j]? = some t → args[j]? = some v → Value.okWide Try.prog W .any base t v := hval0
  have hW' := hW
  obtain ⟨p, q, hA0, hV, rfl, hfz, hnd⟩ := hW
  have hA : DataW.TrodAll enc Try.prog W 0 (fun _ => true) true Try.f15.params.toList args.toList ds p := hA0
  rw [Try.params15] at hA hval
  obtain ⟨v0, vs0, d0, ds0, p0, q0, hargs, rfl, rfl, h0, r0⟩ := trodAll_cons hA
  obtain ⟨v1, vs1, d1, ds1, p1, q1, rfl, rfl, rfl, h1, r1⟩ := trodAll_cons r0
  obtain ⟨v2, vs2, d2, ds2, p2, q2, rfl, rfl, rfl, h2, r2⟩ := trodAll_cons r1
  obtain ⟨v3, vs3, d3, ds3, p3, q3, rfl, rfl, rfl, h3, r3⟩ := trodAll_cons r2
  obtain ⟨v4, vs4, d4, ds4, p4, q4, rfl, rfl, rfl, h4, r4⟩ := trodAll_cons r3
  obtain ⟨rfl, rfl, rfl⟩ := trodAll_nil r4
  obtain rfl : args = #[v0, v1, v2, v3, v4] := by cases args; simp_all
  obtain ⟨rfl, rfl⟩ := trodVars_none hV
  have lt0 : ∀ x ∈ p0, x.block < W.heap.size := by obtain ⟨m, hm⟩ := h0; exact DataW.trod_lt m _ _ _ hm
  obtain ⟨l0, hl0, rfl⟩ := Mi.open_six (hval 0 92 v0 rfl rfl) h0
  have lt1 : ∀ x ∈ p1, x.block < W.heap.size := by obtain ⟨m, hm⟩ := h1; exact DataW.trod_lt m _ _ _ hm
  obtain ⟨l1, hl1, rfl⟩ := Mi.open_six (hval 1 92 v1 rfl rfl) h1
  obtain ⟨a2, rfl, rfl, rfl, w2⟩ := open_int Try.underlying5 (hval 2 5 v2 rfl rfl) h2
  have b2 := bounds_u8 w2
  obtain ⟨a3, rfl, rfl, rfl, w3⟩ := open_int Try.underlying5 (hval 3 5 v3 rfl rfl) h3
  have b3 := bounds_u8 w3
  obtain ⟨a4, rfl, rfl, rfl, w4⟩ := open_int Try.underlying5 (hval 4 5 v4 rfl rfl) h4
  have b4 := bounds_u8 w4
  clear hA0 hval0
  refine (mirrorChooses_any W l0 hl0 l1 hl1 a2 b2 a3 b3 a4 b4).mono fun e W' ⟨he, bel⟩ => ?_
  subst he
  exact ⟨_, rfl, _, _, _, [], _, [], hW', trodAll_mk1 (shut_bool Try.underlying4 _), (trodAll_cons_mk (Below.trod mirrorChooses_laid (by kernel_rfl) (of_decide_eq_true (by kernel_rfl)) h0 bel lt0) (trodAll_cons_mk (Below.trod mirrorChooses_laid (by kernel_rfl) (of_decide_eq_true (by kernel_rfl)) h1 bel lt1) (trodAll_cons_mk (shut_int Try.underlying5 w2) (trodAll_cons_mk (shut_int Try.underlying5 w3) (trodAll_cons_mk (shut_int Try.underlying5 w4) trodAll_mk0))))), rfl, bel.frame _, fun h => by cases h⟩

theorem mirrorChooses_holds : Rows.MirrorChoosesSaid :=
  OpenClaim.holds_of_wide 15 Try.f15 rfl rfl rfl rfl rfl rfl rfl ⟨rfl, rfl, rfl, rfl, rfl⟩ rfl rfl rfl rfl rfl (by kernel_rfl) Try.func15 (by kernel_rfl)
    (of_decide_eq_true (by kernel_rfl)) (by unfold Func.isWrapper; rw [if_neg (of_decide_eq_false (by kernel_rfl))]; exact ⟨rfl, rfl⟩)
    (fun os started H enc _ => mirrorChooses_lifted os started H enc)

#print axioms mirrorChooses_holds

end Go.Proofs.Ytniamllcoemikaa
