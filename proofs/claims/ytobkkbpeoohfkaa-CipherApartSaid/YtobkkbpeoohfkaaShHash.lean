/-
  The contracts of New and Write: what is kept of a text that comes in pieces.
-/
import Derived.Test.YtobkkbpeoohfkaaShHashL
import Derived.Test.YtobkkbpeoohfkaaShComp
import Derived.Test.YtobkkbpeoohfkaaShOver
import Derived.Test.YtobkkbpeoohfkaaHere
namespace Go.Proofs.Ytobkkbpeoohfkaa
open Go.RowKit
attribute [local go_sem ↓] Go.wp_at_zero Go.wp_at_succ
/-- Block g keeps what is kept of the text t. -/
def HashIs (w : World) (g : Nat) (t : List UInt8) : Prop :=
  ∃ ws rs, ws.length = 8 ∧ rs.length = 64 ∧ (t ≠ [] → Kept t ws rs) ∧ Blk w g (hC ws rs t.length).toArray 87
theorem HashIs.far {w w' : World} {g g' : Nat} {t : List UInt8} (h : HashIs w g' t) (hg : w.grownBy w' (some g)) (hne : g' ≠ g) : HashIs w' g' t := by
  obtain ⟨ws, rs, h1, h2, h3, h4⟩ := h
  exact ⟨ws, rs, h1, h2, h3, blk_far h4 hg hne⟩
theorem HashIs.below {w w' : World} {g : Nat} {t : List UInt8} (h : HashIs w g t) (hb : Below w.heap.size w w') : HashIs w' g t := by
  obtain ⟨ws, rs, h1, h2, h3, h4⟩ := h
  exact ⟨ws, rs, h1, h2, h3, h4.below hb⟩
theorem HashIs.lt {w : World} {g : Nat} {t : List UInt8} (h : HashIs w g t) : g < w.heap.size := by
  obtain ⟨ws, rs, _, _, _, h4⟩ := h
  exact h4.lt
theorem hashIs_new (w : World) : HashIs (w.alloc (.cells (hC (List.replicate 8 0) (List.replicate 64 0) 0).toArray 87)) w.heap.size [] :=
  ⟨_, _, rfl, rfl, fun h => absurd rfl h, heap_alloc_new _ _⟩
def RetNew (w : World) (e : Ending) (w' : World) : Prop := e = .returned (.pointer (some ⟨w.heap.size, 0, none⟩)) ∧ HashIs w' w.heap.size [] ∧ Below w.heap.size w w'
theorem new_any (w : World) : Calls Try.prog 50 #[] w (RetNew w) := by
  have H1 := Lib.hid (hashIs_new w)
  have hz : ∀ W, (zeroValue 87).run Try.prog W = .ok (.agg (hC (List.replicate 8 0) (List.replicate 64 0) 0).toArray) W := fun _ => by kernel_rfl
  go_enter Try.func50, Try.ntmps50
  go_wp2_with fail
  go_ret
  exact ⟨rfl, H1.out, (Below.refl _ _).alloc (Nat.le_refl _) _⟩
/-- What a Write leaves. -/
def RetWrote (g : Nat) (t : List UInt8) (w : World) (e : Ending) (w' : World) : Prop := e = .returned (.tuple #[]) ∧ HashIs w' g t ∧ w.grownBy w' (some g)
set_option maxHeartbeats 12800000 in
theorem write_some (g : Nat) (t l : List UInt8) (A : Option Addr) (n c : Nat) (w : World) (hl : l.length = n) (hnc : n ≤ c) (hcm : c ≤ maxLen) (hn : 0 < n) (hH : HashIs w g t) (hr : Rf g w A (bv l)) (hsz : t.length + n ≤ 1099511627776) :
    Calls Try.prog 51 #[.pointer (some ⟨g, 0, none⟩), .slice A n c] w (RetWrote g (t ++ l) w) := by
  unfold maxLen at hcm
  obtain ⟨ws, rs, h8, h64, hk, hB⟩ := hH
  have HL := Lib.hid hl
  have HR := Lib.hid hr
  clear hl hr
  have hl0 : ¬ n = 0 := by omega
  have hnb : ((n : Int) == 0) = false := by simp; omega
  -- the loop, behind the test for a first byte
  obtain ⟨s0, hs0⟩ : ∃ s0, s0 = t.length := ⟨_, rfl⟩
  have hs0b : s0 ≤ 1099511627776 := by omega
  have C72 := hC_size h8 h64 hB
  rw [← hs0] at C72
  have HB := Lib.hid hB
  have HS0 := Lib.hid hs0
  have H64 := Lib.hid h64
  have H8 := Lib.hid h8
  have HK := Lib.hid hk
  clear hB hs0 h64 h8 hk
  rcases Nat.eq_zero_or_pos s0 with ht | ht
  go_enter Try.func51, Try.ntmps51
  go_wp2_with fail
  refine (firstWords_any _).mono ?_
  rintro e w1 ⟨rfl, bw1⟩
  have D1 := Lib.hid (HB.out.below bw1)
  have GR := Lib.hid (grown_of_below (row := some g) bw1)
  clear bw1 HB C72
  go_wp2_with (refine wpList_store_mid rfl 60 (.tmp 20) (.tmp 18) rfl g 0 (uv firstL) rfl rfl (there_of_blk D1.out (by rw [uv_size, hC_length H8.out H64.out]; decide)) (by rw [uv_size]; exact info28) (uv_one _) ?_
               generalize hw2 : World.setCells _ _ _ _ = wr0
               have q1 : Blk wr0 g (hC firstL rs t.length).toArray 87 := by rw [← hw2]; exact hC_setWords H8.out D1.out firstL_length
               have q2 : w.grownBy wr0 (some g) := by rw [← hw2]; exact grown_trans GR.out (grown_setCells _ _ _ _)
               have Q1 := Lib.hid q1
               have Q2 := Lib.hid q2
               clear q1 q2 hw2 D1 GR)
  simp only [Act.put]
  have QK : Hid (Kept t firstL rs) := by
    have e : t = [] := List.eq_nil_of_length_eq_zero (by rw [← HS0.out]; exact ht)
    show _
    rw [e]; exact Kept.first H64.out
  clear HK
  obtain ⟨ws1, hws1⟩ : ∃ ws1, ws1 = firstL := ⟨_, rfl⟩
  rw [← hws1] at Q1 QK
  clear hws1 H8 ws
  rotate_left
  have ht1 : ((s0 : Int) == 0) = false := by simp; omega
  have Q2 := Lib.hid (World.grownBy.refl w (some g))
  have QK := Lib.hid (HK.out (by intro e; rw [HS0.out, e] at ht; exact absurd ht (by decide)))
  have Q1 := HB
  obtain ⟨wr0, hwr0⟩ : ∃ wr0, wr0 = w := ⟨_, rfl⟩
  go_enter Try.func51, Try.ntmps51
  go_wp2_with fail
  obtain ⟨ws1, rfl⟩ : ∃ ws1, ws1 = ws := ⟨_, rfl⟩
  clear HB C72 HK H8
  · go_loopw [1, 4] (fun v _ wr => ∃ (j m d : Nat) (A' : Option Addr) (ws rs : List _), v = .slice A' m d ∧ m ≤ d ∧ d ≤ c ∧ Hid (m + j = n) ∧ Rf g wr A' (bv (l.drop j)) ∧ Kept (t ++ l.take j) ws rs ∧ Blk wr g (hC ws rs (s0 + j)).toArray 87 ∧ w.grownBy wr (some g)) (fun v _ _ => match v with | .slice _ m _ => m | _ => 0)
    case atStart =>
      refine ⟨0, n, c, A, ws1, rs, rfl, hnc, Nat.le_refl _, by show n + 0 = n; omega, ?_, ?_, ?_, Q2.out⟩
      · rw [List.drop_zero]; exact HR.out.grown Q2.out
      · rw [List.take_zero, List.append_nil]; exact QK.out
      · rw [HS0.out]; exact Q1.out
    case round =>
      clear Q1 Q2 QK HR
      obtain ⟨j, m, d, A', ws, rs, rfl, hmd, hdc, HM, hrf, hkept, hblk, hgr⟩ := hrel
      by_cases hlt : 0 < m
      · obtain ⟨s, hs⟩ : ∃ s, s = s0 + j := ⟨_, rfl⟩
        have hsb : s ≤ 1099511627776 := by have := HM.out; have := HS0.out; omega
        rw [← hs] at hblk
        obtain ⟨r, hr⟩ : ∃ r, r = s % 64 := ⟨_, rfl⟩
        obtain ⟨k, hk⟩ : ∃ k, k = min (64 - r) m := ⟨_, rfl⟩
        have hr64 : r < 64 := by omega
        have hk1 : 1 ≤ k ∧ k ≤ m ∧ k ≤ 64 - r := by omega
        have et : (s : Int).tmod 64 = (r : Int) := by rw [Int.tmod_eq_emod_of_nonneg (by omega)]; omega
        have er : (s : Int) % 64 = (r : Int) := by omega
        have sn0 : (0 : Int) ≤ (s : Int) := by omega
        have r0 : (0 : Int) ≤ (r : Int) := by omega
        have r1 : (r : Int) ≤ 64 := by omega
        have r2 : ¬ 64 = r := by omega
        have CS := Lib.hid (hC_size hkept.eight hkept.room hblk)
        have H8 := Lib.hid hkept.eight
        have H64 := Lib.hid hkept.room
        have hld : (l.drop j).length = m := by rw [List.length_drop, HL.out]; have := HM.out; omega
        obtain ⟨ad, rfl, hadg, hsrc⟩ := hrf.src (by rw [bv_length, hld]; exact hlt)
        have HRF := Lib.hid hrf
        have HKP := Lib.hid hkept
        have HBK := Lib.hid hblk
        have HGR := Lib.hid hgr
        have HSRC := Lib.hid hsrc
        have HLD := Lib.hid hld
        have HS := Lib.hid hs
        have HRR := Lib.hid hr
        have HKK := Lib.hid hk
        have hcl : ((l.drop j).take k).length = k := by rw [List.length_take, hld]; omega
        have HCL := Lib.hid hcl
        clear hrf hkept hblk hgr hsrc hld hs hr hk hcl
        go_wp2_with fail
        refine wp_region_held_drew (S := fun w' => w'.cell? ⟨g, 72, none⟩ = some (.int .u64 (s : Int))) (by kernel_rfl) CS.out (fun hh => ?_)
        have HH := Lib.hid hh
        clear hh
        refine wpAnyH_take (i := 0) (v := ?va0) rfl (by kernel_rfl) (by kernel_rfl) (by kernel_rfl) (fun _ _ _ h => h) (Or.inl ⟨by rfl, fun w' _ => ?ya0⟩) HH.out ?_
        case ya0 => (go_simp; try with_reducible rfl)
        refine wpAnyH_take (i := 1) (v := ?va1) rfl (by kernel_rfl) (by kernel_rfl) (by kernel_rfl) (fun _ _ _ h => h) (Or.inl ⟨by rfl, fun w' _ => ?ya1⟩) HH.out ?_
        case ya1 => (go_simp; try with_reducible rfl)
        refine wpAnyH_take (i := 2) (v := ?va2) rfl (by kernel_rfl) (by kernel_rfl) (by kernel_rfl) (fun _ _ _ h => h) (Or.inl ⟨by rfl, fun w' _ => ?ya2⟩) HH.out ?_
        case ya2 => (go_simp; try with_reducible rfl)
        refine wpAnyH_take (i := 3) (v := ?va3) rfl (by kernel_rfl) (by kernel_rfl) (by kernel_rfl) (fun _ _ _ h => h) (Or.inl ⟨by rfl, fun w' _ => ?ya3⟩) HH.out ?_
        case ya3 => (go_simp; try with_reducible rfl)
        refine wpAnyH_take (i := 4) (v := ?va4) rfl (by kernel_rfl) (by kernel_rfl) (by kernel_rfl) (fun _ _ _ h => h) (Or.inl ⟨by rfl, fun w' _ => ?ya4⟩) HH.out ?_
        case ya4 => (go_simp; try with_reducible rfl)
        refine wpAnyH_take (i := 5) (v := ?va5) rfl (by kernel_rfl) (by kernel_rfl) (by kernel_rfl) (fun _ _ _ h => h) (Or.inl ⟨by rfl, fun w' _ => ?ya5⟩) HH.out ?_
        case ya5 => (go_simp; try with_reducible rfl)
        refine wpAnyH_take (i := 6) (v := ?va6) rfl (by kernel_rfl) (by kernel_rfl) (by kernel_rfl) (fun _ _ _ h => h) (Or.inl ⟨by rfl, fun w' hw' => ?ya6⟩) HH.out ?_
        case ya6 => (go_simp; (try rw [hw']); try with_reducible rfl)
        refine wpAnyH_take (i := 7) (v := ?va7) rfl (by kernel_rfl) (by kernel_rfl) (by kernel_rfl) (fun _ _ _ h => h) (Or.inl ⟨by rfl, fun w' _ => ?ya7⟩) HH.out ?_
        case ya7 => (go_simp; try with_reducible rfl)
        refine wpAnyH_take (i := 8) (v := ?va8) rfl (by kernel_rfl) (by kernel_rfl) (by kernel_rfl) (fun _ _ _ h => h) (Or.inl ⟨by rfl, fun w' _ => ?ya8⟩) HH.out ?_
        case ya8 => (go_simp; try with_reducible rfl)
        refine wpAnyH_take (i := 9) (v := ?va9) rfl (by kernel_rfl) (by kernel_rfl) (by kernel_rfl) (fun _ _ _ h => h) (Or.inl ⟨by rfl, fun w' _ => ?ya9⟩) HH.out ?_
        case ya9 => (go_simp; try with_reducible rfl)
        simp only [List.getElem_toArray, List.getElem_cons_succ, List.getElem_cons_zero, Act.put, List.setIfInBounds_toArray, List.set_cons_zero, List.set_cons_succ]
        refine wpAnyH_ready (rs := [10]) (by kernel_rfl) (by simp) (AllReadyH.cons rfl (fun K hK => ?_) AllReadyH.nil)
        refine step_copy_set rfl (.tmp 32) (.tmp 33) 33 33 rfl 5 Try.underlying33 info5 ad g (8 + r) (64 - r) (64 - r) m d rfl rfl (hC ws rs s) 87 ?ca3 (bv ((l.drop j).take k)) ?ca1 ?ca4 ?ca2 (bv_one _) k (by rw [bv_length, HCL.out]) ?_
        case ca3 => exact HBK.out
        case ca4 =>
          intro i v hv
          show wr.cell? (ad.add i) = some v
          exact HSRC.out i v (bv_take_get hv)
        case ca1 => rw [bv_length, HCL.out]; show k = min m (64 - r); rw [HKK.out, Nat.min_comm]
        case ca2 => rw [bv_length, HCL.out, hC_length H8.out H64.out]; omega
        obtain ⟨rs', hrs'⟩ : ∃ rs', rs' = splice rs r ((l.drop j).take k) := ⟨_, rfl⟩
        generalize hw1 : World.setRow _ _ _ = wr1
        have q1 : Blk wr1 g (hC ws rs' s).toArray 87 := by
          rw [← hw1, hrs', hC_splice H8.out (by rw [HCL.out, H64.out]; omega)]; exact setRow_heap _ _ _ _ _ _ HBK.out
        have q2 : wr.grownBy wr1 (some g) := by rw [← hw1]; exact grown_trans (grown_drew _ _) (grown_setRow _ _ _)
        have HRS : Hid (rs'.length = 64) := by show _ = _; rw [hrs', length_splice _ _ _ (by rw [HCL.out, H64.out]; omega), H64.out]
        have c72 := hC_size H8.out HRS.out q1
        have f72 := q1.free 72
        refine hK.out _ _ c72 (fun hh => ?_)
        clear hh hK K HH
        refine wpAnyH_take (i := 11) (v := ?va11) rfl (by kernel_rfl) (by kernel_rfl) (by kernel_rfl) (fun _ _ _ h => h) (Or.inl ⟨by rfl, fun w' _ => ?ya11⟩) c72 ?_
        case ya11 => (go_simp; try with_reducible rfl)
        refine wpAnyH_done (by kernel_rfl) ?_ _
        obtain ⟨s', hs'⟩ : ∃ s', s' = s + k := ⟨_, rfl⟩
        have es' : (s : Int) + (k : Int) = (s' : Int) := by omega
        have hs'b : s' ≤ 2199023255552 := by omega
        have k0 : (0 : Int) ≤ (k : Int) := by omega
        have kd : (k : Int) ≤ (d : Int) := by omega
        have km : (k : Int) ≤ (m : Int) := by omega
        have hG2 : Blk (wr1.setCell ⟨g, 72, none⟩ (.int .u64 (s' : Int))) g (hC ws rs' s').toArray 87 := hC_setSize H8.out HRS.out q1 s' rfl
        have hGR2 : w.grownBy (wr1.setCell ⟨g, 72, none⟩ (.int .u64 (s' : Int))) (some g) := grown_trans (grown_trans HGR.out q2) (grown_setCell _ _ _ _)
        obtain ⟨AA, hAA⟩ : ∃ AA, AA = if d = k then some ad else some (ad.add k) := ⟨_, rfl⟩
        have hRF2 : Rf g (wr1.setCell ⟨g, 72, none⟩ (.int .u64 (s' : Int))) AA (bv (l.drop (j + k))) := by
          by_cases hd : d = k
          · have e : l.drop (j + k) = [] := List.drop_of_length_le (by rw [HL.out]; have := HM.out; omega)
            rw [e]; exact Rf.none'
          · rw [hAA, if_neg hd, ← List.drop_drop]
            exact (HRF.out.grown (grown_trans q2 (grown_setCell _ _ _ _))).drop k
        have hT : (t ++ l.take j).length = s := by rw [List.length_append, List.length_take, HL.out, HS.out, HS0.out]; have := HM.out; omega
        have hTK : t ++ l.take (j + k) = (t ++ l.take j) ++ (l.drop j).take k := by rw [List.take_add, List.append_assoc]
        have HK2 : Hid (r + k < 64 → Kept (t ++ l.take (j + k)) ws rs') := by
          intro h
          have h1 := HKP.out.more (cs := (l.drop j).take k) (by rw [hT, HCL.out, ← HRR.out]; exact h)
          rw [hT, ← HRR.out, ← hTK, ← hrs'] at h1
          exact h1
        have HK3 : Hid (r + k = 64 → Kept (t ++ l.take (j + k)) (compL ws rs') (List.replicate 64 0)) := by
          intro h
          have h1 := HKP.out.full (cs := (l.drop j).take k) (by rw [hT, HCL.out, ← HRR.out]; exact h)
          rw [hT, ← HRR.out, ← hTK, ← hrs'] at h1
          exact h1
        have HE : Hid (s' = s0 + (j + k)) := by show _ = _; rw [hs', HS.out, Nat.add_assoc]
        have G2 := Lib.hid hG2
        have GR2 := Lib.hid hGR2
        have RF2 := Lib.hid hRF2
        have HAA := Lib.hid hAA
        have hrr := HRR.out
        obtain ⟨r', hr'⟩ : ∃ r', r' = s' % 64 := ⟨_, rfl⟩
        have er' : (s' : Int) % 64 = (r' : Int) := by omega
        have hfr : r + k < 64 ∧ r' = r + k ∨ r + k = 64 ∧ r' = 0 := by omega
        clear hs' hrr hr' hG2 hGR2 hRF2 hAA hT hTK hrs' hw1 q1 q2 HRF HBK HGR HSRC HLD
        rcases hfr with ⟨hf, hrk⟩ | ⟨hf, hrk⟩
        · have hb : ((r' : Int) == 0) = false := by simp; omega
          have KK := Lib.hid (HK2.out hf)
          clear HK2 HK3
          by_cases hd : d = k
          · have HA1 : Hid (AA = some ad) := by show _ = _; rw [HAA.out, if_pos hd]
            subst hd
            clear HAA
            go_wp2_with fail
            refine ⟨⟨j + d, 0, 0, some ad, ws, rs', rfl, Nat.le_refl _, by omega, (by have := HM.out; show 0 + (j + d) = n; omega), ?_, KK.out, ?_, GR2.out⟩, hlt⟩
            · rw [← HA1.out]; exact RF2.out
            · rw [← HE.out]; exact G2.out
          · have HA1 : Hid (AA = some (ad.add k)) := by show _ = _; rw [HAA.out, if_neg hd]
            clear HAA
            go_wp2_with fail
            refine ⟨⟨j + k, m - k, d - k, some (ad.add k), ws, rs', rfl, by omega, by omega, (by have := HM.out; show m - k + (j + k) = n; omega), ?_, KK.out, ?_, GR2.out⟩, by show m - k < m; omega⟩
            · rw [← HA1.out]; exact RF2.out
            · rw [← HE.out]; exact G2.out
        · subst hrk
          have hb : (((0 : Nat) : Int) == 0) = true := rfl
          have KK := Lib.hid (HK3.out hf)
          clear HK2 HK3
          by_cases hd : d = k
          · have HA1 : Hid (AA = some ad) := by show _ = _; rw [HAA.out, if_pos hd]
            subst hd
            clear HAA
            go_wp2_with fail
            refine wp_region_any (by kernel_rfl) ?_
            change wpAny _ _ _ _ _ _ _ (World.drew _)
            refine wpAny_take (i := 0) (v := ?vap0) rfl (by kernel_rfl) (by kernel_rfl) (by kernel_rfl) (fun _ _ _ h => h) (Or.inl ⟨by rfl, ?yap0⟩) ?_
            case yap0 => (intro w'; go_simp; try with_reducible rfl)
            refine wpAny_take (i := 1) (v := ?vap1) rfl (by kernel_rfl) (by kernel_rfl) (by kernel_rfl) (fun _ _ _ h => h) (Or.inl ⟨by rfl, ?yap1⟩) ?_
            case yap1 => (intro w'; go_simp; try with_reducible rfl)
            refine wpAny_take (i := 2) (v := ?vap2) rfl (by kernel_rfl) (by kernel_rfl) (by kernel_rfl) (fun _ _ _ h => h) (Or.inl ⟨by rfl, ?yap2⟩) ?_
            case yap2 => (intro w'; go_simp; try with_reducible rfl)
            refine wpAny_take (i := 3) (v := ?vap3) rfl (by kernel_rfl) (by kernel_rfl) (by kernel_rfl) (fun _ _ _ h => h) (Or.inl ⟨by rfl, ?yap3⟩) ?_
            case yap3 => (intro w'; go_simp; try with_reducible rfl)
            refine wpAny_take (i := 5) (v := ?vap5) rfl (by kernel_rfl) (by kernel_rfl) (by kernel_rfl) (fun _ _ _ h => h) (Or.inl ⟨by rfl, ?yap5⟩) ?_
            case yap5 => (intro w'; go_simp; try with_reducible rfl)
            refine wpAny_take (i := 6) (v := ?vap6) rfl (by kernel_rfl) (by kernel_rfl) (by kernel_rfl) (fun _ _ _ h => h) (Or.inl ⟨by rfl, ?yap6⟩) ?_
            case yap6 => (intro w'; go_simp; try with_reducible rfl)
            refine wpAny_take (i := 7) (v := ?vap7) rfl (by kernel_rfl) (by kernel_rfl) (by kernel_rfl) (fun _ _ _ h => h) (Or.inl ⟨by rfl, ?yap7⟩) ?_
            case yap7 => (intro w'; go_simp; try with_reducible rfl)
            simp only [List.getElem_toArray, List.getElem_cons_succ, List.getElem_cons_zero, Act.put, List.setIfInBounds_toArray, List.set_cons_zero, List.set_cons_succ]
            refine wpAny_look (i := 4) (v := .agg (uv ws)) rfl (by kernel_rfl) (by kernel_rfl) (by kernel_rfl) (fun _ _ _ h => h) (by rfl) ?yap4 ?_
            case yap4 => exact exec_load_mid 60 (.tmp 56) rfl g 0 rfl (uvl ws) _ (hC_words G2.out) Try.underlying60 rfl (by rw [uvl_length, H8.out]; exact info28)
            refine wpAny_look (i := 8) (v := .agg (bva rs')) rfl (by kernel_rfl) (by kernel_rfl) (by kernel_rfl) (fun _ _ _ h => h) (by rfl) ?yap8 ?_
            case yap8 => exact exec_load_mid 52 (.tmp 60) rfl g 8 rfl (bv rs') _ (hC_rest H8.out G2.out) Try.underlying52 rfl (by rw [bv_length, HRS.out]; exact info29)
            refine wpAny_ready (rs := [9]) (by kernel_rfl) (by simp) (AllReady.cons rfl (fun K hK => ?_) AllReady.nil)
            go_simp
            refine (compress_any ws rs' H8.out HRS.out _).mono ?_
            rintro e w3 ⟨rfl, bw3⟩
            have z1 : Blk w3 g (hC ws rs' s').toArray 87 := Blk.below (show Blk (World.drew (wr1.setCell ⟨g, 72, none⟩ (.int .u64 (s' : Int)))) g (hC ws rs' s').toArray 87 from G2.out) bw3
            have z2 : w.grownBy w3 (some g) := grown_trans GR2.out (grown_trans (grown_drew _ _) (grown_of_below bw3))
            have z3 : Rf g w3 AA (bv (l.drop (j + d))) := RF2.out.grown (grown_trans (grown_drew _ _) (grown_of_below bw3))
            have Z1 := Lib.hid z1
            have Z2 := Lib.hid z2
            have Z3 := Lib.hid z3
            clear z1 z2 z3 G2 GR2 RF2 bw3
            go_simp
            refine hK _ _ ?_
            clear hK K
            refine wpAny_take (i := 10) (v := ?vap10) rfl (by kernel_rfl) (by kernel_rfl) (by kernel_rfl) (fun _ _ _ h => h) (Or.inl ⟨by rfl, ?yap10⟩) ?_
            case yap10 => (intro w'; go_simp; try with_reducible rfl)
            refine wpAny_take (i := 11) (v := ?vap11) rfl (by kernel_rfl) (by kernel_rfl) (by kernel_rfl) (fun _ _ _ h => h) (Or.inl ⟨by rfl, ?yap11⟩) ?_
            case yap11 => (intro w'; go_simp; try with_reducible rfl)
            simp only [List.getElem_toArray, List.getElem_cons_succ, List.getElem_cons_zero, Act.put, List.setIfInBounds_toArray, List.set_cons_zero, List.set_cons_succ]
            refine wpAny_ready (rs := [12]) (by kernel_rfl) (by simp) (AllReady.cons rfl (fun K hK => ?_) AllReady.nil)
            rw [if_pos (by rfl)]
            refine wp_store_mid 60 (.tmp 64) (.tmp 62) rfl g 0 (uv (compL ws rs')) rfl rfl (there_of_blk Z1.out (by rw [uv_size, compL_length, H8.out, hC_length H8.out HRS.out]; decide)) (by rw [uv_size, compL_length, H8.out]; exact info28) (uv_one _) ?_
            generalize hw4 : World.setCells _ _ _ _ = w4
            have y1 : Blk w4 g (hC (compL ws rs') rs' s').toArray 87 := by rw [← hw4]; exact hC_setWords H8.out Z1.out (by rw [compL_length, H8.out])
            have y2 : w.grownBy w4 (some g) := by rw [← hw4]; exact grown_trans Z2.out (grown_setCells _ _ _ _)
            have y3 : Rf g w4 AA (bv (l.drop (j + d))) := by rw [← hw4]; exact Z3.out.grown (grown_setCells _ _ _ _)
            have h8' : (compL ws rs').length = 8 := by rw [compL_length, H8.out]
            have hcl : (Builtin.clear_ #[33] 0 #[.slice (some ⟨g, 8, none⟩) 64 64]).run Try.prog w4 = .ok (.tuple #[]) (w4.setCells g 8 (List.replicate 64 (.int .u8 0))) :=
              Lib.run_clear_slice w4 33 5 0 (.int .u8 0) Try.underlying33 (fun _ => by kernel_rfl) rfl rfl g 8 64 64 (by decide) (fun i hi => (there_of_blk y1 (o := 8) (n := 64) (by rw [hC_length h8' HRS.out]; decide) i hi).1) (fun i hi => (there_of_blk y1 (o := 8) (n := 64) (by rw [hC_length h8' HRS.out]; decide) i hi).2)
            have Y1 := Lib.hid y1
            have Y2 := Lib.hid y2
            have Y3 := Lib.hid y3
            have Y8 := Lib.hid h8'
            clear y1 y2 y3 h8' Z1 Z2 Z3 hw4
            refine hK _ _ ?_
            clear hK K
            refine wpAny_done (by kernel_rfl) ?_ _
            go_wp2_with fail
            refine ⟨⟨j + d, 0, 0, some ad, compL ws rs', List.replicate 64 0, rfl, Nat.le_refl _, by omega, (by have := HM.out; show 0 + (j + d) = n; omega), ?_, KK.out, ?_, grown_trans Y2.out (grown_setCells _ _ _ _)⟩, hlt⟩
            · rw [← HA1.out]; exact Y3.out.grown (grown_setCells _ _ _ _)
            · rw [← HE.out]
              exact hC_setRest Y8.out HRS.out Y1.out (rs' := List.replicate 64 0) (by simp)
          · have HA1 : Hid (AA = some (ad.add k)) := by show _ = _; rw [HAA.out, if_neg hd]
            clear HAA
            go_wp2_with fail
            refine wp_region_any (by kernel_rfl) ?_
            change wpAny _ _ _ _ _ _ _ (World.drew _)
            refine wpAny_take (i := 0) (v := ?vaq0) rfl (by kernel_rfl) (by kernel_rfl) (by kernel_rfl) (fun _ _ _ h => h) (Or.inl ⟨by rfl, ?yaq0⟩) ?_
            case yaq0 => (intro w'; go_simp; try with_reducible rfl)
            refine wpAny_take (i := 1) (v := ?vaq1) rfl (by kernel_rfl) (by kernel_rfl) (by kernel_rfl) (fun _ _ _ h => h) (Or.inl ⟨by rfl, ?yaq1⟩) ?_
            case yaq1 => (intro w'; go_simp; try with_reducible rfl)
            refine wpAny_take (i := 2) (v := ?vaq2) rfl (by kernel_rfl) (by kernel_rfl) (by kernel_rfl) (fun _ _ _ h => h) (Or.inl ⟨by rfl, ?yaq2⟩) ?_
            case yaq2 => (intro w'; go_simp; try with_reducible rfl)
            refine wpAny_take (i := 3) (v := ?vaq3) rfl (by kernel_rfl) (by kernel_rfl) (by kernel_rfl) (fun _ _ _ h => h) (Or.inl ⟨by rfl, ?yaq3⟩) ?_
            case yaq3 => (intro w'; go_simp; try with_reducible rfl)
            refine wpAny_take (i := 5) (v := ?vaq5) rfl (by kernel_rfl) (by kernel_rfl) (by kernel_rfl) (fun _ _ _ h => h) (Or.inl ⟨by rfl, ?yaq5⟩) ?_
            case yaq5 => (intro w'; go_simp; try with_reducible rfl)
            refine wpAny_take (i := 6) (v := ?vaq6) rfl (by kernel_rfl) (by kernel_rfl) (by kernel_rfl) (fun _ _ _ h => h) (Or.inl ⟨by rfl, ?yaq6⟩) ?_
            case yaq6 => (intro w'; go_simp; try with_reducible rfl)
            refine wpAny_take (i := 7) (v := ?vaq7) rfl (by kernel_rfl) (by kernel_rfl) (by kernel_rfl) (fun _ _ _ h => h) (Or.inl ⟨by rfl, ?yaq7⟩) ?_
            case yaq7 => (intro w'; go_simp; try with_reducible rfl)
            simp only [List.getElem_toArray, List.getElem_cons_succ, List.getElem_cons_zero, Act.put, List.setIfInBounds_toArray, List.set_cons_zero, List.set_cons_succ]
            refine wpAny_look (i := 4) (v := .agg (uv ws)) rfl (by kernel_rfl) (by kernel_rfl) (by kernel_rfl) (fun _ _ _ h => h) (by rfl) ?yaq4 ?_
            case yaq4 => exact exec_load_mid 60 (.tmp 56) rfl g 0 rfl (uvl ws) _ (hC_words G2.out) Try.underlying60 rfl (by rw [uvl_length, H8.out]; exact info28)
            refine wpAny_look (i := 8) (v := .agg (bva rs')) rfl (by kernel_rfl) (by kernel_rfl) (by kernel_rfl) (fun _ _ _ h => h) (by rfl) ?yaq8 ?_
            case yaq8 => exact exec_load_mid 52 (.tmp 60) rfl g 8 rfl (bv rs') _ (hC_rest H8.out G2.out) Try.underlying52 rfl (by rw [bv_length, HRS.out]; exact info29)
            refine wpAny_ready (rs := [9]) (by kernel_rfl) (by simp) (AllReady.cons rfl (fun K hK => ?_) AllReady.nil)
            go_simp
            refine (compress_any ws rs' H8.out HRS.out _).mono ?_
            rintro e w3 ⟨rfl, bw3⟩
            have z1 : Blk w3 g (hC ws rs' s').toArray 87 := Blk.below (show Blk (World.drew (wr1.setCell ⟨g, 72, none⟩ (.int .u64 (s' : Int)))) g (hC ws rs' s').toArray 87 from G2.out) bw3
            have z2 : w.grownBy w3 (some g) := grown_trans GR2.out (grown_trans (grown_drew _ _) (grown_of_below bw3))
            have z3 : Rf g w3 AA (bv (l.drop (j + k))) := RF2.out.grown (grown_trans (grown_drew _ _) (grown_of_below bw3))
            have Z1 := Lib.hid z1
            have Z2 := Lib.hid z2
            have Z3 := Lib.hid z3
            clear z1 z2 z3 G2 GR2 RF2 bw3
            go_simp
            refine hK _ _ ?_
            clear hK K
            refine wpAny_take (i := 10) (v := ?vaq10) rfl (by kernel_rfl) (by kernel_rfl) (by kernel_rfl) (fun _ _ _ h => h) (Or.inl ⟨by rfl, ?yaq10⟩) ?_
            case yaq10 => (intro w'; go_simp; try with_reducible rfl)
            refine wpAny_take (i := 11) (v := ?vaq11) rfl (by kernel_rfl) (by kernel_rfl) (by kernel_rfl) (fun _ _ _ h => h) (Or.inl ⟨by rfl, ?yaq11⟩) ?_
            case yaq11 => (intro w'; go_simp; try with_reducible rfl)
            simp only [List.getElem_toArray, List.getElem_cons_succ, List.getElem_cons_zero, Act.put, List.setIfInBounds_toArray, List.set_cons_zero, List.set_cons_succ]
            refine wpAny_ready (rs := [12]) (by kernel_rfl) (by simp) (AllReady.cons rfl (fun K hK => ?_) AllReady.nil)
            rw [if_pos (by rfl)]
            refine wp_store_mid 60 (.tmp 64) (.tmp 62) rfl g 0 (uv (compL ws rs')) rfl rfl (there_of_blk Z1.out (by rw [uv_size, compL_length, H8.out, hC_length H8.out HRS.out]; decide)) (by rw [uv_size, compL_length, H8.out]; exact info28) (uv_one _) ?_
            generalize hw4 : World.setCells _ _ _ _ = w4
            have y1 : Blk w4 g (hC (compL ws rs') rs' s').toArray 87 := by rw [← hw4]; exact hC_setWords H8.out Z1.out (by rw [compL_length, H8.out])
            have y2 : w.grownBy w4 (some g) := by rw [← hw4]; exact grown_trans Z2.out (grown_setCells _ _ _ _)
            have y3 : Rf g w4 AA (bv (l.drop (j + k))) := by rw [← hw4]; exact Z3.out.grown (grown_setCells _ _ _ _)
            have h8' : (compL ws rs').length = 8 := by rw [compL_length, H8.out]
            have hcl : (Builtin.clear_ #[33] 0 #[.slice (some ⟨g, 8, none⟩) 64 64]).run Try.prog w4 = .ok (.tuple #[]) (w4.setCells g 8 (List.replicate 64 (.int .u8 0))) :=
              Lib.run_clear_slice w4 33 5 0 (.int .u8 0) Try.underlying33 (fun _ => by kernel_rfl) rfl rfl g 8 64 64 (by decide) (fun i hi => (there_of_blk y1 (o := 8) (n := 64) (by rw [hC_length h8' HRS.out]; decide) i hi).1) (fun i hi => (there_of_blk y1 (o := 8) (n := 64) (by rw [hC_length h8' HRS.out]; decide) i hi).2)
            have Y1 := Lib.hid y1
            have Y2 := Lib.hid y2
            have Y3 := Lib.hid y3
            have Y8 := Lib.hid h8'
            clear y1 y2 y3 h8' Z1 Z2 Z3 hw4
            refine hK _ _ ?_
            clear hK K
            refine wpAny_done (by kernel_rfl) ?_ _
            go_wp2_with fail
            refine ⟨⟨j + k, m - k, d - k, some (ad.add k), compL ws rs', List.replicate 64 0, rfl, by omega, by omega, (by have := HM.out; show m - k + (j + k) = n; omega), ?_, KK.out, ?_, grown_trans Y2.out (grown_setCells _ _ _ _)⟩, by show m - k < m; omega⟩
            · rw [← HA1.out]; exact Y3.out.grown (grown_setCells _ _ _ _)
            · rw [← HE.out]
              exact hC_setRest Y8.out HRS.out Y1.out (rs' := List.replicate 64 0) (by simp)
      · obtain rfl : m = 0 := by omega
        have hjn : j = n := by have := HM.out; omega
        have hfin : HashIs wr g (t ++ l) := by
          rw [hjn, List.take_of_length_le (by rw [HL.out]; exact Nat.le_refl _)] at hkept
          refine ⟨ws, rs, hkept.eight, hkept.room, fun _ => hkept, ?_⟩
          rw [List.length_append, HL.out, ← HS0.out, ← hjn]; exact hblk
        have HF := Lib.hid hfin
        have HG := Lib.hid hgr
        clear hfin hgr hkept hblk hrf
        go_wp2
        go_end0
        exact ⟨rfl, HF.out, HG.out⟩
  · go_loopw [1, 4] (fun v _ wr => ∃ (j m d : Nat) (A' : Option Addr) (ws rs : List _), v = .slice A' m d ∧ m ≤ d ∧ d ≤ c ∧ Hid (m + j = n) ∧ Rf g wr A' (bv (l.drop j)) ∧ Kept (t ++ l.take j) ws rs ∧ Blk wr g (hC ws rs (s0 + j)).toArray 87 ∧ w.grownBy wr (some g)) (fun v _ _ => match v with | .slice _ m _ => m | _ => 0)
    case atStart =>
      refine ⟨0, n, c, A, ws1, rs, rfl, hnc, Nat.le_refl _, by show n + 0 = n; omega, ?_, ?_, ?_, Q2.out⟩
      · rw [List.drop_zero]; exact HR.out.grown Q2.out
      · rw [List.take_zero, List.append_nil]; exact QK.out
      · rw [HS0.out]; exact Q1.out
    case round =>
      clear Q1 Q2 QK HR
      obtain ⟨j, m, d, A', ws, rs, rfl, hmd, hdc, HM, hrf, hkept, hblk, hgr⟩ := hrel
      by_cases hlt : 0 < m
      · obtain ⟨s, hs⟩ : ∃ s, s = s0 + j := ⟨_, rfl⟩
        have hsb : s ≤ 1099511627776 := by have := HM.out; have := HS0.out; omega
        rw [← hs] at hblk
        obtain ⟨r, hr⟩ : ∃ r, r = s % 64 := ⟨_, rfl⟩
        obtain ⟨k, hk⟩ : ∃ k, k = min (64 - r) m := ⟨_, rfl⟩
        have hr64 : r < 64 := by omega
        have hk1 : 1 ≤ k ∧ k ≤ m ∧ k ≤ 64 - r := by omega
        have et : (s : Int).tmod 64 = (r : Int) := by rw [Int.tmod_eq_emod_of_nonneg (by omega)]; omega
        have er : (s : Int) % 64 = (r : Int) := by omega
        have sn0 : (0 : Int) ≤ (s : Int) := by omega
        have r0 : (0 : Int) ≤ (r : Int) := by omega
        have r1 : (r : Int) ≤ 64 := by omega
        have r2 : ¬ 64 = r := by omega
        have CS := Lib.hid (hC_size hkept.eight hkept.room hblk)
        have H8 := Lib.hid hkept.eight
        have H64 := Lib.hid hkept.room
        have hld : (l.drop j).length = m := by rw [List.length_drop, HL.out]; have := HM.out; omega
        obtain ⟨ad, rfl, hadg, hsrc⟩ := hrf.src (by rw [bv_length, hld]; exact hlt)
        have HRF := Lib.hid hrf
        have HKP := Lib.hid hkept
        have HBK := Lib.hid hblk
        have HGR := Lib.hid hgr
        have HSRC := Lib.hid hsrc
        have HLD := Lib.hid hld
        have HS := Lib.hid hs
        have HRR := Lib.hid hr
        have HKK := Lib.hid hk
        have hcl : ((l.drop j).take k).length = k := by rw [List.length_take, hld]; omega
        have HCL := Lib.hid hcl
        clear hrf hkept hblk hgr hsrc hld hs hr hk hcl
        go_wp2_with fail
        refine wp_region_held_drew (S := fun w' => w'.cell? ⟨g, 72, none⟩ = some (.int .u64 (s : Int))) (by kernel_rfl) CS.out (fun hh => ?_)
        have HH := Lib.hid hh
        clear hh
        refine wpAnyH_take (i := 0) (v := ?vb0) rfl (by kernel_rfl) (by kernel_rfl) (by kernel_rfl) (fun _ _ _ h => h) (Or.inl ⟨by rfl, fun w' _ => ?yb0⟩) HH.out ?_
        case yb0 => (go_simp; try with_reducible rfl)
        refine wpAnyH_take (i := 1) (v := ?vb1) rfl (by kernel_rfl) (by kernel_rfl) (by kernel_rfl) (fun _ _ _ h => h) (Or.inl ⟨by rfl, fun w' _ => ?yb1⟩) HH.out ?_
        case yb1 => (go_simp; try with_reducible rfl)
        refine wpAnyH_take (i := 2) (v := ?vb2) rfl (by kernel_rfl) (by kernel_rfl) (by kernel_rfl) (fun _ _ _ h => h) (Or.inl ⟨by rfl, fun w' _ => ?yb2⟩) HH.out ?_
        case yb2 => (go_simp; try with_reducible rfl)
        refine wpAnyH_take (i := 3) (v := ?vb3) rfl (by kernel_rfl) (by kernel_rfl) (by kernel_rfl) (fun _ _ _ h => h) (Or.inl ⟨by rfl, fun w' _ => ?yb3⟩) HH.out ?_
        case yb3 => (go_simp; try with_reducible rfl)
        refine wpAnyH_take (i := 4) (v := ?vb4) rfl (by kernel_rfl) (by kernel_rfl) (by kernel_rfl) (fun _ _ _ h => h) (Or.inl ⟨by rfl, fun w' _ => ?yb4⟩) HH.out ?_
        case yb4 => (go_simp; try with_reducible rfl)
        refine wpAnyH_take (i := 5) (v := ?vb5) rfl (by kernel_rfl) (by kernel_rfl) (by kernel_rfl) (fun _ _ _ h => h) (Or.inl ⟨by rfl, fun w' _ => ?yb5⟩) HH.out ?_
        case yb5 => (go_simp; try with_reducible rfl)
        refine wpAnyH_take (i := 6) (v := ?vb6) rfl (by kernel_rfl) (by kernel_rfl) (by kernel_rfl) (fun _ _ _ h => h) (Or.inl ⟨by rfl, fun w' hw' => ?yb6⟩) HH.out ?_
        case yb6 => (go_simp; (try rw [hw']); try with_reducible rfl)
        refine wpAnyH_take (i := 7) (v := ?vb7) rfl (by kernel_rfl) (by kernel_rfl) (by kernel_rfl) (fun _ _ _ h => h) (Or.inl ⟨by rfl, fun w' _ => ?yb7⟩) HH.out ?_
        case yb7 => (go_simp; try with_reducible rfl)
        refine wpAnyH_take (i := 8) (v := ?vb8) rfl (by kernel_rfl) (by kernel_rfl) (by kernel_rfl) (fun _ _ _ h => h) (Or.inl ⟨by rfl, fun w' _ => ?yb8⟩) HH.out ?_
        case yb8 => (go_simp; try with_reducible rfl)
        refine wpAnyH_take (i := 9) (v := ?vb9) rfl (by kernel_rfl) (by kernel_rfl) (by kernel_rfl) (fun _ _ _ h => h) (Or.inl ⟨by rfl, fun w' _ => ?yb9⟩) HH.out ?_
        case yb9 => (go_simp; try with_reducible rfl)
        simp only [List.getElem_toArray, List.getElem_cons_succ, List.getElem_cons_zero, Act.put, List.setIfInBounds_toArray, List.set_cons_zero, List.set_cons_succ]
        refine wpAnyH_ready (rs := [10]) (by kernel_rfl) (by simp) (AllReadyH.cons rfl (fun K hK => ?_) AllReadyH.nil)
        refine step_copy_set rfl (.tmp 32) (.tmp 33) 33 33 rfl 5 Try.underlying33 info5 ad g (8 + r) (64 - r) (64 - r) m d rfl rfl (hC ws rs s) 87 ?cb3 (bv ((l.drop j).take k)) ?cb1 ?cb4 ?cb2 (bv_one _) k (by rw [bv_length, HCL.out]) ?_
        case cb3 => exact HBK.out
        case cb4 =>
          intro i v hv
          show wr.cell? (ad.add i) = some v
          exact HSRC.out i v (bv_take_get hv)
        case cb1 => rw [bv_length, HCL.out]; show k = min m (64 - r); rw [HKK.out, Nat.min_comm]
        case cb2 => rw [bv_length, HCL.out, hC_length H8.out H64.out]; omega
        obtain ⟨rs', hrs'⟩ : ∃ rs', rs' = splice rs r ((l.drop j).take k) := ⟨_, rfl⟩
        generalize hw1 : World.setRow _ _ _ = wr1
        have q1 : Blk wr1 g (hC ws rs' s).toArray 87 := by
          rw [← hw1, hrs', hC_splice H8.out (by rw [HCL.out, H64.out]; omega)]; exact setRow_heap _ _ _ _ _ _ HBK.out
        have q2 : wr.grownBy wr1 (some g) := by rw [← hw1]; exact grown_trans (grown_drew _ _) (grown_setRow _ _ _)
        have HRS : Hid (rs'.length = 64) := by show _ = _; rw [hrs', length_splice _ _ _ (by rw [HCL.out, H64.out]; omega), H64.out]
        have c72 := hC_size H8.out HRS.out q1
        have f72 := q1.free 72
        refine hK.out _ _ c72 (fun hh => ?_)
        clear hh hK K HH
        refine wpAnyH_take (i := 11) (v := ?vb11) rfl (by kernel_rfl) (by kernel_rfl) (by kernel_rfl) (fun _ _ _ h => h) (Or.inl ⟨by rfl, fun w' _ => ?yb11⟩) c72 ?_
        case yb11 => (go_simp; try with_reducible rfl)
        refine wpAnyH_done (by kernel_rfl) ?_ _
        obtain ⟨s', hs'⟩ : ∃ s', s' = s + k := ⟨_, rfl⟩
        have es' : (s : Int) + (k : Int) = (s' : Int) := by omega
        have hs'b : s' ≤ 2199023255552 := by omega
        have k0 : (0 : Int) ≤ (k : Int) := by omega
        have kd : (k : Int) ≤ (d : Int) := by omega
        have km : (k : Int) ≤ (m : Int) := by omega
        have hG2 : Blk (wr1.setCell ⟨g, 72, none⟩ (.int .u64 (s' : Int))) g (hC ws rs' s').toArray 87 := hC_setSize H8.out HRS.out q1 s' rfl
        have hGR2 : w.grownBy (wr1.setCell ⟨g, 72, none⟩ (.int .u64 (s' : Int))) (some g) := grown_trans (grown_trans HGR.out q2) (grown_setCell _ _ _ _)
        obtain ⟨AA, hAA⟩ : ∃ AA, AA = if d = k then some ad else some (ad.add k) := ⟨_, rfl⟩
        have hRF2 : Rf g (wr1.setCell ⟨g, 72, none⟩ (.int .u64 (s' : Int))) AA (bv (l.drop (j + k))) := by
          by_cases hd : d = k
          · have e : l.drop (j + k) = [] := List.drop_of_length_le (by rw [HL.out]; have := HM.out; omega)
            rw [e]; exact Rf.none'
          · rw [hAA, if_neg hd, ← List.drop_drop]
            exact (HRF.out.grown (grown_trans q2 (grown_setCell _ _ _ _))).drop k
        have hT : (t ++ l.take j).length = s := by rw [List.length_append, List.length_take, HL.out, HS.out, HS0.out]; have := HM.out; omega
        have hTK : t ++ l.take (j + k) = (t ++ l.take j) ++ (l.drop j).take k := by rw [List.take_add, List.append_assoc]
        have HK2 : Hid (r + k < 64 → Kept (t ++ l.take (j + k)) ws rs') := by
          intro h
          have h1 := HKP.out.more (cs := (l.drop j).take k) (by rw [hT, HCL.out, ← HRR.out]; exact h)
          rw [hT, ← HRR.out, ← hTK, ← hrs'] at h1
          exact h1
        have HK3 : Hid (r + k = 64 → Kept (t ++ l.take (j + k)) (compL ws rs') (List.replicate 64 0)) := by
          intro h
          have h1 := HKP.out.full (cs := (l.drop j).take k) (by rw [hT, HCL.out, ← HRR.out]; exact h)
          rw [hT, ← HRR.out, ← hTK, ← hrs'] at h1
          exact h1
        have HE : Hid (s' = s0 + (j + k)) := by show _ = _; rw [hs', HS.out, Nat.add_assoc]
        have G2 := Lib.hid hG2
        have GR2 := Lib.hid hGR2
        have RF2 := Lib.hid hRF2
        have HAA := Lib.hid hAA
        have hrr := HRR.out
        obtain ⟨r', hr'⟩ : ∃ r', r' = s' % 64 := ⟨_, rfl⟩
        have er' : (s' : Int) % 64 = (r' : Int) := by omega
        have hfr : r + k < 64 ∧ r' = r + k ∨ r + k = 64 ∧ r' = 0 := by omega
        clear hs' hrr hr' hG2 hGR2 hRF2 hAA hT hTK hrs' hw1 q1 q2 HRF HBK HGR HSRC HLD
        rcases hfr with ⟨hf, hrk⟩ | ⟨hf, hrk⟩
        · have hb : ((r' : Int) == 0) = false := by simp; omega
          have KK := Lib.hid (HK2.out hf)
          clear HK2 HK3
          by_cases hd : d = k
          · have HA1 : Hid (AA = some ad) := by show _ = _; rw [HAA.out, if_pos hd]
            subst hd
            clear HAA
            go_wp2_with fail
            refine ⟨⟨j + d, 0, 0, some ad, ws, rs', rfl, Nat.le_refl _, by omega, (by have := HM.out; show 0 + (j + d) = n; omega), ?_, KK.out, ?_, GR2.out⟩, hlt⟩
            · rw [← HA1.out]; exact RF2.out
            · rw [← HE.out]; exact G2.out
          · have HA1 : Hid (AA = some (ad.add k)) := by show _ = _; rw [HAA.out, if_neg hd]
            clear HAA
            go_wp2_with fail
            refine ⟨⟨j + k, m - k, d - k, some (ad.add k), ws, rs', rfl, by omega, by omega, (by have := HM.out; show m - k + (j + k) = n; omega), ?_, KK.out, ?_, GR2.out⟩, by show m - k < m; omega⟩
            · rw [← HA1.out]; exact RF2.out
            · rw [← HE.out]; exact G2.out
        · subst hrk
          have hb : (((0 : Nat) : Int) == 0) = true := rfl
          have KK := Lib.hid (HK3.out hf)
          clear HK2 HK3
          by_cases hd : d = k
          · have HA1 : Hid (AA = some ad) := by show _ = _; rw [HAA.out, if_pos hd]
            subst hd
            clear HAA
            go_wp2_with fail
            refine wp_region_any (by kernel_rfl) ?_
            change wpAny _ _ _ _ _ _ _ (World.drew _)
            refine wpAny_take (i := 0) (v := ?vbp0) rfl (by kernel_rfl) (by kernel_rfl) (by kernel_rfl) (fun _ _ _ h => h) (Or.inl ⟨by rfl, ?ybp0⟩) ?_
            case ybp0 => (intro w'; go_simp; try with_reducible rfl)
            refine wpAny_take (i := 1) (v := ?vbp1) rfl (by kernel_rfl) (by kernel_rfl) (by kernel_rfl) (fun _ _ _ h => h) (Or.inl ⟨by rfl, ?ybp1⟩) ?_
            case ybp1 => (intro w'; go_simp; try with_reducible rfl)
            refine wpAny_take (i := 2) (v := ?vbp2) rfl (by kernel_rfl) (by kernel_rfl) (by kernel_rfl) (fun _ _ _ h => h) (Or.inl ⟨by rfl, ?ybp2⟩) ?_
            case ybp2 => (intro w'; go_simp; try with_reducible rfl)
            refine wpAny_take (i := 3) (v := ?vbp3) rfl (by kernel_rfl) (by kernel_rfl) (by kernel_rfl) (fun _ _ _ h => h) (Or.inl ⟨by rfl, ?ybp3⟩) ?_
            case ybp3 => (intro w'; go_simp; try with_reducible rfl)
            refine wpAny_take (i := 5) (v := ?vbp5) rfl (by kernel_rfl) (by kernel_rfl) (by kernel_rfl) (fun _ _ _ h => h) (Or.inl ⟨by rfl, ?ybp5⟩) ?_
            case ybp5 => (intro w'; go_simp; try with_reducible rfl)
            refine wpAny_take (i := 6) (v := ?vbp6) rfl (by kernel_rfl) (by kernel_rfl) (by kernel_rfl) (fun _ _ _ h => h) (Or.inl ⟨by rfl, ?ybp6⟩) ?_
            case ybp6 => (intro w'; go_simp; try with_reducible rfl)
            refine wpAny_take (i := 7) (v := ?vbp7) rfl (by kernel_rfl) (by kernel_rfl) (by kernel_rfl) (fun _ _ _ h => h) (Or.inl ⟨by rfl, ?ybp7⟩) ?_
            case ybp7 => (intro w'; go_simp; try with_reducible rfl)
            simp only [List.getElem_toArray, List.getElem_cons_succ, List.getElem_cons_zero, Act.put, List.setIfInBounds_toArray, List.set_cons_zero, List.set_cons_succ]
            refine wpAny_look (i := 4) (v := .agg (uv ws)) rfl (by kernel_rfl) (by kernel_rfl) (by kernel_rfl) (fun _ _ _ h => h) (by rfl) ?ybp4 ?_
            case ybp4 => exact exec_load_mid 60 (.tmp 56) rfl g 0 rfl (uvl ws) _ (hC_words G2.out) Try.underlying60 rfl (by rw [uvl_length, H8.out]; exact info28)
            refine wpAny_look (i := 8) (v := .agg (bva rs')) rfl (by kernel_rfl) (by kernel_rfl) (by kernel_rfl) (fun _ _ _ h => h) (by rfl) ?ybp8 ?_
            case ybp8 => exact exec_load_mid 52 (.tmp 60) rfl g 8 rfl (bv rs') _ (hC_rest H8.out G2.out) Try.underlying52 rfl (by rw [bv_length, HRS.out]; exact info29)
            refine wpAny_ready (rs := [9]) (by kernel_rfl) (by simp) (AllReady.cons rfl (fun K hK => ?_) AllReady.nil)
            go_simp
            refine (compress_any ws rs' H8.out HRS.out _).mono ?_
            rintro e w3 ⟨rfl, bw3⟩
            have z1 : Blk w3 g (hC ws rs' s').toArray 87 := Blk.below (show Blk (World.drew (wr1.setCell ⟨g, 72, none⟩ (.int .u64 (s' : Int)))) g (hC ws rs' s').toArray 87 from G2.out) bw3
            have z2 : w.grownBy w3 (some g) := grown_trans GR2.out (grown_trans (grown_drew _ _) (grown_of_below bw3))
            have z3 : Rf g w3 AA (bv (l.drop (j + d))) := RF2.out.grown (grown_trans (grown_drew _ _) (grown_of_below bw3))
            have Z1 := Lib.hid z1
            have Z2 := Lib.hid z2
            have Z3 := Lib.hid z3
            clear z1 z2 z3 G2 GR2 RF2 bw3
            go_simp
            refine hK _ _ ?_
            clear hK K
            refine wpAny_take (i := 10) (v := ?vbp10) rfl (by kernel_rfl) (by kernel_rfl) (by kernel_rfl) (fun _ _ _ h => h) (Or.inl ⟨by rfl, ?ybp10⟩) ?_
            case ybp10 => (intro w'; go_simp; try with_reducible rfl)
            refine wpAny_take (i := 11) (v := ?vbp11) rfl (by kernel_rfl) (by kernel_rfl) (by kernel_rfl) (fun _ _ _ h => h) (Or.inl ⟨by rfl, ?ybp11⟩) ?_
            case ybp11 => (intro w'; go_simp; try with_reducible rfl)
            simp only [List.getElem_toArray, List.getElem_cons_succ, List.getElem_cons_zero, Act.put, List.setIfInBounds_toArray, List.set_cons_zero, List.set_cons_succ]
            refine wpAny_ready (rs := [12]) (by kernel_rfl) (by simp) (AllReady.cons rfl (fun K hK => ?_) AllReady.nil)
            rw [if_pos (by rfl)]
            refine wp_store_mid 60 (.tmp 64) (.tmp 62) rfl g 0 (uv (compL ws rs')) rfl rfl (there_of_blk Z1.out (by rw [uv_size, compL_length, H8.out, hC_length H8.out HRS.out]; decide)) (by rw [uv_size, compL_length, H8.out]; exact info28) (uv_one _) ?_
            generalize hw4 : World.setCells _ _ _ _ = w4
            have y1 : Blk w4 g (hC (compL ws rs') rs' s').toArray 87 := by rw [← hw4]; exact hC_setWords H8.out Z1.out (by rw [compL_length, H8.out])
            have y2 : w.grownBy w4 (some g) := by rw [← hw4]; exact grown_trans Z2.out (grown_setCells _ _ _ _)
            have y3 : Rf g w4 AA (bv (l.drop (j + d))) := by rw [← hw4]; exact Z3.out.grown (grown_setCells _ _ _ _)
            have h8' : (compL ws rs').length = 8 := by rw [compL_length, H8.out]
            have hcl : (Builtin.clear_ #[33] 0 #[.slice (some ⟨g, 8, none⟩) 64 64]).run Try.prog w4 = .ok (.tuple #[]) (w4.setCells g 8 (List.replicate 64 (.int .u8 0))) :=
              Lib.run_clear_slice w4 33 5 0 (.int .u8 0) Try.underlying33 (fun _ => by kernel_rfl) rfl rfl g 8 64 64 (by decide) (fun i hi => (there_of_blk y1 (o := 8) (n := 64) (by rw [hC_length h8' HRS.out]; decide) i hi).1) (fun i hi => (there_of_blk y1 (o := 8) (n := 64) (by rw [hC_length h8' HRS.out]; decide) i hi).2)
            have Y1 := Lib.hid y1
            have Y2 := Lib.hid y2
            have Y3 := Lib.hid y3
            have Y8 := Lib.hid h8'
            clear y1 y2 y3 h8' Z1 Z2 Z3 hw4
            refine hK _ _ ?_
            clear hK K
            refine wpAny_done (by kernel_rfl) ?_ _
            go_wp2_with fail
            refine ⟨⟨j + d, 0, 0, some ad, compL ws rs', List.replicate 64 0, rfl, Nat.le_refl _, by omega, (by have := HM.out; show 0 + (j + d) = n; omega), ?_, KK.out, ?_, grown_trans Y2.out (grown_setCells _ _ _ _)⟩, hlt⟩
            · rw [← HA1.out]; exact Y3.out.grown (grown_setCells _ _ _ _)
            · rw [← HE.out]
              exact hC_setRest Y8.out HRS.out Y1.out (rs' := List.replicate 64 0) (by simp)
          · have HA1 : Hid (AA = some (ad.add k)) := by show _ = _; rw [HAA.out, if_neg hd]
            clear HAA
            go_wp2_with fail
            refine wp_region_any (by kernel_rfl) ?_
            change wpAny _ _ _ _ _ _ _ (World.drew _)
            refine wpAny_take (i := 0) (v := ?vbq0) rfl (by kernel_rfl) (by kernel_rfl) (by kernel_rfl) (fun _ _ _ h => h) (Or.inl ⟨by rfl, ?ybq0⟩) ?_
            case ybq0 => (intro w'; go_simp; try with_reducible rfl)
            refine wpAny_take (i := 1) (v := ?vbq1) rfl (by kernel_rfl) (by kernel_rfl) (by kernel_rfl) (fun _ _ _ h => h) (Or.inl ⟨by rfl, ?ybq1⟩) ?_
            case ybq1 => (intro w'; go_simp; try with_reducible rfl)
            refine wpAny_take (i := 2) (v := ?vbq2) rfl (by kernel_rfl) (by kernel_rfl) (by kernel_rfl) (fun _ _ _ h => h) (Or.inl ⟨by rfl, ?ybq2⟩) ?_
            case ybq2 => (intro w'; go_simp; try with_reducible rfl)
            refine wpAny_take (i := 3) (v := ?vbq3) rfl (by kernel_rfl) (by kernel_rfl) (by kernel_rfl) (fun _ _ _ h => h) (Or.inl ⟨by rfl, ?ybq3⟩) ?_
            case ybq3 => (intro w'; go_simp; try with_reducible rfl)
            refine wpAny_take (i := 5) (v := ?vbq5) rfl (by kernel_rfl) (by kernel_rfl) (by kernel_rfl) (fun _ _ _ h => h) (Or.inl ⟨by rfl, ?ybq5⟩) ?_
            case ybq5 => (intro w'; go_simp; try with_reducible rfl)
            refine wpAny_take (i := 6) (v := ?vbq6) rfl (by kernel_rfl) (by kernel_rfl) (by kernel_rfl) (fun _ _ _ h => h) (Or.inl ⟨by rfl, ?ybq6⟩) ?_
            case ybq6 => (intro w'; go_simp; try with_reducible rfl)
            refine wpAny_take (i := 7) (v := ?vbq7) rfl (by kernel_rfl) (by kernel_rfl) (by kernel_rfl) (fun _ _ _ h => h) (Or.inl ⟨by rfl, ?ybq7⟩) ?_
            case ybq7 => (intro w'; go_simp; try with_reducible rfl)
            simp only [List.getElem_toArray, List.getElem_cons_succ, List.getElem_cons_zero, Act.put, List.setIfInBounds_toArray, List.set_cons_zero, List.set_cons_succ]
            refine wpAny_look (i := 4) (v := .agg (uv ws)) rfl (by kernel_rfl) (by kernel_rfl) (by kernel_rfl) (fun _ _ _ h => h) (by rfl) ?ybq4 ?_
            case ybq4 => exact exec_load_mid 60 (.tmp 56) rfl g 0 rfl (uvl ws) _ (hC_words G2.out) Try.underlying60 rfl (by rw [uvl_length, H8.out]; exact info28)
            refine wpAny_look (i := 8) (v := .agg (bva rs')) rfl (by kernel_rfl) (by kernel_rfl) (by kernel_rfl) (fun _ _ _ h => h) (by rfl) ?ybq8 ?_
            case ybq8 => exact exec_load_mid 52 (.tmp 60) rfl g 8 rfl (bv rs') _ (hC_rest H8.out G2.out) Try.underlying52 rfl (by rw [bv_length, HRS.out]; exact info29)
            refine wpAny_ready (rs := [9]) (by kernel_rfl) (by simp) (AllReady.cons rfl (fun K hK => ?_) AllReady.nil)
            go_simp
            refine (compress_any ws rs' H8.out HRS.out _).mono ?_
            rintro e w3 ⟨rfl, bw3⟩
            have z1 : Blk w3 g (hC ws rs' s').toArray 87 := Blk.below (show Blk (World.drew (wr1.setCell ⟨g, 72, none⟩ (.int .u64 (s' : Int)))) g (hC ws rs' s').toArray 87 from G2.out) bw3
            have z2 : w.grownBy w3 (some g) := grown_trans GR2.out (grown_trans (grown_drew _ _) (grown_of_below bw3))
            have z3 : Rf g w3 AA (bv (l.drop (j + k))) := RF2.out.grown (grown_trans (grown_drew _ _) (grown_of_below bw3))
            have Z1 := Lib.hid z1
            have Z2 := Lib.hid z2
            have Z3 := Lib.hid z3
            clear z1 z2 z3 G2 GR2 RF2 bw3
            go_simp
            refine hK _ _ ?_
            clear hK K
            refine wpAny_take (i := 10) (v := ?vbq10) rfl (by kernel_rfl) (by kernel_rfl) (by kernel_rfl) (fun _ _ _ h => h) (Or.inl ⟨by rfl, ?ybq10⟩) ?_
            case ybq10 => (intro w'; go_simp; try with_reducible rfl)
            refine wpAny_take (i := 11) (v := ?vbq11) rfl (by kernel_rfl) (by kernel_rfl) (by kernel_rfl) (fun _ _ _ h => h) (Or.inl ⟨by rfl, ?ybq11⟩) ?_
            case ybq11 => (intro w'; go_simp; try with_reducible rfl)
            simp only [List.getElem_toArray, List.getElem_cons_succ, List.getElem_cons_zero, Act.put, List.setIfInBounds_toArray, List.set_cons_zero, List.set_cons_succ]
            refine wpAny_ready (rs := [12]) (by kernel_rfl) (by simp) (AllReady.cons rfl (fun K hK => ?_) AllReady.nil)
            rw [if_pos (by rfl)]
            refine wp_store_mid 60 (.tmp 64) (.tmp 62) rfl g 0 (uv (compL ws rs')) rfl rfl (there_of_blk Z1.out (by rw [uv_size, compL_length, H8.out, hC_length H8.out HRS.out]; decide)) (by rw [uv_size, compL_length, H8.out]; exact info28) (uv_one _) ?_
            generalize hw4 : World.setCells _ _ _ _ = w4
            have y1 : Blk w4 g (hC (compL ws rs') rs' s').toArray 87 := by rw [← hw4]; exact hC_setWords H8.out Z1.out (by rw [compL_length, H8.out])
            have y2 : w.grownBy w4 (some g) := by rw [← hw4]; exact grown_trans Z2.out (grown_setCells _ _ _ _)
            have y3 : Rf g w4 AA (bv (l.drop (j + k))) := by rw [← hw4]; exact Z3.out.grown (grown_setCells _ _ _ _)
            have h8' : (compL ws rs').length = 8 := by rw [compL_length, H8.out]
            have hcl : (Builtin.clear_ #[33] 0 #[.slice (some ⟨g, 8, none⟩) 64 64]).run Try.prog w4 = .ok (.tuple #[]) (w4.setCells g 8 (List.replicate 64 (.int .u8 0))) :=
              Lib.run_clear_slice w4 33 5 0 (.int .u8 0) Try.underlying33 (fun _ => by kernel_rfl) rfl rfl g 8 64 64 (by decide) (fun i hi => (there_of_blk y1 (o := 8) (n := 64) (by rw [hC_length h8' HRS.out]; decide) i hi).1) (fun i hi => (there_of_blk y1 (o := 8) (n := 64) (by rw [hC_length h8' HRS.out]; decide) i hi).2)
            have Y1 := Lib.hid y1
            have Y2 := Lib.hid y2
            have Y3 := Lib.hid y3
            have Y8 := Lib.hid h8'
            clear y1 y2 y3 h8' Z1 Z2 Z3 hw4
            refine hK _ _ ?_
            clear hK K
            refine wpAny_done (by kernel_rfl) ?_ _
            go_wp2_with fail
            refine ⟨⟨j + k, m - k, d - k, some (ad.add k), compL ws rs', List.replicate 64 0, rfl, by omega, by omega, (by have := HM.out; show m - k + (j + k) = n; omega), ?_, KK.out, ?_, grown_trans Y2.out (grown_setCells _ _ _ _)⟩, by show m - k < m; omega⟩
            · rw [← HA1.out]; exact Y3.out.grown (grown_setCells _ _ _ _)
            · rw [← HE.out]
              exact hC_setRest Y8.out HRS.out Y1.out (rs' := List.replicate 64 0) (by simp)
      · obtain rfl : m = 0 := by omega
        have hjn : j = n := by have := HM.out; omega
        have hfin : HashIs wr g (t ++ l) := by
          rw [hjn, List.take_of_length_le (by rw [HL.out]; exact Nat.le_refl _)] at hkept
          refine ⟨ws, rs, hkept.eight, hkept.room, fun _ => hkept, ?_⟩
          rw [List.length_append, HL.out, ← HS0.out, ← hjn]; exact hblk
        have HF := Lib.hid hfin
        have HG := Lib.hid hgr
        clear hfin hgr hkept hblk hrf
        go_wp2
        go_end0
        exact ⟨rfl, HF.out, HG.out⟩
set_option maxHeartbeats 400000 in
theorem write_nothing (g : Nat) (t : List UInt8) (A : Option Addr) (c : Nat) (w : World) (hH : HashIs w g t) :
    Calls Try.prog 51 #[.pointer (some ⟨g, 0, none⟩), .slice A 0 c] w (RetWrote g t w) := by
  have HH := Lib.hid hH
  clear hH
  go_enter Try.func51, Try.ntmps51
  go_wp2_with fail
  exact bodyPost_ret (v := .tuple #[]) (by simp [results, Try.results51, go_sem]) rfl ⟨rfl, HH.out, World.grownBy.refl _ _⟩
theorem write_nil (A : Option Addr) (n c : Nat) (w : World) : Calls Try.prog 51 #[.pointer none, .slice A n c] w (fun e w' => e = .returned (.tuple #[]) ∧ w = w') := by
  go_enter Try.func51, Try.ntmps51
  go_wp2_with fail
  exact bodyPost_ret (v := .tuple #[]) (by simp [results, Try.results51, go_sem]) rfl ⟨rfl, rfl⟩
/-- A Write of any bytes that don't lie in the hash itself. -/
theorem write_any (g : Nat) (t l : List UInt8) (A : Option Addr) (n c : Nat) (w : World) (hl : l.length = n) (hnc : n ≤ c) (hcm : c ≤ maxLen) (hH : HashIs w g t) (hr : Rf g w A (bv l)) (hsz : t.length + n ≤ 1099511627776) :
    Calls Try.prog 51 #[.pointer (some ⟨g, 0, none⟩), .slice A n c] w (RetWrote g (t ++ l) w) := by
  by_cases hn : 0 < n
  · exact write_some g t l A n c w hl hnc hcm hn hH hr hsz
  · obtain rfl : n = 0 := by omega
    obtain rfl : l = [] := List.eq_nil_of_length_eq_zero hl
    rw [List.append_nil]
    exact write_nothing g t A c w hH
end Go.Proofs.Ytobkkbpeoohfkaa
