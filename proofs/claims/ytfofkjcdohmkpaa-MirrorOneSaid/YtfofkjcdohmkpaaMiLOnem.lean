/-
  The law MirrorOne holds: one device is enough: whatever the other one does, what was written is read as it was written last, and is never another thing. For any acts.
-/
import Derived.Test.YtfofkjcdohmkpaaMo1
import Derived.Test.YtfofkjcdohmkpaaRows
import Derived.ProofKit
import Derived.OpenShut
import Derived.ShutString
import Derived.ChangeOld
namespace Go.Proofs.Ytfofkjcdohmkpaa
open Go.RowKit Kd Mi Go.ChangeShapes Go.WideShapes Go.ChangeAt
attribute [local go_sem ↓] Go.wp_at_zero Go.wp_at_succ
def svsA (l : List (List UInt8)) : Array Value := (svs l).toArray
def acA (a : Ac) : Array Value := (acV a).toArray
set_option maxRecDepth 100000 in
theorem six_zero (W : World) : (zeroValue 63).run Try.prog W = .ok (.agg (svsA (List.replicate 6 zeroS))) W := by kernel_rfl
/-- What is wanted, in its box: a sector is stored in it. -/
theorem six_set {w : World} {b k : Nat} {W : List (List UInt8)} {y : List UInt8} (hb : Blk w b (svsA W) 63) (h3 : ∀ s ∈ W, s.length = 128) (hy : y.length = 128) (hk : k < W.length) :
    w.there b (k * 128) (bva y).size ∧ Blk (w.setCells b (k * 128) (bva y).toList) b (svsA (W.set k y)) 63 := by
  have hl : k * 128 + (bv y).length ≤ (svs W).length := by rw [bv_length, hy, svs_length h3]; omega
  have hr := row_setCells b 63 (bv y) (k * 128) w (svs W) hb hl
  refine ⟨?_, ?_⟩
  · have h := there_of_blk hb hl
    rwa [show (bv y).length = (bva y).size by rw [bv_length, bva_size]] at h
  · unfold Blk svsA
    rw [svs_splice h3 hy hk]
    exact hr
theorem six_cells {w : World} {b k : Nat} {W : List (List UInt8)} (hb : Blk w b (svsA W) 63) (h3 : ∀ s ∈ W, s.length = 128) (hk : k < W.length) : ∀ i v, (bv (W.getD k zeroS))[i]? = some v → w.cell? ((⟨b, k * 128, none⟩ : Addr).add i) = some v := fun i v hv => by
  have e : W.getD k zeroS = W[k] := by rw [List.getD_eq_getElem?_getD, List.getElem?_eq_getElem hk]; rfl
  rw [e] at hv
  have h := svs_get h3 hk hv
  rw [Addr.add_mid, hb.cell, svsA, List.getElem?_toArray, show k * 128 + i = 128 * k + i by omega]
  exact h
theorem lm_own {p1 g1 p2 g2 : Nat} {G : Gd} {g : Nat} {w0 w w1 : World} {s : Mr (Two p1 g1 p2 g2)} {F T : Nat → Prop} {x : Md} {m : Nat} (h : LM p1 g1 p2 g2 G g w0 w s F x m) (hb : But T w w1) (ht : ∀ q, T q → w0.heap.size ≤ q) (hd : ∀ q, F q → T q → False) : LM p1 g1 p2 g2 G g w0 w1 s F x m :=
  ⟨⟨(ML (Two p1 g1 p2 g2) G g).but h.live.at_ hb hd, h.live.new, h.live.bel.trans (hb.below (fun k hk hq => by have := ht k hq; omega) h.live.bel.size)⟩, h.sees, h.dry⟩
theorem bx_own {w w1 w2 : World} {F : Nat → Prop} {b b' : Nat} {cs : Array Value} {t : TypeId} (h : Bx w w1 F b cs t) (hb : But (fun j => j = b') w1 w2) (hn : b ≠ b') : Bx w w2 F b cs t := ⟨h.1.but hb hn, h.2⟩
set_option maxRecDepth 100000 in
set_option maxHeartbeats 51200000 in
theorem mirrorOne_any (w : World) (A : Option Addr) (N c : Nat) (l : List Ac) (hl : l.length = N) (_ : N ≤ c) (_ : c ≤ maxLen) (hr : Rd w.heap.size w A (acs l)) (hzz : ∀ y ∈ l, y.ok) : Calls Try.prog 5 #[.slice A N c] w (RetB (.bool true) w) := by
  obtain ⟨z, hz0⟩ : ∃ z : List UInt8, z = zeroS := ⟨_, rfl⟩
  have hz : ∀ W, (zeroValue 38).run Try.prog W = .ok (.agg (bva z)) W := fun _ => by rw [hz0]; kernel_rfl
  have HZ3 := Lib.hid (show z.length = 128 by rw [hz0]; exact zeroS_length)
  clear hz0
  have HL := Lib.hid hl
  have HRD := Lib.hid hr
  have HZZ := Lib.hid hzz
  have B0 := Lib.hid (Below.refl w.heap.size w)
  have hz6 := six_zero
  clear hl hr hzz
  go_enter Try.func5, Try.ntmps5
  go_wp2_with fail
  have hc := awake_any w
  refine hc.mono ?_
  clear hc
  rintro e w1 ⟨rfl, bw⟩
  have B1 := Lib.hid (B0.out.trans (bw.mono B0.out.size))
  clear bw B0
  by_cases hbig : 40 < N
  · have n1 : (40 : Int) < (N : Int) := by omega
    go_wp2_with fail
    go_ret
    exact ⟨rfl, B1.out⟩
  · have n1 : ¬ (40 : Int) < (N : Int) := by omega
    have HNB := Lib.hid (show N ≤ 40 by omega)
    clear hbig
    go_wp2_with fail
    refine (live_new0 6).mono ?_
    rintro e w2 ⟨p1, g1, rfl, F2, h⟩
    have H2 := Lib.hid h
    clear h
    go_wp2_with fail
    refine (live_new0 6).mono ?_
    rintro e w3 ⟨p2, g2, rfl, F3, h⟩
    have HD3 := Lib.hid (ld_new H2.out h (see_new 6 (by omega)) (see_new 6 (by omega)))
    clear h H2
    go_wp2_with (show wpList _ _ _ ({ dst := none, op := .store 52 (.tmp 3) (.tmp 20), type := _, pos := _, after := _, guard := _ } :: _) _ _; apply Classical.byContradiction; intro hneg)
    refine hneg ?_
    clear hneg
    refine wpList_store_row rfl 52 (.tmp 3) (.tmp 20) rfl w3.heap.size #[.pointer (some ⟨g1, 0, none⟩), .pointer (some ⟨g2, 0, none⟩)] rfl rfl 52 #[.pointer none, .pointer none] (heap_alloc_new _ _) (by kernel_rfl) (by rfl) (by simp [Value.oneCell']) ?_
    obtain ⟨w40, hw40⟩ : ∃ w40, w40 = (w3.alloc (.cells #[.pointer none, .pointer none] 52)).setRow w3.heap.size #[.pointer (some ⟨g1, 0, none⟩), .pointer (some ⟨g2, 0, none⟩)] := ⟨_, rfl⟩
    have bw : Below w3.heap.size w3 w40 := by rw [hw40]; exact below_setRow ((Below.refl _ _).alloc (Nat.le_refl _) _) (Nat.le_refl _) _
    have hx : Blk w40 w3.heap.size #[.pointer (some ⟨g1, 0, none⟩), .pointer (some ⟨g2, 0, none⟩)] 52 := by rw [hw40]; exact setRow_heap _ _ _ _ _ _ (heap_alloc_new _ _)
    rw [← hw40]
    clear hw40
    obtain ⟨b3, hb3⟩ : ∃ b3, b3 = w3.heap.size := ⟨_, rfl⟩
    rw [← hb3] at hx
    rw [← hb3]
    have HD40 := Lib.hid (HD3.out.below bw)
    have X40 := Lib.hid hx
    have HNF := Lib.hid (show ¬ (fun q => F2 q ∨ F3 q) b3 ∧ w1.heap.size ≤ b3 from ⟨fun hf => by have := (Two p1 g1 p2 g2).L.lt HD3.out.live.at_ b3 hf; omega, by rw [hb3]; exact HD3.out.live.bel.size⟩)
    clear hb3 hx bw HD3
    have q0 := X40.out.cell 0
    have q1 := X40.out.cell 1
    go_wp2_with fail
    refine (lm_new (G := gG) (fun _ _ _ _ _ _ => trivial) HD40.out (n := 6) rfl rfl).mono ?_
    rintro e w41 ⟨g, s41, F41, rfl, h, hn, hb⟩
    have H41 := Lib.hid (show LM p1 g1 p2 g2 gG g w1 w41 s41 F41 (Md.new 6) 0 from h)
    have X41 := Lib.hid (show Bx w1 w41 F41 b3 #[.pointer (some ⟨g1, 0, none⟩), .pointer (some ⟨g2, 0, none⟩)] 52 from ⟨X40.out.but hb HNF.out.1, HNF.out.2, fun hf => by
      rcases hn b3 hf with h1 | h1
      · exact HNF.out.1 h1
      · have := X40.out.lt; omega⟩)
    clear h hn hb HD40 X40 HNF q0 q1
    obtain ⟨z6, hz6e⟩ : ∃ z6, z6 = svsA (List.replicate 6 zeroS) := ⟨_, rfl⟩
    rw [← hz6e] at hz6
    have HZ6 := Lib.hid hz6e
    clear hz6e
    go_upto_region 8 with fail
    obtain ⟨w42, hw42⟩ : ∃ w42, w42 = w41.alloc (.cells z6 63) := ⟨_, rfl⟩
    have bw : Below w41.heap.size w41 w42 := by rw [hw42]; exact (Below.refl _ _).alloc (Nat.le_refl _) _
    have hx : Blk w42 w41.heap.size z6 63 := by rw [hw42]; exact heap_alloc_new _ _
    rw [← hw42]
    clear hw42
    obtain ⟨b5, hb5⟩ : ∃ b5, b5 = w41.heap.size := ⟨_, rfl⟩
    rw [← hb5] at hx
    rw [← hb5]
    have Y42 := Lib.hid (show Bx w1 w42 F41 b5 (svsA (List.replicate 6 zeroS)) 63 from ⟨by rw [← HZ6.out]; exact hx, by rw [hb5]; exact H41.out.live.bel.size, fun hf => by have := (ML (Two p1 g1 p2 g2) gG g).lt H41.out.live.at_ _ hf; omega⟩)
    have H42 := Lib.hid (H41.out.below bw)
    have X42 := Lib.hid (X41.out.below bw)
    clear hb5 hx bw H41 X41 hz6 HZ6
    go_wp2_with fail
    go_loopw [6] (fun i wr => ∃ (j : Nat) (W : List (List UInt8)) (F : Nat → Prop) (s : Mr (Two p1 g1 p2 g2)) (x : Md), j ≤ N ∧ i = .int .i64 j ∧ LM p1 g1 p2 g2 gG g w1 wr s F x 0 ∧ One x W ∧ Bx w1 wr F b3 #[.pointer (some ⟨g1, 0, none⟩), .pointer (some ⟨g2, 0, none⟩)] 52 ∧ Bx w1 wr F b5 (svsA W) 63) (fun i _ => N - (intOf i).toNat)
    case atStart => exact ⟨0, List.replicate 6 zeroS, F41, s41, _, Nat.zero_le _, rfl, H42.out, one_new, X42.out, Y42.out⟩
    case round =>
      clear H42 X42 Y42
      obtain ⟨j, W, F, s, x, hj, rfl, hlm, hone, hbx, hby⟩ := hrel
      have H := Lib.hid hlm
      have HJ := Lib.hid hj
      have HO := Lib.hid hone
      have X := Lib.hid hbx
      have Y := Lib.hid hby
      clear hlm hj hone hbx hby
      by_cases hlt : j < N
      · have HLT := Lib.hid hlt
        have j0 : (0 : Int) ≤ (j : Int) := by omega
        have j1 : (j : Int) < (N : Int) := by omega
        have wj : IntKind.i64.wrap ((j : Int) + 1) = ((j + 1 : Nat) : Int) := IntWalk.i64_in _ (by have := HNB.out; omega)
        have hjl : j < l.length := by rw [HL.out]; exact hlt
        obtain ⟨a, ha⟩ : ∃ a, a = l[j] := ⟨_, rfl⟩
        obtain ⟨ad, hA, hz1, hz2⟩ := rd_act HRD.out hjl
        subst hA
        have HCL := Lib.hid (show ∀ w', Below w.heap.size w w' → ∀ i v, (acV a)[i]? = some v → w'.cell? ((ad.add (j * 5)).add i) = some v from fun w' hb i v hv => by
          obtain ⟨a2, h1, _, h2⟩ := rd_act (HRD.out.below hb) hjl
          injection h1 with h1; subst h1
          exact h2 i v (by rw [← ha]; exact hv))
        have HCW := Lib.hid (HCL.out wr (B1.out.trans (H.out.live.bel.mono B1.out.size)))
        obtain ⟨kd, an, ax, ay, ao⟩ := a
        obtain ⟨y, hy⟩ : ∃ y, y = secN ax ay := ⟨_, rfl⟩
        have HY3 := Lib.hid (show y.length = 128 by rw [hy]; exact secN_length _ _)
        have HIY := Lib.hid (show (Try.prog.info? 38).map (·.size) = some (bva y).size by rw [hy]; exact sec_size _ _)
        have HSY := Lib.hid (show ∀ w, Calls Try.prog 30 #[.int .u8 (ax.toNat : Int), .int .u8 (ay.toNat : Int)] w (RetB (.agg (bva y)) w) from fun w => by rw [hy]; exact sector9_any w ax ay)
        obtain ⟨ca, hca⟩ : ∃ ca, ca = acA ⟨kd, an, ax, ay, ao⟩ := ⟨_, rfl⟩
        have HCS := Lib.hid (show (Try.prog.info? 61).map (·.size) = some ca.size ∧ ca.all (·.oneCell') = true from by rw [hca]; exact ⟨by kernel_rfl, by simp [acA, acV, Value.oneCell']⟩)
        clear hlt hjl ha hz1 hz2 hy HCL
        have HCA := Lib.hid (show ca[0]? = some (.int .i64 kd) ∧ ca[1]? = some (.int .i64 an) ∧ ca[2]? = some (.int .u8 (ax.toNat : Int)) ∧ ca[3]? = some (.int .u8 (ay.toNat : Int)) ∧ ca[4]? = some (.bool ao) ∧ ca.size = 5 from by rw [hca]; exact ⟨rfl, rfl, rfl, rfl, rfl, rfl⟩)
        have HCA2 := Lib.hid hca
        clear hca
        go_wp2_with (first | (refine wpList_execg8 (v := .agg ca) rfl (by rw [HCA2.out]; exact exec_load_at 61 (.tmp 34) rfl (ad.add (j * 5)) rfl HCW.out Try.underlying61 rfl (by kernel_rfl)) ?_) | (show wpList _ _ _ ({ dst := none, op := .store 61 (.tmp 7) (.tmp 35), type := _, pos := _, after := _, guard := _ } :: _) _ _; apply Classical.byContradiction; intro hneg))
        refine hneg ?_
        clear hneg HCW HCA2
        refine wpList_store_row rfl 61 (.tmp 7) (.tmp 35) rfl wr.heap.size ca rfl rfl 61 #[.int .i64 0, .int .i64 0, .int .u8 0, .int .u8 0, .bool false] (heap_alloc_new _ _) HCS.out.1 (by rw [HCA.out.2.2.2.2.2]; rfl) HCS.out.2 ?_
        generalize hw50 : World.setRow _ _ _ = w50
        have bw : Below wr.heap.size wr w50 := by rw [← hw50]; exact below_setRow ((Below.refl _ _).alloc (Nat.le_refl _) _) (Nat.le_refl _) _
        have hx : Blk w50 wr.heap.size ca 61 := by rw [← hw50]; exact setRow_heap _ _ _ _ _ _ (heap_alloc_new _ _)
        clear hw50
        obtain ⟨b7, hb7⟩ : ∃ b7, b7 = wr.heap.size := ⟨_, rfl⟩
        rw [← hb7] at hx
        rw [← hb7]
        have A := Lib.hid (show Bx w1 w50 F b7 ca 61 from ⟨hx, by rw [hb7]; exact H.out.live.bel.size, fun hf => by have := (ML (Two p1 g1 p2 g2) gG g).lt H.out.live.at_ _ hf; omega⟩)
        clear hb7 hx HCS
        have H50 := Lib.hid (H.out.below bw)
        have X50 := Lib.hid (X.out.below bw)
        have Y50 := Lib.hid (Y.out.below bw)
        clear bw H X Y
        have c0 := (A.out.1.cell 0).trans HCA.out.1
        have c1 := (A.out.1.cell 1).trans HCA.out.2.1
        have c2 := (A.out.1.cell 2).trans HCA.out.2.2.1
        have c3 := (A.out.1.cell 3).trans HCA.out.2.2.2.1
        have c4 := (A.out.1.cell 4).trans HCA.out.2.2.2.2.1
        have q0 := X50.out.1.cell 0
        have q1 := X50.out.1.cell 1
        go_wp2_with fail
        have hc := HSY.out w50
        refine hc.mono ?_
        clear hc
        rintro e w61 ⟨rfl, bw⟩
        have H61 := Lib.hid (H50.out.below bw)
        have X61 := Lib.hid (X50.out.below bw)
        have Y61 := Lib.hid (Y50.out.below bw)
        have A61 := Lib.hid (A.out.below bw)
        clear bw H50 X50 Y50 A
        go_wp2_with (show wpList _ _ _ ({ dst := none, op := .store 38 (.tmp 8) (.tmp 40), type := _, pos := _, after := _, guard := _ } :: _) _ _; apply Classical.byContradiction; intro hneg)
        refine hneg ?_
        clear hneg
        refine wpList_store_row rfl 38 (.tmp 8) (.tmp 40) rfl w61.heap.size (bva y) rfl rfl 38 (bva z) (heap_alloc_new _ _) HIY.out (by rw [bva_size, bva_size, HY3.out, HZ3.out]) (bva_one _) ?_
        obtain ⟨w62, hw62⟩ : ∃ w62, w62 = (w61.alloc (.cells (bva z) 38)).setRow w61.heap.size (bva y) := ⟨_, rfl⟩
        have bw : Below w61.heap.size w61 w62 := by rw [hw62]; exact below_setRow ((Below.refl _ _).alloc (Nat.le_refl _) _) (Nat.le_refl _) _
        have hbx : Blk w62 w61.heap.size (bva y) 38 := by rw [hw62]; exact setRow_heap _ _ _ _ _ _ (heap_alloc_new _ _)
        rw [← hw62]
        clear hw62
        obtain ⟨b62, hb62⟩ : ∃ b62, b62 = w61.heap.size := ⟨_, rfl⟩
        rw [← hb62] at hbx
        rw [← hb62]
        have S62 := Lib.hid (show Bx w1 w62 F b62 (bva y) 38 from ⟨hbx, by rw [hb62]; exact H61.out.live.bel.size, fun hf => by have := (ML (Two p1 g1 p2 g2) gG g).lt H61.out.live.at_ _ hf; omega⟩)
        clear hb62 hbx
        have H62 := Lib.hid (H61.out.below bw)
        have X62 := Lib.hid (X61.out.below bw)
        have Y62 := Lib.hid (Y61.out.below bw)
        have A62 := Lib.hid (A61.out.below bw)
        clear bw H61 X61 Y61 A61
        clear c0 c1 c2 c3 c4 q0 q1
        have c0 := (A62.out.1.cell 0).trans HCA.out.1
        have c1 := (A62.out.1.cell 1).trans HCA.out.2.1
        have c2 := (A62.out.1.cell 2).trans HCA.out.2.2.1
        have c3 := (A62.out.1.cell 3).trans HCA.out.2.2.2.1
        have c4 := (A62.out.1.cell 4).trans HCA.out.2.2.2.2.1
        have q0 := X62.out.1.cell 0
        have q1 := X62.out.1.cell 1
        by_cases i0 : (0 : Int) ≤ an
        · by_cases i1 : an < (6 : Int)
          · obtain ⟨q, rfl⟩ : ∃ q : Nat, an = (q : Int) := ⟨an.toNat, by omega⟩
            have HQ6 := Lib.hid (show q < 6 by omega)
            by_cases k0 : kd = 0
            · subst k0
              obtain ⟨gd, hgd⟩ : ∃ gd, gd = goodN (q : Int) y := ⟨_, rfl⟩
              have HGD := Lib.hid hgd
              clear hgd
              go_wp2_with (refine wpList_execg8 rfl (exec_load 38 (.tmp 8) rfl rfl S62.out.1 Try.underlying38 rfl HIY.out) ?_)
              have hc := good_any w62 (q : Int) y HY3.out
              rw [← HGD.out] at hc
              refine hc.mono ?_
              clear hc
              rintro e w900 ⟨rfl, bw⟩
              have H900 := Lib.hid (H62.out.below bw)
              have X900 := Lib.hid (X62.out.below bw)
              have Y900 := Lib.hid (Y62.out.below bw)
              have A900 := Lib.hid (A62.out.below bw)
              have S900 := Lib.hid (S62.out.below bw)
              clear bw H62 X62 Y62 A62 S62
              cases gd
              ·
                clear c0 c1 c2 c3 c4 q0 q1
                have c0 := (A900.out.1.cell 0).trans HCA.out.1
                have c1 := (A900.out.1.cell 1).trans HCA.out.2.1
                have c2 := (A900.out.1.cell 2).trans HCA.out.2.2.1
                have c3 := (A900.out.1.cell 3).trans HCA.out.2.2.2.1
                have c4 := (A900.out.1.cell 4).trans HCA.out.2.2.2.2.1
                have q0 := X900.out.1.cell 0
                have q1 := X900.out.1.cell 1
                go_wp2_with fail
                have hc := lm_flush H900.out
                rw [(HO.out).flush, if_neg (by simp)] at hc
                refine hc.mono ?_
                clear hc
                rintro e w63 ⟨rfl, s63, F63, h, hm63⟩
                have H63 := Lib.hid (show LM p1 g1 p2 g2 gG g w1 w63 s63 F63 x 0 from h)
                have X63 := Lib.hid (X900.out.step hm63)
                have Y63 := Lib.hid (Y900.out.step hm63)
                have A63 := Lib.hid (A900.out.step hm63)
                have S63 := Lib.hid (S900.out.step hm63)
                clear h hm63 H900 X900 Y900 A900 S900
                clear c0 c1 c2 c3 c4 q0 q1
                go_wp2_with fail
                go_roundw
                case rel =>
                  have HON := Lib.hid HO.out
                  clear HO
                  refine ⟨j + 1, W, F63, s63, x, HLT.out, ?_, ?_, ?_, ?_, ?_⟩
                  · go_num
                  · exact H63.out
                  · exact HON.out
                  · exact X63.out
                  · exact Y63.out
                case measure => (have := HLT.out; simp [intOf]; omega)
              ·
                clear c0 c1 c2 c3 c4 q0 q1
                have c0 := (A900.out.1.cell 0).trans HCA.out.1
                have c1 := (A900.out.1.cell 1).trans HCA.out.2.1
                have c2 := (A900.out.1.cell 2).trans HCA.out.2.2.1
                have c3 := (A900.out.1.cell 3).trans HCA.out.2.2.2.1
                have c4 := (A900.out.1.cell 4).trans HCA.out.2.2.2.2.1
                have q0 := X900.out.1.cell 0
                have q1 := X900.out.1.cell 1
                go_wp2_with (first | (refine wpList_execg8 rfl (exec_load 38 (.tmp 8) rfl rfl S900.out.1 Try.underlying38 rfl HIY.out) ?_) | (show wpList _ _ _ ({ dst := none, op := .store 38 (.tmp 64) (.tmp 63), type := _, pos := _, after := _, guard := _ } :: _) _ _; apply Classical.byContradiction; intro hneg))
                clear c0 c1 c2 c3 c4 q0 q1
                refine hneg ?_
                clear hneg
                have HST := Lib.hid (six_set Y900.out.1 HO.out.w3 HY3.out (show q < W.length by rw [HO.out.wl]; exact HQ6.out))
                refine wpList_store_mid rfl 38 (.tmp 64) (.tmp 63) rfl b5 (q * 128) (bva y) rfl rfl HST.out.1 HIY.out (bva_one _) ?_
                generalize hwv : World.setCells _ _ _ _ = wv
                have HBV := Lib.hid (show But (fun j => j = b5) w900 wv by rw [← hwv]; exact (But.refl _).grown (grown_setCells _ _ _ _) (fun j hj => .inl (Option.some.inj hj).symm))
                have YV := Lib.hid (show Bx w1 wv F b5 (svsA (W.set q y)) 63 from ⟨by rw [← hwv]; exact HST.out.2, Y900.out.2⟩)
                clear hwv HST
                have HV := Lib.hid (lm_own H900.out HBV.out (fun j hj => by rw [hj]; exact Y900.out.2.1) (fun j hf hj => Y900.out.2.2 (hj ▸ hf)))
                have XV := Lib.hid (bx_own X900.out HBV.out (X900.out.ne Y900.out.1 (by decide)))
                have AV := Lib.hid (bx_own A900.out HBV.out (A900.out.ne Y900.out.1 (by decide)))
                have SV := Lib.hid (bx_own S900.out HBV.out (S900.out.ne Y900.out.1 (by decide)))
                clear HBV H900 X900 Y900 A900 S900
                have c0 := (AV.out.1.cell 0).trans HCA.out.1
                have c1 := (AV.out.1.cell 1).trans HCA.out.2.1
                have c2 := (AV.out.1.cell 2).trans HCA.out.2.2.1
                have c3 := (AV.out.1.cell 3).trans HCA.out.2.2.2.1
                have c4 := (AV.out.1.cell 4).trans HCA.out.2.2.2.2.1
                have q0 := XV.out.1.cell 0
                have q1 := XV.out.1.cell 1
                go_wp2_with (refine wpList_execg8 rfl (exec_load 38 (.tmp 8) rfl rfl SV.out.1 Try.underlying38 rfl HIY.out) ?_)
                have hc := lm_write HV.out (q : Int) y HY3.out (by omega)
                rw [(HO.out.write HQ6.out y HY3.out).1] at hc
                refine hc.mono ?_
                clear hc
                rintro e w64 ⟨rfl, s64, F64, h, hm64⟩
                have H64 := Lib.hid (show LM p1 g1 p2 g2 gG g w1 w64 s64 F64 (x.write (q : Int) y).2 (0 + 2) from h)
                have X64 := Lib.hid (XV.out.step hm64)
                have Y64 := Lib.hid (YV.out.step hm64)
                have A64 := Lib.hid (AV.out.step hm64)
                have S64 := Lib.hid (SV.out.step hm64)
                clear h hm64 HV XV YV AV SV
                clear c0 c1 c2 c3 c4 q0 q1
                have c0 := (A64.out.1.cell 0).trans HCA.out.1
                have c1 := (A64.out.1.cell 1).trans HCA.out.2.1
                have c2 := (A64.out.1.cell 2).trans HCA.out.2.2.1
                have c3 := (A64.out.1.cell 3).trans HCA.out.2.2.2.1
                have c4 := (A64.out.1.cell 4).trans HCA.out.2.2.2.2.1
                have q0 := X64.out.1.cell 0
                have q1 := X64.out.1.cell 1
                go_wp2_with fail
                have hc := lm_flush H64.out
                rw [((HO.out.write HQ6.out y HY3.out).2).flush, if_neg (by simp)] at hc
                refine hc.mono ?_
                clear hc
                rintro e w65 ⟨rfl, s65, F65, h, hm65⟩
                have H65 := Lib.hid (show LM p1 g1 p2 g2 gG g w1 w65 s65 F65 (x.write (q : Int) y).2 0 from h)
                have X65 := Lib.hid (X64.out.step hm65)
                have Y65 := Lib.hid (Y64.out.step hm65)
                have A65 := Lib.hid (A64.out.step hm65)
                have S65 := Lib.hid (S64.out.step hm65)
                clear h hm65 H64 X64 Y64 A64 S64
                clear c0 c1 c2 c3 c4 q0 q1
                go_wp2_with fail
                go_roundw
                case rel =>
                  have HON := Lib.hid (HO.out.write HQ6.out y HY3.out).2
                  clear HO
                  refine ⟨j + 1, (W.set q y), F65, s65, (x.write (q : Int) y).2, HLT.out, ?_, ?_, ?_, ?_, ?_⟩
                  · go_num
                  · exact H65.out
                  · exact HON.out
                  · exact X65.out
                  · exact Y65.out
                case measure => (have := HLT.out; simp [intOf]; omega)
            by_cases k5 : kd = 5
            · subst k5
              obtain ⟨gd, hgd⟩ : ∃ gd, gd = goodN (q : Int) y := ⟨_, rfl⟩
              have HGD := Lib.hid hgd
              clear hgd
              go_wp2_with (refine wpList_execg8 rfl (exec_load 38 (.tmp 8) rfl rfl S62.out.1 Try.underlying38 rfl HIY.out) ?_)
              have hc := good_any w62 (q : Int) y HY3.out
              rw [← HGD.out] at hc
              refine hc.mono ?_
              clear hc
              rintro e w905 ⟨rfl, bw⟩
              have H905 := Lib.hid (H62.out.below bw)
              have X905 := Lib.hid (X62.out.below bw)
              have Y905 := Lib.hid (Y62.out.below bw)
              have A905 := Lib.hid (A62.out.below bw)
              have S905 := Lib.hid (S62.out.below bw)
              clear bw H62 X62 Y62 A62 S62
              cases gd
              ·
                clear c0 c1 c2 c3 c4 q0 q1
                have c0 := (A905.out.1.cell 0).trans HCA.out.1
                have c1 := (A905.out.1.cell 1).trans HCA.out.2.1
                have c2 := (A905.out.1.cell 2).trans HCA.out.2.2.1
                have c3 := (A905.out.1.cell 3).trans HCA.out.2.2.2.1
                have c4 := (A905.out.1.cell 4).trans HCA.out.2.2.2.2.1
                have q0 := X905.out.1.cell 0
                have q1 := X905.out.1.cell 1
                go_wp2_with fail
                have hc := lm_flush H905.out
                rw [(HO.out).flush, if_neg (by simp)] at hc
                refine hc.mono ?_
                clear hc
                rintro e w66 ⟨rfl, s66, F66, h, hm66⟩
                have H66 := Lib.hid (show LM p1 g1 p2 g2 gG g w1 w66 s66 F66 x 0 from h)
                have X66 := Lib.hid (X905.out.step hm66)
                have Y66 := Lib.hid (Y905.out.step hm66)
                have A66 := Lib.hid (A905.out.step hm66)
                have S66 := Lib.hid (S905.out.step hm66)
                clear h hm66 H905 X905 Y905 A905 S905
                clear c0 c1 c2 c3 c4 q0 q1
                go_wp2_with fail
                go_roundw
                case rel =>
                  have HON := Lib.hid HO.out
                  clear HO
                  refine ⟨j + 1, W, F66, s66, x, HLT.out, ?_, ?_, ?_, ?_, ?_⟩
                  · go_num
                  · exact H66.out
                  · exact HON.out
                  · exact X66.out
                  · exact Y66.out
                case measure => (have := HLT.out; simp [intOf]; omega)
              ·
                clear c0 c1 c2 c3 c4 q0 q1
                have c0 := (A905.out.1.cell 0).trans HCA.out.1
                have c1 := (A905.out.1.cell 1).trans HCA.out.2.1
                have c2 := (A905.out.1.cell 2).trans HCA.out.2.2.1
                have c3 := (A905.out.1.cell 3).trans HCA.out.2.2.2.1
                have c4 := (A905.out.1.cell 4).trans HCA.out.2.2.2.2.1
                have q0 := X905.out.1.cell 0
                have q1 := X905.out.1.cell 1
                go_wp2_with (first | (refine wpList_execg8 rfl (exec_load 38 (.tmp 8) rfl rfl S905.out.1 Try.underlying38 rfl HIY.out) ?_) | (show wpList _ _ _ ({ dst := none, op := .store 38 (.tmp 64) (.tmp 63), type := _, pos := _, after := _, guard := _ } :: _) _ _; apply Classical.byContradiction; intro hneg))
                clear c0 c1 c2 c3 c4 q0 q1
                refine hneg ?_
                clear hneg
                have HST := Lib.hid (six_set Y905.out.1 HO.out.w3 HY3.out (show q < W.length by rw [HO.out.wl]; exact HQ6.out))
                refine wpList_store_mid rfl 38 (.tmp 64) (.tmp 63) rfl b5 (q * 128) (bva y) rfl rfl HST.out.1 HIY.out (bva_one _) ?_
                generalize hwv : World.setCells _ _ _ _ = wv
                have HBV := Lib.hid (show But (fun j => j = b5) w905 wv by rw [← hwv]; exact (But.refl _).grown (grown_setCells _ _ _ _) (fun j hj => .inl (Option.some.inj hj).symm))
                have YV := Lib.hid (show Bx w1 wv F b5 (svsA (W.set q y)) 63 from ⟨by rw [← hwv]; exact HST.out.2, Y905.out.2⟩)
                clear hwv HST
                have HV := Lib.hid (lm_own H905.out HBV.out (fun j hj => by rw [hj]; exact Y905.out.2.1) (fun j hf hj => Y905.out.2.2 (hj ▸ hf)))
                have XV := Lib.hid (bx_own X905.out HBV.out (X905.out.ne Y905.out.1 (by decide)))
                have AV := Lib.hid (bx_own A905.out HBV.out (A905.out.ne Y905.out.1 (by decide)))
                have SV := Lib.hid (bx_own S905.out HBV.out (S905.out.ne Y905.out.1 (by decide)))
                clear HBV H905 X905 Y905 A905 S905
                have c0 := (AV.out.1.cell 0).trans HCA.out.1
                have c1 := (AV.out.1.cell 1).trans HCA.out.2.1
                have c2 := (AV.out.1.cell 2).trans HCA.out.2.2.1
                have c3 := (AV.out.1.cell 3).trans HCA.out.2.2.2.1
                have c4 := (AV.out.1.cell 4).trans HCA.out.2.2.2.2.1
                have q0 := XV.out.1.cell 0
                have q1 := XV.out.1.cell 1
                go_wp2_with (refine wpList_execg8 rfl (exec_load 38 (.tmp 8) rfl rfl SV.out.1 Try.underlying38 rfl HIY.out) ?_)
                have hc := lm_choose HV.out (q : Int) y HY3.out (by omega)
                rw [(HO.out.write HQ6.out y HY3.out).1] at hc
                refine hc.mono ?_
                clear hc
                rintro e w67 ⟨rfl, s67, F67, h, hm67⟩
                have H67 := Lib.hid (show LM p1 g1 p2 g2 gG g w1 w67 s67 F67 (x.write (q : Int) y).2 (0 + 2) from h)
                have X67 := Lib.hid (XV.out.step hm67)
                have Y67 := Lib.hid (YV.out.step hm67)
                have A67 := Lib.hid (AV.out.step hm67)
                have S67 := Lib.hid (SV.out.step hm67)
                clear h hm67 HV XV YV AV SV
                clear c0 c1 c2 c3 c4 q0 q1
                have c0 := (A67.out.1.cell 0).trans HCA.out.1
                have c1 := (A67.out.1.cell 1).trans HCA.out.2.1
                have c2 := (A67.out.1.cell 2).trans HCA.out.2.2.1
                have c3 := (A67.out.1.cell 3).trans HCA.out.2.2.2.1
                have c4 := (A67.out.1.cell 4).trans HCA.out.2.2.2.2.1
                have q0 := X67.out.1.cell 0
                have q1 := X67.out.1.cell 1
                go_wp2_with fail
                have hc := lm_flush H67.out
                rw [((HO.out.write HQ6.out y HY3.out).2).flush, if_neg (by simp)] at hc
                refine hc.mono ?_
                clear hc
                rintro e w68 ⟨rfl, s68, F68, h, hm68⟩
                have H68 := Lib.hid (show LM p1 g1 p2 g2 gG g w1 w68 s68 F68 (x.write (q : Int) y).2 0 from h)
                have X68 := Lib.hid (X67.out.step hm68)
                have Y68 := Lib.hid (Y67.out.step hm68)
                have A68 := Lib.hid (A67.out.step hm68)
                have S68 := Lib.hid (S67.out.step hm68)
                clear h hm68 H67 X67 Y67 A67 S67
                clear c0 c1 c2 c3 c4 q0 q1
                go_wp2_with fail
                go_roundw
                case rel =>
                  have HON := Lib.hid (HO.out.write HQ6.out y HY3.out).2
                  clear HO
                  refine ⟨j + 1, (W.set q y), F68, s68, (x.write (q : Int) y).2, HLT.out, ?_, ?_, ?_, ?_, ?_⟩
                  · go_num
                  · exact H68.out
                  · exact HON.out
                  · exact X68.out
                  · exact Y68.out
                case measure => (have := HLT.out; simp [intOf]; omega)
            by_cases k2 : kd = 2
            · subst k2
              go_wp2_with fail
              have hc := lm_sync H62.out (by rw [HO.out.len]; omega)
              refine hc.mono ?_
              clear hc
              rintro e w69 ⟨rfl, s69, F69, h, hm69⟩
              have H69 := Lib.hid (show LM p1 g1 p2 g2 gG g w1 w69 s69 F69 (x.sync goodN).2 0 from h)
              have X69 := Lib.hid (X62.out.step hm69)
              have Y69 := Lib.hid (Y62.out.step hm69)
              have A69 := Lib.hid (A62.out.step hm69)
              have S69 := Lib.hid (S62.out.step hm69)
              clear h hm69 H62 X62 Y62 A62 S62
              clear c0 c1 c2 c3 c4 q0 q1
              have c0 := (A69.out.1.cell 0).trans HCA.out.1
              have c1 := (A69.out.1.cell 1).trans HCA.out.2.1
              have c2 := (A69.out.1.cell 2).trans HCA.out.2.2.1
              have c3 := (A69.out.1.cell 3).trans HCA.out.2.2.2.1
              have c4 := (A69.out.1.cell 4).trans HCA.out.2.2.2.2.1
              have q0 := X69.out.1.cell 0
              have q1 := X69.out.1.cell 1
              go_wp2_with fail
              have hc := lm_flush H69.out
              rw [(HO.out.sync).flush, if_neg (by simp)] at hc
              refine hc.mono ?_
              clear hc
              rintro e w70 ⟨rfl, s70, F70, h, hm70⟩
              have H70 := Lib.hid (show LM p1 g1 p2 g2 gG g w1 w70 s70 F70 (x.sync goodN).2 0 from h)
              have X70 := Lib.hid (X69.out.step hm70)
              have Y70 := Lib.hid (Y69.out.step hm70)
              have A70 := Lib.hid (A69.out.step hm70)
              have S70 := Lib.hid (S69.out.step hm70)
              clear h hm70 H69 X69 Y69 A69 S69
              clear c0 c1 c2 c3 c4 q0 q1
              go_wp2_with fail
              go_roundw
              case rel =>
                have HON := Lib.hid HO.out.sync
                clear HO
                refine ⟨j + 1, W, F70, s70, (x.sync goodN).2, HLT.out, ?_, ?_, ?_, ?_, ?_⟩
                · go_num
                · exact H70.out
                · exact HON.out
                · exact X70.out
                · exact Y70.out
              case measure => (have := HLT.out; simp [intOf]; omega)
            by_cases k3 : kd = 3
            · subst k3
              go_wp2_with fail
              have hc := lm_heal H62.out (q : Int) (by omega)
              refine hc.mono ?_
              clear hc
              rintro e w71 ⟨rfl, s71, F71, h, hm71⟩
              have H71 := Lib.hid (show LM p1 g1 p2 g2 gG g w1 w71 s71 F71 (x.heal goodN (q : Int)).2 (0 + 1) from h)
              have X71 := Lib.hid (X62.out.step hm71)
              have Y71 := Lib.hid (Y62.out.step hm71)
              have A71 := Lib.hid (A62.out.step hm71)
              have S71 := Lib.hid (S62.out.step hm71)
              clear h hm71 H62 X62 Y62 A62 S62
              clear c0 c1 c2 c3 c4 q0 q1
              have c0 := (A71.out.1.cell 0).trans HCA.out.1
              have c1 := (A71.out.1.cell 1).trans HCA.out.2.1
              have c2 := (A71.out.1.cell 2).trans HCA.out.2.2.1
              have c3 := (A71.out.1.cell 3).trans HCA.out.2.2.2.1
              have c4 := (A71.out.1.cell 4).trans HCA.out.2.2.2.2.1
              have q0 := X71.out.1.cell 0
              have q1 := X71.out.1.cell 1
              go_wp2_with fail
              have hc := lm_flush H71.out
              rw [((HO.out.heal (q : Int))).flush, if_neg (by simp)] at hc
              refine hc.mono ?_
              clear hc
              rintro e w72 ⟨rfl, s72, F72, h, hm72⟩
              have H72 := Lib.hid (show LM p1 g1 p2 g2 gG g w1 w72 s72 F72 (x.heal goodN (q : Int)).2 0 from h)
              have X72 := Lib.hid (X71.out.step hm72)
              have Y72 := Lib.hid (Y71.out.step hm72)
              have A72 := Lib.hid (A71.out.step hm72)
              have S72 := Lib.hid (S71.out.step hm72)
              clear h hm72 H71 X71 Y71 A71 S71
              clear c0 c1 c2 c3 c4 q0 q1
              go_wp2_with fail
              go_roundw
              case rel =>
                have HON := Lib.hid (HO.out.heal (q : Int))
                clear HO
                refine ⟨j + 1, W, F72, s72, (x.heal goodN (q : Int)).2, HLT.out, ?_, ?_, ?_, ?_, ?_⟩
                · go_num
                · exact H72.out
                · exact HON.out
                · exact X72.out
                · exact Y72.out
              case measure => (have := HLT.out; simp [intOf]; omega)
            by_cases k7 : kd = 7
            · subst k7
              go_wp2_with fail
              have hc := lm_out1 H62.out ao
              refine hc.mono ?_
              clear hc
              rintro e w73 ⟨rfl, s73, F73, h, hm73⟩
              have H73 := Lib.hid (show LM p1 g1 p2 g2 gG g w1 w73 s73 F73 (x.out 1 ao) 0 from h)
              have X73 := Lib.hid (X62.out.step hm73)
              have Y73 := Lib.hid (Y62.out.step hm73)
              have A73 := Lib.hid (A62.out.step hm73)
              have S73 := Lib.hid (S62.out.step hm73)
              clear h hm73 H62 X62 Y62 A62 S62
              clear c0 c1 c2 c3 c4 q0 q1
              have c0 := (A73.out.1.cell 0).trans HCA.out.1
              have c1 := (A73.out.1.cell 1).trans HCA.out.2.1
              have c2 := (A73.out.1.cell 2).trans HCA.out.2.2.1
              have c3 := (A73.out.1.cell 3).trans HCA.out.2.2.2.1
              have c4 := (A73.out.1.cell 4).trans HCA.out.2.2.2.2.1
              have q0 := X73.out.1.cell 0
              have q1 := X73.out.1.cell 1
              go_wp2_with fail
              have hc := lm_flush H73.out
              rw [((HO.out.out ao)).flush, if_neg (by simp)] at hc
              refine hc.mono ?_
              clear hc
              rintro e w74 ⟨rfl, s74, F74, h, hm74⟩
              have H74 := Lib.hid (show LM p1 g1 p2 g2 gG g w1 w74 s74 F74 (x.out 1 ao) 0 from h)
              have X74 := Lib.hid (X73.out.step hm74)
              have Y74 := Lib.hid (Y73.out.step hm74)
              have A74 := Lib.hid (A73.out.step hm74)
              have S74 := Lib.hid (S73.out.step hm74)
              clear h hm74 H73 X73 Y73 A73 S73
              clear c0 c1 c2 c3 c4 q0 q1
              go_wp2_with fail
              go_roundw
              case rel =>
                have HON := Lib.hid (HO.out.out ao)
                clear HO
                refine ⟨j + 1, W, F74, s74, (x.out 1 ao), HLT.out, ?_, ?_, ?_, ?_, ?_⟩
                · go_num
                · exact H74.out
                · exact HON.out
                · exact X74.out
                · exact Y74.out
              case measure => (have := HLT.out; simp [intOf]; omega)
            by_cases k9 : kd = 9
            · subst k9
              obtain ⟨r, hr⟩ : ∃ r, r = ((ax.toNat : Int)).tmod 128 := ⟨_, rfl⟩
              have wx : IntKind.i64.wrap (ax.toNat : Int) = (ax.toNat : Int) := IntWalk.i64_in _ (by have := UInt8.toNat_lt ax; omega)
              replace hr := hr.symm
              go_wp2_with fail
              have hc := lm_rot1 H62.out (q : Int) r ay
              refine hc.mono ?_
              clear hc
              rintro e w75 ⟨rfl, s75, F75, h, hm75⟩
              have H75 := Lib.hid (show LM p1 g1 p2 g2 gG g w1 w75 s75 F75 (x.rot 1 (q : Int) r ay) 0 from h)
              have X75 := Lib.hid (X62.out.step hm75)
              have Y75 := Lib.hid (Y62.out.step hm75)
              have A75 := Lib.hid (A62.out.step hm75)
              have S75 := Lib.hid (S62.out.step hm75)
              clear h hm75 H62 X62 Y62 A62 S62
              clear c0 c1 c2 c3 c4 q0 q1
              have c0 := (A75.out.1.cell 0).trans HCA.out.1
              have c1 := (A75.out.1.cell 1).trans HCA.out.2.1
              have c2 := (A75.out.1.cell 2).trans HCA.out.2.2.1
              have c3 := (A75.out.1.cell 3).trans HCA.out.2.2.2.1
              have c4 := (A75.out.1.cell 4).trans HCA.out.2.2.2.2.1
              have q0 := X75.out.1.cell 0
              have q1 := X75.out.1.cell 1
              go_wp2_with fail
              have hc := lm_flush H75.out
              rw [((HO.out.rot (q : Int) r ay)).flush, if_neg (by simp)] at hc
              refine hc.mono ?_
              clear hc
              rintro e w76 ⟨rfl, s76, F76, h, hm76⟩
              have H76 := Lib.hid (show LM p1 g1 p2 g2 gG g w1 w76 s76 F76 (x.rot 1 (q : Int) r ay) 0 from h)
              have X76 := Lib.hid (X75.out.step hm76)
              have Y76 := Lib.hid (Y75.out.step hm76)
              have A76 := Lib.hid (A75.out.step hm76)
              have S76 := Lib.hid (S75.out.step hm76)
              clear h hm76 H75 X75 Y75 A75 S75
              clear c0 c1 c2 c3 c4 q0 q1
              go_wp2_with fail
              go_roundw
              case rel =>
                have HON := Lib.hid (HO.out.rot (q : Int) r ay)
                clear HO
                refine ⟨j + 1, W, F76, s76, (x.rot 1 (q : Int) r ay), HLT.out, ?_, ?_, ?_, ?_, ?_⟩
                · go_num
                · exact H76.out
                · exact HON.out
                · exact X76.out
                · exact Y76.out
              case measure => (have := HLT.out; simp [intOf]; omega)
            ·
              go_wp2_with fail
              have hc := lm_flush H62.out
              rw [(HO.out).flush, if_neg (by simp)] at hc
              refine hc.mono ?_
              clear hc
              rintro e w77 ⟨rfl, s77, F77, h, hm77⟩
              have H77 := Lib.hid (show LM p1 g1 p2 g2 gG g w1 w77 s77 F77 x 0 from h)
              have X77 := Lib.hid (X62.out.step hm77)
              have Y77 := Lib.hid (Y62.out.step hm77)
              have A77 := Lib.hid (A62.out.step hm77)
              have S77 := Lib.hid (S62.out.step hm77)
              clear h hm77 H62 X62 Y62 A62 S62
              clear c0 c1 c2 c3 c4 q0 q1
              go_wp2_with fail
              go_roundw
              case rel =>
                have HON := Lib.hid HO.out
                clear HO
                refine ⟨j + 1, W, F77, s77, x, HLT.out, ?_, ?_, ?_, ?_, ?_⟩
                · go_num
                · exact H77.out
                · exact HON.out
                · exact X77.out
                · exact Y77.out
              case measure => (have := HLT.out; simp [intOf]; omega)
          ·
            by_cases k0 : kd = 0
            · subst k0
              go_wp2_with fail
              have hc := lm_flush H62.out
              rw [(HO.out).flush, if_neg (by simp)] at hc
              refine hc.mono ?_
              clear hc
              rintro e w78 ⟨rfl, s78, F78, h, hm78⟩
              have H78 := Lib.hid (show LM p1 g1 p2 g2 gG g w1 w78 s78 F78 x 0 from h)
              have X78 := Lib.hid (X62.out.step hm78)
              have Y78 := Lib.hid (Y62.out.step hm78)
              have A78 := Lib.hid (A62.out.step hm78)
              have S78 := Lib.hid (S62.out.step hm78)
              clear h hm78 H62 X62 Y62 A62 S62
              clear c0 c1 c2 c3 c4 q0 q1
              go_wp2_with fail
              go_roundw
              case rel =>
                have HON := Lib.hid HO.out
                clear HO
                refine ⟨j + 1, W, F78, s78, x, HLT.out, ?_, ?_, ?_, ?_, ?_⟩
                · go_num
                · exact H78.out
                · exact HON.out
                · exact X78.out
                · exact Y78.out
              case measure => (have := HLT.out; simp [intOf]; omega)
            by_cases k5 : kd = 5
            · subst k5
              go_wp2_with fail
              have hc := lm_flush H62.out
              rw [(HO.out).flush, if_neg (by simp)] at hc
              refine hc.mono ?_
              clear hc
              rintro e w79 ⟨rfl, s79, F79, h, hm79⟩
              have H79 := Lib.hid (show LM p1 g1 p2 g2 gG g w1 w79 s79 F79 x 0 from h)
              have X79 := Lib.hid (X62.out.step hm79)
              have Y79 := Lib.hid (Y62.out.step hm79)
              have A79 := Lib.hid (A62.out.step hm79)
              have S79 := Lib.hid (S62.out.step hm79)
              clear h hm79 H62 X62 Y62 A62 S62
              clear c0 c1 c2 c3 c4 q0 q1
              go_wp2_with fail
              go_roundw
              case rel =>
                have HON := Lib.hid HO.out
                clear HO
                refine ⟨j + 1, W, F79, s79, x, HLT.out, ?_, ?_, ?_, ?_, ?_⟩
                · go_num
                · exact H79.out
                · exact HON.out
                · exact X79.out
                · exact Y79.out
              case measure => (have := HLT.out; simp [intOf]; omega)
            by_cases k2 : kd = 2
            · subst k2
              go_wp2_with fail
              have hc := lm_sync H62.out (by rw [HO.out.len]; omega)
              refine hc.mono ?_
              clear hc
              rintro e w80 ⟨rfl, s80, F80, h, hm80⟩
              have H80 := Lib.hid (show LM p1 g1 p2 g2 gG g w1 w80 s80 F80 (x.sync goodN).2 0 from h)
              have X80 := Lib.hid (X62.out.step hm80)
              have Y80 := Lib.hid (Y62.out.step hm80)
              have A80 := Lib.hid (A62.out.step hm80)
              have S80 := Lib.hid (S62.out.step hm80)
              clear h hm80 H62 X62 Y62 A62 S62
              clear c0 c1 c2 c3 c4 q0 q1
              have c0 := (A80.out.1.cell 0).trans HCA.out.1
              have c1 := (A80.out.1.cell 1).trans HCA.out.2.1
              have c2 := (A80.out.1.cell 2).trans HCA.out.2.2.1
              have c3 := (A80.out.1.cell 3).trans HCA.out.2.2.2.1
              have c4 := (A80.out.1.cell 4).trans HCA.out.2.2.2.2.1
              have q0 := X80.out.1.cell 0
              have q1 := X80.out.1.cell 1
              go_wp2_with fail
              have hc := lm_flush H80.out
              rw [(HO.out.sync).flush, if_neg (by simp)] at hc
              refine hc.mono ?_
              clear hc
              rintro e w81 ⟨rfl, s81, F81, h, hm81⟩
              have H81 := Lib.hid (show LM p1 g1 p2 g2 gG g w1 w81 s81 F81 (x.sync goodN).2 0 from h)
              have X81 := Lib.hid (X80.out.step hm81)
              have Y81 := Lib.hid (Y80.out.step hm81)
              have A81 := Lib.hid (A80.out.step hm81)
              have S81 := Lib.hid (S80.out.step hm81)
              clear h hm81 H80 X80 Y80 A80 S80
              clear c0 c1 c2 c3 c4 q0 q1
              go_wp2_with fail
              go_roundw
              case rel =>
                have HON := Lib.hid HO.out.sync
                clear HO
                refine ⟨j + 1, W, F81, s81, (x.sync goodN).2, HLT.out, ?_, ?_, ?_, ?_, ?_⟩
                · go_num
                · exact H81.out
                · exact HON.out
                · exact X81.out
                · exact Y81.out
              case measure => (have := HLT.out; simp [intOf]; omega)
            by_cases k3 : kd = 3
            · subst k3
              go_wp2_with fail
              have hc := lm_heal H62.out an (by omega)
              refine hc.mono ?_
              clear hc
              rintro e w82 ⟨rfl, s82, F82, h, hm82⟩
              have H82 := Lib.hid (show LM p1 g1 p2 g2 gG g w1 w82 s82 F82 (x.heal goodN an).2 (0 + 1) from h)
              have X82 := Lib.hid (X62.out.step hm82)
              have Y82 := Lib.hid (Y62.out.step hm82)
              have A82 := Lib.hid (A62.out.step hm82)
              have S82 := Lib.hid (S62.out.step hm82)
              clear h hm82 H62 X62 Y62 A62 S62
              clear c0 c1 c2 c3 c4 q0 q1
              have c0 := (A82.out.1.cell 0).trans HCA.out.1
              have c1 := (A82.out.1.cell 1).trans HCA.out.2.1
              have c2 := (A82.out.1.cell 2).trans HCA.out.2.2.1
              have c3 := (A82.out.1.cell 3).trans HCA.out.2.2.2.1
              have c4 := (A82.out.1.cell 4).trans HCA.out.2.2.2.2.1
              have q0 := X82.out.1.cell 0
              have q1 := X82.out.1.cell 1
              go_wp2_with fail
              have hc := lm_flush H82.out
              rw [((HO.out.heal an)).flush, if_neg (by simp)] at hc
              refine hc.mono ?_
              clear hc
              rintro e w83 ⟨rfl, s83, F83, h, hm83⟩
              have H83 := Lib.hid (show LM p1 g1 p2 g2 gG g w1 w83 s83 F83 (x.heal goodN an).2 0 from h)
              have X83 := Lib.hid (X82.out.step hm83)
              have Y83 := Lib.hid (Y82.out.step hm83)
              have A83 := Lib.hid (A82.out.step hm83)
              have S83 := Lib.hid (S82.out.step hm83)
              clear h hm83 H82 X82 Y82 A82 S82
              clear c0 c1 c2 c3 c4 q0 q1
              go_wp2_with fail
              go_roundw
              case rel =>
                have HON := Lib.hid (HO.out.heal an)
                clear HO
                refine ⟨j + 1, W, F83, s83, (x.heal goodN an).2, HLT.out, ?_, ?_, ?_, ?_, ?_⟩
                · go_num
                · exact H83.out
                · exact HON.out
                · exact X83.out
                · exact Y83.out
              case measure => (have := HLT.out; simp [intOf]; omega)
            by_cases k7 : kd = 7
            · subst k7
              go_wp2_with fail
              have hc := lm_out1 H62.out ao
              refine hc.mono ?_
              clear hc
              rintro e w84 ⟨rfl, s84, F84, h, hm84⟩
              have H84 := Lib.hid (show LM p1 g1 p2 g2 gG g w1 w84 s84 F84 (x.out 1 ao) 0 from h)
              have X84 := Lib.hid (X62.out.step hm84)
              have Y84 := Lib.hid (Y62.out.step hm84)
              have A84 := Lib.hid (A62.out.step hm84)
              have S84 := Lib.hid (S62.out.step hm84)
              clear h hm84 H62 X62 Y62 A62 S62
              clear c0 c1 c2 c3 c4 q0 q1
              have c0 := (A84.out.1.cell 0).trans HCA.out.1
              have c1 := (A84.out.1.cell 1).trans HCA.out.2.1
              have c2 := (A84.out.1.cell 2).trans HCA.out.2.2.1
              have c3 := (A84.out.1.cell 3).trans HCA.out.2.2.2.1
              have c4 := (A84.out.1.cell 4).trans HCA.out.2.2.2.2.1
              have q0 := X84.out.1.cell 0
              have q1 := X84.out.1.cell 1
              go_wp2_with fail
              have hc := lm_flush H84.out
              rw [((HO.out.out ao)).flush, if_neg (by simp)] at hc
              refine hc.mono ?_
              clear hc
              rintro e w85 ⟨rfl, s85, F85, h, hm85⟩
              have H85 := Lib.hid (show LM p1 g1 p2 g2 gG g w1 w85 s85 F85 (x.out 1 ao) 0 from h)
              have X85 := Lib.hid (X84.out.step hm85)
              have Y85 := Lib.hid (Y84.out.step hm85)
              have A85 := Lib.hid (A84.out.step hm85)
              have S85 := Lib.hid (S84.out.step hm85)
              clear h hm85 H84 X84 Y84 A84 S84
              clear c0 c1 c2 c3 c4 q0 q1
              go_wp2_with fail
              go_roundw
              case rel =>
                have HON := Lib.hid (HO.out.out ao)
                clear HO
                refine ⟨j + 1, W, F85, s85, (x.out 1 ao), HLT.out, ?_, ?_, ?_, ?_, ?_⟩
                · go_num
                · exact H85.out
                · exact HON.out
                · exact X85.out
                · exact Y85.out
              case measure => (have := HLT.out; simp [intOf]; omega)
            by_cases k9 : kd = 9
            · subst k9
              obtain ⟨r, hr⟩ : ∃ r, r = ((ax.toNat : Int)).tmod 128 := ⟨_, rfl⟩
              have wx : IntKind.i64.wrap (ax.toNat : Int) = (ax.toNat : Int) := IntWalk.i64_in _ (by have := UInt8.toNat_lt ax; omega)
              replace hr := hr.symm
              go_wp2_with fail
              have hc := lm_rot1 H62.out an r ay
              refine hc.mono ?_
              clear hc
              rintro e w86 ⟨rfl, s86, F86, h, hm86⟩
              have H86 := Lib.hid (show LM p1 g1 p2 g2 gG g w1 w86 s86 F86 (x.rot 1 an r ay) 0 from h)
              have X86 := Lib.hid (X62.out.step hm86)
              have Y86 := Lib.hid (Y62.out.step hm86)
              have A86 := Lib.hid (A62.out.step hm86)
              have S86 := Lib.hid (S62.out.step hm86)
              clear h hm86 H62 X62 Y62 A62 S62
              clear c0 c1 c2 c3 c4 q0 q1
              have c0 := (A86.out.1.cell 0).trans HCA.out.1
              have c1 := (A86.out.1.cell 1).trans HCA.out.2.1
              have c2 := (A86.out.1.cell 2).trans HCA.out.2.2.1
              have c3 := (A86.out.1.cell 3).trans HCA.out.2.2.2.1
              have c4 := (A86.out.1.cell 4).trans HCA.out.2.2.2.2.1
              have q0 := X86.out.1.cell 0
              have q1 := X86.out.1.cell 1
              go_wp2_with fail
              have hc := lm_flush H86.out
              rw [((HO.out.rot an r ay)).flush, if_neg (by simp)] at hc
              refine hc.mono ?_
              clear hc
              rintro e w87 ⟨rfl, s87, F87, h, hm87⟩
              have H87 := Lib.hid (show LM p1 g1 p2 g2 gG g w1 w87 s87 F87 (x.rot 1 an r ay) 0 from h)
              have X87 := Lib.hid (X86.out.step hm87)
              have Y87 := Lib.hid (Y86.out.step hm87)
              have A87 := Lib.hid (A86.out.step hm87)
              have S87 := Lib.hid (S86.out.step hm87)
              clear h hm87 H86 X86 Y86 A86 S86
              clear c0 c1 c2 c3 c4 q0 q1
              go_wp2_with fail
              go_roundw
              case rel =>
                have HON := Lib.hid (HO.out.rot an r ay)
                clear HO
                refine ⟨j + 1, W, F87, s87, (x.rot 1 an r ay), HLT.out, ?_, ?_, ?_, ?_, ?_⟩
                · go_num
                · exact H87.out
                · exact HON.out
                · exact X87.out
                · exact Y87.out
              case measure => (have := HLT.out; simp [intOf]; omega)
            ·
              go_wp2_with fail
              have hc := lm_flush H62.out
              rw [(HO.out).flush, if_neg (by simp)] at hc
              refine hc.mono ?_
              clear hc
              rintro e w88 ⟨rfl, s88, F88, h, hm88⟩
              have H88 := Lib.hid (show LM p1 g1 p2 g2 gG g w1 w88 s88 F88 x 0 from h)
              have X88 := Lib.hid (X62.out.step hm88)
              have Y88 := Lib.hid (Y62.out.step hm88)
              have A88 := Lib.hid (A62.out.step hm88)
              have S88 := Lib.hid (S62.out.step hm88)
              clear h hm88 H62 X62 Y62 A62 S62
              clear c0 c1 c2 c3 c4 q0 q1
              go_wp2_with fail
              go_roundw
              case rel =>
                have HON := Lib.hid HO.out
                clear HO
                refine ⟨j + 1, W, F88, s88, x, HLT.out, ?_, ?_, ?_, ?_, ?_⟩
                · go_num
                · exact H88.out
                · exact HON.out
                · exact X88.out
                · exact Y88.out
              case measure => (have := HLT.out; simp [intOf]; omega)
        ·
          by_cases k0 : kd = 0
          · subst k0
            go_wp2_with fail
            have hc := lm_flush H62.out
            rw [(HO.out).flush, if_neg (by simp)] at hc
            refine hc.mono ?_
            clear hc
            rintro e w89 ⟨rfl, s89, F89, h, hm89⟩
            have H89 := Lib.hid (show LM p1 g1 p2 g2 gG g w1 w89 s89 F89 x 0 from h)
            have X89 := Lib.hid (X62.out.step hm89)
            have Y89 := Lib.hid (Y62.out.step hm89)
            have A89 := Lib.hid (A62.out.step hm89)
            have S89 := Lib.hid (S62.out.step hm89)
            clear h hm89 H62 X62 Y62 A62 S62
            clear c0 c1 c2 c3 c4 q0 q1
            go_wp2_with fail
            go_roundw
            case rel =>
              have HON := Lib.hid HO.out
              clear HO
              refine ⟨j + 1, W, F89, s89, x, HLT.out, ?_, ?_, ?_, ?_, ?_⟩
              · go_num
              · exact H89.out
              · exact HON.out
              · exact X89.out
              · exact Y89.out
            case measure => (have := HLT.out; simp [intOf]; omega)
          by_cases k5 : kd = 5
          · subst k5
            go_wp2_with fail
            have hc := lm_flush H62.out
            rw [(HO.out).flush, if_neg (by simp)] at hc
            refine hc.mono ?_
            clear hc
            rintro e w90 ⟨rfl, s90, F90, h, hm90⟩
            have H90 := Lib.hid (show LM p1 g1 p2 g2 gG g w1 w90 s90 F90 x 0 from h)
            have X90 := Lib.hid (X62.out.step hm90)
            have Y90 := Lib.hid (Y62.out.step hm90)
            have A90 := Lib.hid (A62.out.step hm90)
            have S90 := Lib.hid (S62.out.step hm90)
            clear h hm90 H62 X62 Y62 A62 S62
            clear c0 c1 c2 c3 c4 q0 q1
            go_wp2_with fail
            go_roundw
            case rel =>
              have HON := Lib.hid HO.out
              clear HO
              refine ⟨j + 1, W, F90, s90, x, HLT.out, ?_, ?_, ?_, ?_, ?_⟩
              · go_num
              · exact H90.out
              · exact HON.out
              · exact X90.out
              · exact Y90.out
            case measure => (have := HLT.out; simp [intOf]; omega)
          by_cases k2 : kd = 2
          · subst k2
            go_wp2_with fail
            have hc := lm_sync H62.out (by rw [HO.out.len]; omega)
            refine hc.mono ?_
            clear hc
            rintro e w91 ⟨rfl, s91, F91, h, hm91⟩
            have H91 := Lib.hid (show LM p1 g1 p2 g2 gG g w1 w91 s91 F91 (x.sync goodN).2 0 from h)
            have X91 := Lib.hid (X62.out.step hm91)
            have Y91 := Lib.hid (Y62.out.step hm91)
            have A91 := Lib.hid (A62.out.step hm91)
            have S91 := Lib.hid (S62.out.step hm91)
            clear h hm91 H62 X62 Y62 A62 S62
            clear c0 c1 c2 c3 c4 q0 q1
            have c0 := (A91.out.1.cell 0).trans HCA.out.1
            have c1 := (A91.out.1.cell 1).trans HCA.out.2.1
            have c2 := (A91.out.1.cell 2).trans HCA.out.2.2.1
            have c3 := (A91.out.1.cell 3).trans HCA.out.2.2.2.1
            have c4 := (A91.out.1.cell 4).trans HCA.out.2.2.2.2.1
            have q0 := X91.out.1.cell 0
            have q1 := X91.out.1.cell 1
            go_wp2_with fail
            have hc := lm_flush H91.out
            rw [(HO.out.sync).flush, if_neg (by simp)] at hc
            refine hc.mono ?_
            clear hc
            rintro e w92 ⟨rfl, s92, F92, h, hm92⟩
            have H92 := Lib.hid (show LM p1 g1 p2 g2 gG g w1 w92 s92 F92 (x.sync goodN).2 0 from h)
            have X92 := Lib.hid (X91.out.step hm92)
            have Y92 := Lib.hid (Y91.out.step hm92)
            have A92 := Lib.hid (A91.out.step hm92)
            have S92 := Lib.hid (S91.out.step hm92)
            clear h hm92 H91 X91 Y91 A91 S91
            clear c0 c1 c2 c3 c4 q0 q1
            go_wp2_with fail
            go_roundw
            case rel =>
              have HON := Lib.hid HO.out.sync
              clear HO
              refine ⟨j + 1, W, F92, s92, (x.sync goodN).2, HLT.out, ?_, ?_, ?_, ?_, ?_⟩
              · go_num
              · exact H92.out
              · exact HON.out
              · exact X92.out
              · exact Y92.out
            case measure => (have := HLT.out; simp [intOf]; omega)
          by_cases k3 : kd = 3
          · subst k3
            go_wp2_with fail
            have hc := lm_heal H62.out an (by omega)
            refine hc.mono ?_
            clear hc
            rintro e w93 ⟨rfl, s93, F93, h, hm93⟩
            have H93 := Lib.hid (show LM p1 g1 p2 g2 gG g w1 w93 s93 F93 (x.heal goodN an).2 (0 + 1) from h)
            have X93 := Lib.hid (X62.out.step hm93)
            have Y93 := Lib.hid (Y62.out.step hm93)
            have A93 := Lib.hid (A62.out.step hm93)
            have S93 := Lib.hid (S62.out.step hm93)
            clear h hm93 H62 X62 Y62 A62 S62
            clear c0 c1 c2 c3 c4 q0 q1
            have c0 := (A93.out.1.cell 0).trans HCA.out.1
            have c1 := (A93.out.1.cell 1).trans HCA.out.2.1
            have c2 := (A93.out.1.cell 2).trans HCA.out.2.2.1
            have c3 := (A93.out.1.cell 3).trans HCA.out.2.2.2.1
            have c4 := (A93.out.1.cell 4).trans HCA.out.2.2.2.2.1
            have q0 := X93.out.1.cell 0
            have q1 := X93.out.1.cell 1
            go_wp2_with fail
            have hc := lm_flush H93.out
            rw [((HO.out.heal an)).flush, if_neg (by simp)] at hc
            refine hc.mono ?_
            clear hc
            rintro e w94 ⟨rfl, s94, F94, h, hm94⟩
            have H94 := Lib.hid (show LM p1 g1 p2 g2 gG g w1 w94 s94 F94 (x.heal goodN an).2 0 from h)
            have X94 := Lib.hid (X93.out.step hm94)
            have Y94 := Lib.hid (Y93.out.step hm94)
            have A94 := Lib.hid (A93.out.step hm94)
            have S94 := Lib.hid (S93.out.step hm94)
            clear h hm94 H93 X93 Y93 A93 S93
            clear c0 c1 c2 c3 c4 q0 q1
            go_wp2_with fail
            go_roundw
            case rel =>
              have HON := Lib.hid (HO.out.heal an)
              clear HO
              refine ⟨j + 1, W, F94, s94, (x.heal goodN an).2, HLT.out, ?_, ?_, ?_, ?_, ?_⟩
              · go_num
              · exact H94.out
              · exact HON.out
              · exact X94.out
              · exact Y94.out
            case measure => (have := HLT.out; simp [intOf]; omega)
          by_cases k7 : kd = 7
          · subst k7
            go_wp2_with fail
            have hc := lm_out1 H62.out ao
            refine hc.mono ?_
            clear hc
            rintro e w95 ⟨rfl, s95, F95, h, hm95⟩
            have H95 := Lib.hid (show LM p1 g1 p2 g2 gG g w1 w95 s95 F95 (x.out 1 ao) 0 from h)
            have X95 := Lib.hid (X62.out.step hm95)
            have Y95 := Lib.hid (Y62.out.step hm95)
            have A95 := Lib.hid (A62.out.step hm95)
            have S95 := Lib.hid (S62.out.step hm95)
            clear h hm95 H62 X62 Y62 A62 S62
            clear c0 c1 c2 c3 c4 q0 q1
            have c0 := (A95.out.1.cell 0).trans HCA.out.1
            have c1 := (A95.out.1.cell 1).trans HCA.out.2.1
            have c2 := (A95.out.1.cell 2).trans HCA.out.2.2.1
            have c3 := (A95.out.1.cell 3).trans HCA.out.2.2.2.1
            have c4 := (A95.out.1.cell 4).trans HCA.out.2.2.2.2.1
            have q0 := X95.out.1.cell 0
            have q1 := X95.out.1.cell 1
            go_wp2_with fail
            have hc := lm_flush H95.out
            rw [((HO.out.out ao)).flush, if_neg (by simp)] at hc
            refine hc.mono ?_
            clear hc
            rintro e w96 ⟨rfl, s96, F96, h, hm96⟩
            have H96 := Lib.hid (show LM p1 g1 p2 g2 gG g w1 w96 s96 F96 (x.out 1 ao) 0 from h)
            have X96 := Lib.hid (X95.out.step hm96)
            have Y96 := Lib.hid (Y95.out.step hm96)
            have A96 := Lib.hid (A95.out.step hm96)
            have S96 := Lib.hid (S95.out.step hm96)
            clear h hm96 H95 X95 Y95 A95 S95
            clear c0 c1 c2 c3 c4 q0 q1
            go_wp2_with fail
            go_roundw
            case rel =>
              have HON := Lib.hid (HO.out.out ao)
              clear HO
              refine ⟨j + 1, W, F96, s96, (x.out 1 ao), HLT.out, ?_, ?_, ?_, ?_, ?_⟩
              · go_num
              · exact H96.out
              · exact HON.out
              · exact X96.out
              · exact Y96.out
            case measure => (have := HLT.out; simp [intOf]; omega)
          by_cases k9 : kd = 9
          · subst k9
            obtain ⟨r, hr⟩ : ∃ r, r = ((ax.toNat : Int)).tmod 128 := ⟨_, rfl⟩
            have wx : IntKind.i64.wrap (ax.toNat : Int) = (ax.toNat : Int) := IntWalk.i64_in _ (by have := UInt8.toNat_lt ax; omega)
            replace hr := hr.symm
            go_wp2_with fail
            have hc := lm_rot1 H62.out an r ay
            refine hc.mono ?_
            clear hc
            rintro e w97 ⟨rfl, s97, F97, h, hm97⟩
            have H97 := Lib.hid (show LM p1 g1 p2 g2 gG g w1 w97 s97 F97 (x.rot 1 an r ay) 0 from h)
            have X97 := Lib.hid (X62.out.step hm97)
            have Y97 := Lib.hid (Y62.out.step hm97)
            have A97 := Lib.hid (A62.out.step hm97)
            have S97 := Lib.hid (S62.out.step hm97)
            clear h hm97 H62 X62 Y62 A62 S62
            clear c0 c1 c2 c3 c4 q0 q1
            have c0 := (A97.out.1.cell 0).trans HCA.out.1
            have c1 := (A97.out.1.cell 1).trans HCA.out.2.1
            have c2 := (A97.out.1.cell 2).trans HCA.out.2.2.1
            have c3 := (A97.out.1.cell 3).trans HCA.out.2.2.2.1
            have c4 := (A97.out.1.cell 4).trans HCA.out.2.2.2.2.1
            have q0 := X97.out.1.cell 0
            have q1 := X97.out.1.cell 1
            go_wp2_with fail
            have hc := lm_flush H97.out
            rw [((HO.out.rot an r ay)).flush, if_neg (by simp)] at hc
            refine hc.mono ?_
            clear hc
            rintro e w98 ⟨rfl, s98, F98, h, hm98⟩
            have H98 := Lib.hid (show LM p1 g1 p2 g2 gG g w1 w98 s98 F98 (x.rot 1 an r ay) 0 from h)
            have X98 := Lib.hid (X97.out.step hm98)
            have Y98 := Lib.hid (Y97.out.step hm98)
            have A98 := Lib.hid (A97.out.step hm98)
            have S98 := Lib.hid (S97.out.step hm98)
            clear h hm98 H97 X97 Y97 A97 S97
            clear c0 c1 c2 c3 c4 q0 q1
            go_wp2_with fail
            go_roundw
            case rel =>
              have HON := Lib.hid (HO.out.rot an r ay)
              clear HO
              refine ⟨j + 1, W, F98, s98, (x.rot 1 an r ay), HLT.out, ?_, ?_, ?_, ?_, ?_⟩
              · go_num
              · exact H98.out
              · exact HON.out
              · exact X98.out
              · exact Y98.out
            case measure => (have := HLT.out; simp [intOf]; omega)
          ·
            go_wp2_with fail
            have hc := lm_flush H62.out
            rw [(HO.out).flush, if_neg (by simp)] at hc
            refine hc.mono ?_
            clear hc
            rintro e w99 ⟨rfl, s99, F99, h, hm99⟩
            have H99 := Lib.hid (show LM p1 g1 p2 g2 gG g w1 w99 s99 F99 x 0 from h)
            have X99 := Lib.hid (X62.out.step hm99)
            have Y99 := Lib.hid (Y62.out.step hm99)
            have A99 := Lib.hid (A62.out.step hm99)
            have S99 := Lib.hid (S62.out.step hm99)
            clear h hm99 H62 X62 Y62 A62 S62
            clear c0 c1 c2 c3 c4 q0 q1
            go_wp2_with fail
            go_roundw
            case rel =>
              have HON := Lib.hid HO.out
              clear HO
              refine ⟨j + 1, W, F99, s99, x, HLT.out, ?_, ?_, ?_, ?_, ?_⟩
              · go_num
              · exact H99.out
              · exact HON.out
              · exact X99.out
              · exact Y99.out
            case measure => (have := HLT.out; simp [intOf]; omega)
      · obtain rfl : j = N := by have := HJ.out; omega
        clear hlt
        obtain ⟨wo, hwo⟩ : ∃ wo, wo = wr := ⟨_, rfl⟩
        subst hwo
        have HOL := Lib.hid (show x.a.length = 6 from HO.out.len)
        go_wp2_with fail
        go_loopw [10] (fun i wr => ∃ (n : Nat) (F : Nat → Prop) (s : Mr (Two p1 g1 p2 g2)), n ≤ 6 ∧ i = .int .i64 n ∧ LM p1 g1 p2 g2 gG g w1 wr s F x 0 ∧ Bx w1 wr F b5 (svsA W) 63) (fun i _ => 6 - (intOf i).toNat)
        case atStart => exact ⟨0, F, s, Nat.zero_le _, rfl, H.out, Y.out⟩
        case round =>
          clear H X Y
          obtain ⟨n, F', s', hn, rfl, hlm, hby⟩ := hrel
          have H := Lib.hid hlm
          have HN := Lib.hid hn
          have Y := Lib.hid hby
          clear hlm hn hby
          by_cases hlt : n < 6
          · have HLT := Lib.hid hlt
            have n0 : (0 : Int) ≤ (n : Int) := by omega
            have n1 : (n : Int) < (6 : Int) := by omega
            have wn : IntKind.i64.wrap ((n : Int) + 1) = ((n + 1 : Nat) : Int) := IntWalk.i64_in _ (by omega)
            clear hlt
            obtain ⟨rv, hrv⟩ : ∃ rv, rv = x.read goodN (n : Int) := ⟨_, rfl⟩
            have HRV3 := Lib.hid (show rv.1.length = 128 from by
              have hat := H.out.live.at_
              have := H.out.sees.read (G := gG) (n : Int)
              rw [hrv, show x.read goodN (n : Int) = x.read gG.f (n : Int) from rfl, ← this, readM]
              split
              · split
                · exact ml_rdlen hat (i := 0) (by omega) _
                · split
                  · exact ml_rdlen hat (i := 1) (by omega) _
                  · exact zeroS_length
              · exact zeroS_length)
            have HIR := Lib.hid (show (Try.prog.info? 38).map (·.size) = some (bva rv.1).size by rw [bva_size, HRV3.out]; exact info_sec)
            have HRV := Lib.hid hrv
            clear hrv
            go_wp2_with fail
            have hc := lm_read H.out (n : Int)
            rw [show x.read gG.f (n : Int) = rv from HRV.out.symm] at hc
            refine hc.mono ?_
            clear hc
            rintro e w81 ⟨rfl, s81, F81, h, hm81⟩
            have H81 := Lib.hid (show LM p1 g1 p2 g2 gG g w1 w81 s81 F81 x 0 from h)
            have Y81 := Lib.hid (Y.out.step hm81)
            clear h hm81 H Y
            go_wp2_with (show wpList _ _ _ ({ dst := none, op := .store 38 (.tmp 11) (.tmp 130), type := _, pos := _, after := _, guard := _ } :: _) _ _; apply Classical.byContradiction; intro hneg)
            refine hneg ?_
            clear hneg
            refine wpList_store_row rfl 38 (.tmp 11) (.tmp 130) rfl w81.heap.size (bva rv.1) rfl rfl 38 (bva z) (heap_alloc_new _ _) HIR.out (by rw [bva_size, bva_size, HRV3.out, HZ3.out]) (bva_one _) ?_
            obtain ⟨w82, hw82⟩ : ∃ w82, w82 = (w81.alloc (.cells (bva z) 38)).setRow w81.heap.size (bva rv.1) := ⟨_, rfl⟩
            have bw : Below w81.heap.size w81 w82 := by rw [hw82]; exact below_setRow ((Below.refl _ _).alloc (Nat.le_refl _) _) (Nat.le_refl _) _
            have hbx : Blk w82 w81.heap.size (bva rv.1) 38 := by rw [hw82]; exact setRow_heap _ _ _ _ _ _ (heap_alloc_new _ _)
            rw [← hw82]
            clear hw82
            obtain ⟨b82, hb82⟩ : ∃ b82, b82 = w81.heap.size := ⟨_, rfl⟩
            rw [← hb82] at hbx
            rw [← hb82]
            have R82 := Lib.hid (show Bx w1 w82 F81 b82 (bva rv.1) 38 from ⟨hbx, by rw [hb82]; exact H81.out.live.bel.size, fun hf => by have := (ML (Two p1 g1 p2 g2) gG g).lt H81.out.live.at_ _ hf; omega⟩)
            clear hb82 hbx
            have H82 := Lib.hid (H81.out.below bw)
            have Y82 := Lib.hid (Y81.out.below bw)
            clear bw H81 Y81
            go_upto_region 35 with fail
            obtain ⟨wt, hwt⟩ : ∃ wt, wt = W.getD n zeroS := ⟨_, rfl⟩
            have HT3 := Lib.hid (show wt.length = 128 by
              rw [hwt, List.getD_eq_getElem?_getD, List.getElem?_eq_getElem (show n < W.length by rw [HO.out.wl]; exact HLT.out)]
              exact HO.out.w3 _ (List.getElem_mem _))
            have HIT := Lib.hid (show (Try.prog.info? 38).map (·.size) = some (bva wt).size by rw [bva_size, HT3.out]; exact info_sec)
            have HCE := Lib.hid (show ∀ w', Below w82.heap.size w82 w' → ∀ i v, (bv wt)[i]? = some v → w'.cell? ((⟨b5, n * 128, none⟩ : Addr).add i) = some v from fun w' hb => by
              rw [hwt]
              exact six_cells (Y82.out.1.below hb) HO.out.w3 (show n < W.length by rw [HO.out.wl]; exact HLT.out))
            obtain ⟨gd, hgd⟩ : ∃ gd, gd = goodN (n : Int) wt := ⟨_, rfl⟩
            have HG := Lib.hid (show ∀ w, Calls Try.prog 26 #[.int .i64 (n : Int), .agg (bva wt)] w (RetB (.bool gd) w) from fun w => by rw [hgd]; exact good_any w n wt HT3.out)
            have HYES := Lib.hid (show gd = true → rv = (wt, 0) from fun h => by rw [HRV.out, hwt]; exact HO.out.read_yes HLT.out (by rw [← hwt, ← hgd]; exact h))
            have HNO := Lib.hid (show gd = false → rv.2 = 0 → rv.1 ≠ wt from fun h => by rw [HRV.out, hwt]; exact HO.out.read_no HLT.out (by rw [← hwt, ← hgd]; exact h))
            clear hwt hgd
            obtain ⟨rs, re⟩ := rv
            have HEQ := Lib.hid (eq_sec rs wt HRV3.out HT3.out)
            cases gd
            ·
              by_cases e0 : re = 0
              ·
                subst e0
                have hne : rs ≠ wt := HNO.out rfl rfl
                have hQ := HEQ.out
                rw [decide_eq_false hne] at hQ
                refine wp_region_held_drew (S := fun w' => Below w82.heap.size w82 w') (by kernel_rfl) (Below.refl w82.heap.size w82).drew (fun hh => ?_)
                have HH := Lib.hid hh
                clear hh
                refine wpAnyH_take (i := 0) (v := ?vNA0) rfl (by kernel_rfl) (by kernel_rfl) (by kernel_rfl) (fun _ _ _ h => h) (Or.inl ⟨by rfl, fun w' _ => ?yNA0⟩) HH.out ?_
                case yNA0 => (go_simp; try with_reducible rfl)
                refine wpAnyH_take (i := 1) (v := ?vNA1) rfl (by kernel_rfl) (by kernel_rfl) (by kernel_rfl) (fun _ _ _ h => h) (Or.inl ⟨by rfl, fun w' _ => ?yNA1⟩) HH.out ?_
                case yNA1 => (go_simp; try with_reducible rfl)
                try simp only [List.getElem_toArray, List.getElem_cons_succ, List.getElem_cons_zero, Act.put, List.setIfInBounds_toArray, List.set_cons_zero, List.set_cons_succ]
                refine wpAnyH_take (i := 2) (v := ?vNA2) rfl (by kernel_rfl) (by kernel_rfl) (by kernel_rfl) (fun _ _ _ h => h) (Or.inl ⟨by rfl, fun w' _ => ?yNA2⟩) HH.out ?_
                case yNA2 => (go_simp; try with_reducible rfl)
                refine wpAnyH_take (i := 3) (v := .agg (bva wt)) rfl (by kernel_rfl) (by kernel_rfl) (by kernel_rfl) (fun _ _ _ h => h) (Or.inl ⟨by rfl, fun w' hw' => ?yNA3⟩) HH.out ?_
                case yNA3 => exact exec_load_at 38 (.tmp 134) rfl ⟨b5, n * 128, none⟩ rfl (HCE.out w' hw') Try.underlying38 rfl HIT.out
                try simp only [List.getElem_toArray, List.getElem_cons_succ, List.getElem_cons_zero, Act.put, List.setIfInBounds_toArray, List.set_cons_zero, List.set_cons_succ]
                refine wpAnyH_ready (rs := [4]) (by kernel_rfl) (by simp) (AllReadyH.cons rfl (fun K hK => ?_) AllReadyH.nil)
                go_simp
                refine (HG.out _).mono ?_
                rintro e v1 ⟨rfl, bw1⟩
                go_simp
                refine hK.out _ _ (HH.out.trans (bw1.mono HH.out.size)) (fun hh => ?_)
                have HH' := Lib.hid hh
                clear hh hK K HH bw1
                have HH := Lib.hid HH'.out
                clear HH'
                try simp only [List.getElem_toArray, List.getElem_cons_succ, List.getElem_cons_zero, Act.put, List.setIfInBounds_toArray, List.set_cons_zero, List.set_cons_succ]
                refine wpAnyH_take (i := 5) (v := ?vNA5) rfl (by kernel_rfl) (by kernel_rfl) (by kernel_rfl) (fun _ _ _ h => h) (Or.inl ⟨by rfl, fun w' _ => ?yNA5⟩) HH.out ?_
                case yNA5 => (go_simp; try with_reducible rfl)
                refine wpAnyH_take (i := 6) (v := undef) rfl (by kernel_rfl) (by kernel_rfl) (by kernel_rfl) (fun _ _ _ h => h) (Or.inr ⟨by rfl, rfl⟩) HH.out ?_
                refine wpAnyH_take (i := 7) (v := undef) rfl (by kernel_rfl) (by kernel_rfl) (by kernel_rfl) (fun _ _ _ h => h) (Or.inr ⟨by rfl, rfl⟩) HH.out ?_
                try simp only [List.getElem_toArray, List.getElem_cons_succ, List.getElem_cons_zero, Act.put, List.setIfInBounds_toArray, List.set_cons_zero, List.set_cons_succ]
                refine wpAnyH_take (i := 8) (v := undef) rfl (by kernel_rfl) (by kernel_rfl) (by kernel_rfl) (fun _ _ _ h => h) (Or.inr ⟨by rfl, rfl⟩) HH.out ?_
                refine wpAnyH_take (i := 9) (v := undef) rfl (by kernel_rfl) (by kernel_rfl) (by kernel_rfl) (fun _ _ _ h => h) (Or.inr ⟨by rfl, rfl⟩) HH.out ?_
                refine wpAnyH_take (i := 10) (v := undef) rfl (by kernel_rfl) (by kernel_rfl) (by kernel_rfl) (fun _ _ _ h => h) (Or.inr ⟨by rfl, rfl⟩) HH.out ?_
                try simp only [List.getElem_toArray, List.getElem_cons_succ, List.getElem_cons_zero, Act.put, List.setIfInBounds_toArray, List.set_cons_zero, List.set_cons_succ]
                refine wpAnyH_take (i := 11) (v := undef) rfl (by kernel_rfl) (by kernel_rfl) (by kernel_rfl) (fun _ _ _ h => h) (Or.inr ⟨by rfl, rfl⟩) HH.out ?_
                refine wpAnyH_take (i := 12) (v := undef) rfl (by kernel_rfl) (by kernel_rfl) (by kernel_rfl) (fun _ _ _ h => h) (Or.inr ⟨by rfl, rfl⟩) HH.out ?_
                refine wpAnyH_take (i := 13) (v := undef) rfl (by kernel_rfl) (by kernel_rfl) (by kernel_rfl) (fun _ _ _ h => h) (Or.inr ⟨by rfl, rfl⟩) HH.out ?_
                try simp only [List.getElem_toArray, List.getElem_cons_succ, List.getElem_cons_zero, Act.put, List.setIfInBounds_toArray, List.set_cons_zero, List.set_cons_succ]
                refine wpAnyH_take (i := 14) (v := undef) rfl (by kernel_rfl) (by kernel_rfl) (by kernel_rfl) (fun _ _ _ h => h) (Or.inr ⟨by rfl, rfl⟩) HH.out ?_
                refine wpAnyH_take (i := 15) (v := ?vNA15) rfl (by kernel_rfl) (by kernel_rfl) (by kernel_rfl) (fun _ _ _ h => h) (Or.inl ⟨by rfl, fun w' _ => ?yNA15⟩) HH.out ?_
                case yNA15 => (go_simp; try with_reducible rfl)
                refine wpAnyH_take (i := 16) (v := ?vNA16) rfl (by kernel_rfl) (by kernel_rfl) (by kernel_rfl) (fun _ _ _ h => h) (Or.inl ⟨by rfl, fun w' _ => ?yNA16⟩) HH.out ?_
                case yNA16 => (go_simp; try with_reducible rfl)
                try simp only [List.getElem_toArray, List.getElem_cons_succ, List.getElem_cons_zero, Act.put, List.setIfInBounds_toArray, List.set_cons_zero, List.set_cons_succ]
                refine wpAnyH_take (i := 17) (v := ?vNA17) rfl (by kernel_rfl) (by kernel_rfl) (by kernel_rfl) (fun _ _ _ h => h) (Or.inl ⟨by rfl, fun w' _ => ?yNA17⟩) HH.out ?_
                case yNA17 => (go_simp; try with_reducible rfl)
                refine wpAnyH_take (i := 18) (v := ?vNA18) rfl (by kernel_rfl) (by kernel_rfl) (by kernel_rfl) (fun _ _ _ h => h) (Or.inl ⟨by rfl, fun w' _ => ?yNA18⟩) HH.out ?_
                case yNA18 => (go_simp; try with_reducible rfl)
                refine wpAnyH_take (i := 19) (v := ?vNA19) rfl (by kernel_rfl) (by kernel_rfl) (by kernel_rfl) (fun _ _ _ h => h) (Or.inl ⟨by rfl, fun w' _ => ?yNA19⟩) HH.out ?_
                case yNA19 => (go_simp; try with_reducible rfl)
                try simp only [List.getElem_toArray, List.getElem_cons_succ, List.getElem_cons_zero, Act.put, List.setIfInBounds_toArray, List.set_cons_zero, List.set_cons_succ]
                refine wpAnyH_take (i := 20) (v := .agg (bva wt)) rfl (by kernel_rfl) (by kernel_rfl) (by kernel_rfl) (fun _ _ _ h => h) (Or.inl ⟨by rfl, fun w' hw' => ?yNA20⟩) HH.out ?_
                case yNA20 => exact exec_load_at 38 (.tmp 151) rfl ⟨b5, n * 128, none⟩ rfl (HCE.out w' hw') Try.underlying38 rfl HIT.out
                try simp only [List.getElem_toArray, List.getElem_cons_succ, List.getElem_cons_zero, Act.put, List.setIfInBounds_toArray, List.set_cons_zero, List.set_cons_succ]
                refine wpAnyH_ready (rs := [21]) (by kernel_rfl) (by simp) (AllReadyH.cons rfl (fun K hK => ?_) AllReadyH.nil)
                go_simp
                refine (HG.out _).mono ?_
                rintro e v2 ⟨rfl, bw1⟩
                go_simp
                refine hK.out _ _ (HH.out.trans (bw1.mono HH.out.size)) (fun hh => ?_)
                have HH' := Lib.hid hh
                clear hh hK K HH bw1
                have HH := Lib.hid HH'.out
                clear HH'
                refine wpAnyH_take (i := 22) (v := ?vNA22) rfl (by kernel_rfl) (by kernel_rfl) (by kernel_rfl) (fun _ _ _ h => h) (Or.inl ⟨by rfl, fun w' _ => ?yNA22⟩) HH.out ?_
                case yNA22 => (go_simp; try with_reducible rfl)
                try simp only [List.getElem_toArray, List.getElem_cons_succ, List.getElem_cons_zero, Act.put, List.setIfInBounds_toArray, List.set_cons_zero, List.set_cons_succ]
                refine wpAnyH_take (i := 23) (v := ?vNA23) rfl (by kernel_rfl) (by kernel_rfl) (by kernel_rfl) (fun _ _ _ h => h) (Or.inl ⟨by rfl, fun w' _ => ?yNA23⟩) HH.out ?_
                case yNA23 => (go_simp; try with_reducible rfl)
                refine wpAnyH_take (i := 24) (v := ?vNA24) rfl (by kernel_rfl) (by kernel_rfl) (by kernel_rfl) (fun _ _ _ h => h) (Or.inl ⟨by rfl, fun w' _ => ?yNA24⟩) HH.out ?_
                case yNA24 => (go_simp; try with_reducible rfl)
                refine wpAnyH_take (i := 25) (v := ?vNA25) rfl (by kernel_rfl) (by kernel_rfl) (by kernel_rfl) (fun _ _ _ h => h) (Or.inl ⟨by rfl, fun w' _ => ?yNA25⟩) HH.out ?_
                case yNA25 => (go_simp; try with_reducible rfl)
                try simp only [List.getElem_toArray, List.getElem_cons_succ, List.getElem_cons_zero, Act.put, List.setIfInBounds_toArray, List.set_cons_zero, List.set_cons_succ]
                refine wpAnyH_take (i := 26) (v := ?vNA26) rfl (by kernel_rfl) (by kernel_rfl) (by kernel_rfl) (fun _ _ _ h => h) (Or.inl ⟨by rfl, fun w' _ => ?yNA26⟩) HH.out ?_
                case yNA26 => (go_simp; try with_reducible rfl)
                refine wpAnyH_take (i := 27) (v := ?vNA27) rfl (by kernel_rfl) (by kernel_rfl) (by kernel_rfl) (fun _ _ _ h => h) (Or.inl ⟨by rfl, fun w' _ => ?yNA27⟩) HH.out ?_
                case yNA27 => (go_simp; try with_reducible rfl)
                refine wpAnyH_take (i := 28) (v := .agg (bva rs)) rfl (by kernel_rfl) (by kernel_rfl) (by kernel_rfl) (fun _ _ _ h => h) (Or.inl ⟨by rfl, fun w' hw' => ?yNA28⟩) HH.out ?_
                case yNA28 => exact exec_load 38 (.tmp 11) rfl rfl (R82.out.1.below hw') Try.underlying38 rfl HIR.out
                try simp only [List.getElem_toArray, List.getElem_cons_succ, List.getElem_cons_zero, Act.put, List.setIfInBounds_toArray, List.set_cons_zero, List.set_cons_succ]
                refine wpAnyH_take (i := 29) (v := ?vNA29) rfl (by kernel_rfl) (by kernel_rfl) (by kernel_rfl) (fun _ _ _ h => h) (Or.inl ⟨by rfl, fun w' _ => ?yNA29⟩) HH.out ?_
                case yNA29 => (go_simp; try with_reducible rfl)
                refine wpAnyH_take (i := 30) (v := ?vNA30) rfl (by kernel_rfl) (by kernel_rfl) (by kernel_rfl) (fun _ _ _ h => h) (Or.inl ⟨by rfl, fun w' _ => ?yNA30⟩) HH.out ?_
                case yNA30 => (go_simp; try with_reducible rfl)
                refine wpAnyH_take (i := 31) (v := .agg (bva wt)) rfl (by kernel_rfl) (by kernel_rfl) (by kernel_rfl) (fun _ _ _ h => h) (Or.inl ⟨by rfl, fun w' hw' => ?yNA31⟩) HH.out ?_
                case yNA31 => exact exec_load_at 38 (.tmp 162) rfl ⟨b5, n * 128, none⟩ rfl (HCE.out w' hw') Try.underlying38 rfl HIT.out
                try simp only [List.getElem_toArray, List.getElem_cons_succ, List.getElem_cons_zero, Act.put, List.setIfInBounds_toArray, List.set_cons_zero, List.set_cons_succ]
                refine wpAnyH_take (i := 32) (v := .bool false) rfl (by kernel_rfl) (by kernel_rfl) (by kernel_rfl) (fun _ _ _ h => h) (Or.inl ⟨by rfl, fun w' hw' => ?yNA32⟩) HH.out ?_
                case yNA32 => (go_simp; try rfl)
                refine wpAnyH_take (i := 33) (v := ?vNA33) rfl (by kernel_rfl) (by kernel_rfl) (by kernel_rfl) (fun _ _ _ h => h) (Or.inl ⟨by rfl, fun w' _ => ?yNA33⟩) HH.out ?_
                case yNA33 => (go_simp; try with_reducible rfl)
                refine wpAnyH_take (i := 34) (v := ?vNA34) rfl (by kernel_rfl) (by kernel_rfl) (by kernel_rfl) (fun _ _ _ h => h) (Or.inl ⟨by rfl, fun w' _ => ?yNA34⟩) HH.out ?_
                case yNA34 => (go_simp; try with_reducible rfl)
                try simp only [List.getElem_toArray, List.getElem_cons_succ, List.getElem_cons_zero, Act.put, List.setIfInBounds_toArray, List.set_cons_zero, List.set_cons_succ]
                refine wpAnyH_done (by kernel_rfl) ?_ _
                go_wp2_with fail
                go_roundw
                case rel => exact ⟨n + 1, F81, s81, HLT.out, by go_num, H82.out.below HH.out, Y82.out.below HH.out⟩
                case measure => (have := HLT.out; simp [intOf]; omega)
              ·
                refine wp_region_held_drew (S := fun w' => Below w82.heap.size w82 w') (by kernel_rfl) (Below.refl w82.heap.size w82).drew (fun hh => ?_)
                have HH := Lib.hid hh
                clear hh
                refine wpAnyH_take (i := 0) (v := ?vNB0) rfl (by kernel_rfl) (by kernel_rfl) (by kernel_rfl) (fun _ _ _ h => h) (Or.inl ⟨by rfl, fun w' _ => ?yNB0⟩) HH.out ?_
                case yNB0 => (go_simp; try with_reducible rfl)
                refine wpAnyH_take (i := 1) (v := ?vNB1) rfl (by kernel_rfl) (by kernel_rfl) (by kernel_rfl) (fun _ _ _ h => h) (Or.inl ⟨by rfl, fun w' _ => ?yNB1⟩) HH.out ?_
                case yNB1 => (go_simp; try with_reducible rfl)
                try simp only [List.getElem_toArray, List.getElem_cons_succ, List.getElem_cons_zero, Act.put, List.setIfInBounds_toArray, List.set_cons_zero, List.set_cons_succ]
                refine wpAnyH_take (i := 2) (v := ?vNB2) rfl (by kernel_rfl) (by kernel_rfl) (by kernel_rfl) (fun _ _ _ h => h) (Or.inl ⟨by rfl, fun w' _ => ?yNB2⟩) HH.out ?_
                case yNB2 => (go_simp; try with_reducible rfl)
                refine wpAnyH_take (i := 3) (v := .agg (bva wt)) rfl (by kernel_rfl) (by kernel_rfl) (by kernel_rfl) (fun _ _ _ h => h) (Or.inl ⟨by rfl, fun w' hw' => ?yNB3⟩) HH.out ?_
                case yNB3 => exact exec_load_at 38 (.tmp 134) rfl ⟨b5, n * 128, none⟩ rfl (HCE.out w' hw') Try.underlying38 rfl HIT.out
                try simp only [List.getElem_toArray, List.getElem_cons_succ, List.getElem_cons_zero, Act.put, List.setIfInBounds_toArray, List.set_cons_zero, List.set_cons_succ]
                refine wpAnyH_ready (rs := [4]) (by kernel_rfl) (by simp) (AllReadyH.cons rfl (fun K hK => ?_) AllReadyH.nil)
                go_simp
                refine (HG.out _).mono ?_
                rintro e v1 ⟨rfl, bw1⟩
                go_simp
                refine hK.out _ _ (HH.out.trans (bw1.mono HH.out.size)) (fun hh => ?_)
                have HH' := Lib.hid hh
                clear hh hK K HH bw1
                have HH := Lib.hid HH'.out
                clear HH'
                try simp only [List.getElem_toArray, List.getElem_cons_succ, List.getElem_cons_zero, Act.put, List.setIfInBounds_toArray, List.set_cons_zero, List.set_cons_succ]
                refine wpAnyH_take (i := 5) (v := ?vNB5) rfl (by kernel_rfl) (by kernel_rfl) (by kernel_rfl) (fun _ _ _ h => h) (Or.inl ⟨by rfl, fun w' _ => ?yNB5⟩) HH.out ?_
                case yNB5 => (go_simp; try with_reducible rfl)
                refine wpAnyH_take (i := 6) (v := undef) rfl (by kernel_rfl) (by kernel_rfl) (by kernel_rfl) (fun _ _ _ h => h) (Or.inr ⟨by rfl, rfl⟩) HH.out ?_
                refine wpAnyH_take (i := 7) (v := undef) rfl (by kernel_rfl) (by kernel_rfl) (by kernel_rfl) (fun _ _ _ h => h) (Or.inr ⟨by rfl, rfl⟩) HH.out ?_
                try simp only [List.getElem_toArray, List.getElem_cons_succ, List.getElem_cons_zero, Act.put, List.setIfInBounds_toArray, List.set_cons_zero, List.set_cons_succ]
                refine wpAnyH_take (i := 8) (v := undef) rfl (by kernel_rfl) (by kernel_rfl) (by kernel_rfl) (fun _ _ _ h => h) (Or.inr ⟨by rfl, rfl⟩) HH.out ?_
                refine wpAnyH_take (i := 9) (v := undef) rfl (by kernel_rfl) (by kernel_rfl) (by kernel_rfl) (fun _ _ _ h => h) (Or.inr ⟨by rfl, rfl⟩) HH.out ?_
                refine wpAnyH_take (i := 10) (v := undef) rfl (by kernel_rfl) (by kernel_rfl) (by kernel_rfl) (fun _ _ _ h => h) (Or.inr ⟨by rfl, rfl⟩) HH.out ?_
                try simp only [List.getElem_toArray, List.getElem_cons_succ, List.getElem_cons_zero, Act.put, List.setIfInBounds_toArray, List.set_cons_zero, List.set_cons_succ]
                refine wpAnyH_take (i := 11) (v := undef) rfl (by kernel_rfl) (by kernel_rfl) (by kernel_rfl) (fun _ _ _ h => h) (Or.inr ⟨by rfl, rfl⟩) HH.out ?_
                refine wpAnyH_take (i := 12) (v := undef) rfl (by kernel_rfl) (by kernel_rfl) (by kernel_rfl) (fun _ _ _ h => h) (Or.inr ⟨by rfl, rfl⟩) HH.out ?_
                refine wpAnyH_take (i := 13) (v := undef) rfl (by kernel_rfl) (by kernel_rfl) (by kernel_rfl) (fun _ _ _ h => h) (Or.inr ⟨by rfl, rfl⟩) HH.out ?_
                try simp only [List.getElem_toArray, List.getElem_cons_succ, List.getElem_cons_zero, Act.put, List.setIfInBounds_toArray, List.set_cons_zero, List.set_cons_succ]
                refine wpAnyH_take (i := 14) (v := undef) rfl (by kernel_rfl) (by kernel_rfl) (by kernel_rfl) (fun _ _ _ h => h) (Or.inr ⟨by rfl, rfl⟩) HH.out ?_
                refine wpAnyH_take (i := 15) (v := ?vNB15) rfl (by kernel_rfl) (by kernel_rfl) (by kernel_rfl) (fun _ _ _ h => h) (Or.inl ⟨by rfl, fun w' _ => ?yNB15⟩) HH.out ?_
                case yNB15 => (go_simp; try with_reducible rfl)
                refine wpAnyH_take (i := 16) (v := ?vNB16) rfl (by kernel_rfl) (by kernel_rfl) (by kernel_rfl) (fun _ _ _ h => h) (Or.inl ⟨by rfl, fun w' _ => ?yNB16⟩) HH.out ?_
                case yNB16 => (go_simp; try with_reducible rfl)
                try simp only [List.getElem_toArray, List.getElem_cons_succ, List.getElem_cons_zero, Act.put, List.setIfInBounds_toArray, List.set_cons_zero, List.set_cons_succ]
                refine wpAnyH_take (i := 17) (v := ?vNB17) rfl (by kernel_rfl) (by kernel_rfl) (by kernel_rfl) (fun _ _ _ h => h) (Or.inl ⟨by rfl, fun w' _ => ?yNB17⟩) HH.out ?_
                case yNB17 => (go_simp; try with_reducible rfl)
                refine wpAnyH_take (i := 18) (v := ?vNB18) rfl (by kernel_rfl) (by kernel_rfl) (by kernel_rfl) (fun _ _ _ h => h) (Or.inl ⟨by rfl, fun w' _ => ?yNB18⟩) HH.out ?_
                case yNB18 => (go_simp; try with_reducible rfl)
                refine wpAnyH_take (i := 19) (v := ?vNB19) rfl (by kernel_rfl) (by kernel_rfl) (by kernel_rfl) (fun _ _ _ h => h) (Or.inl ⟨by rfl, fun w' _ => ?yNB19⟩) HH.out ?_
                case yNB19 => (go_simp; try with_reducible rfl)
                try simp only [List.getElem_toArray, List.getElem_cons_succ, List.getElem_cons_zero, Act.put, List.setIfInBounds_toArray, List.set_cons_zero, List.set_cons_succ]
                refine wpAnyH_take (i := 20) (v := .agg (bva wt)) rfl (by kernel_rfl) (by kernel_rfl) (by kernel_rfl) (fun _ _ _ h => h) (Or.inl ⟨by rfl, fun w' hw' => ?yNB20⟩) HH.out ?_
                case yNB20 => exact exec_load_at 38 (.tmp 151) rfl ⟨b5, n * 128, none⟩ rfl (HCE.out w' hw') Try.underlying38 rfl HIT.out
                try simp only [List.getElem_toArray, List.getElem_cons_succ, List.getElem_cons_zero, Act.put, List.setIfInBounds_toArray, List.set_cons_zero, List.set_cons_succ]
                refine wpAnyH_ready (rs := [21]) (by kernel_rfl) (by simp) (AllReadyH.cons rfl (fun K hK => ?_) AllReadyH.nil)
                go_simp
                refine (HG.out _).mono ?_
                rintro e v2 ⟨rfl, bw1⟩
                go_simp
                refine hK.out _ _ (HH.out.trans (bw1.mono HH.out.size)) (fun hh => ?_)
                have HH' := Lib.hid hh
                clear hh hK K HH bw1
                have HH := Lib.hid HH'.out
                clear HH'
                refine wpAnyH_take (i := 22) (v := ?vNB22) rfl (by kernel_rfl) (by kernel_rfl) (by kernel_rfl) (fun _ _ _ h => h) (Or.inl ⟨by rfl, fun w' _ => ?yNB22⟩) HH.out ?_
                case yNB22 => (go_simp; try with_reducible rfl)
                try simp only [List.getElem_toArray, List.getElem_cons_succ, List.getElem_cons_zero, Act.put, List.setIfInBounds_toArray, List.set_cons_zero, List.set_cons_succ]
                refine wpAnyH_take (i := 23) (v := ?vNB23) rfl (by kernel_rfl) (by kernel_rfl) (by kernel_rfl) (fun _ _ _ h => h) (Or.inl ⟨by rfl, fun w' _ => ?yNB23⟩) HH.out ?_
                case yNB23 => (go_simp; try with_reducible rfl)
                refine wpAnyH_take (i := 24) (v := ?vNB24) rfl (by kernel_rfl) (by kernel_rfl) (by kernel_rfl) (fun _ _ _ h => h) (Or.inl ⟨by rfl, fun w' _ => ?yNB24⟩) HH.out ?_
                case yNB24 => (go_simp; try with_reducible rfl)
                refine wpAnyH_take (i := 25) (v := .bool false) rfl (by kernel_rfl) (by kernel_rfl) (by kernel_rfl) (fun _ _ _ h => h) (Or.inl ⟨by rfl, fun w' hw' => ?yNB25⟩) HH.out ?_
                case yNB25 => (go_simp; try rfl)
                try simp only [List.getElem_toArray, List.getElem_cons_succ, List.getElem_cons_zero, Act.put, List.setIfInBounds_toArray, List.set_cons_zero, List.set_cons_succ]
                refine wpAnyH_take (i := 26) (v := ?vNB26) rfl (by kernel_rfl) (by kernel_rfl) (by kernel_rfl) (fun _ _ _ h => h) (Or.inl ⟨by rfl, fun w' _ => ?yNB26⟩) HH.out ?_
                case yNB26 => (go_simp; try with_reducible rfl)
                refine wpAnyH_take (i := 27) (v := ?vNB27) rfl (by kernel_rfl) (by kernel_rfl) (by kernel_rfl) (fun _ _ _ h => h) (Or.inl ⟨by rfl, fun w' _ => ?yNB27⟩) HH.out ?_
                case yNB27 => (go_simp; try with_reducible rfl)
                refine wpAnyH_take (i := 28) (v := undef) rfl (by kernel_rfl) (by kernel_rfl) (by kernel_rfl) (fun _ _ _ h => h) (Or.inr ⟨by rfl, rfl⟩) HH.out ?_
                try simp only [List.getElem_toArray, List.getElem_cons_succ, List.getElem_cons_zero, Act.put, List.setIfInBounds_toArray, List.set_cons_zero, List.set_cons_succ]
                refine wpAnyH_take (i := 29) (v := undef) rfl (by kernel_rfl) (by kernel_rfl) (by kernel_rfl) (fun _ _ _ h => h) (Or.inr ⟨by rfl, rfl⟩) HH.out ?_
                refine wpAnyH_take (i := 30) (v := undef) rfl (by kernel_rfl) (by kernel_rfl) (by kernel_rfl) (fun _ _ _ h => h) (Or.inr ⟨by rfl, rfl⟩) HH.out ?_
                refine wpAnyH_take (i := 31) (v := undef) rfl (by kernel_rfl) (by kernel_rfl) (by kernel_rfl) (fun _ _ _ h => h) (Or.inr ⟨by rfl, rfl⟩) HH.out ?_
                try simp only [List.getElem_toArray, List.getElem_cons_succ, List.getElem_cons_zero, Act.put, List.setIfInBounds_toArray, List.set_cons_zero, List.set_cons_succ]
                refine wpAnyH_take (i := 32) (v := undef) rfl (by kernel_rfl) (by kernel_rfl) (by kernel_rfl) (fun _ _ _ h => h) (Or.inr ⟨by rfl, rfl⟩) HH.out ?_
                refine wpAnyH_take (i := 33) (v := ?vNB33) rfl (by kernel_rfl) (by kernel_rfl) (by kernel_rfl) (fun _ _ _ h => h) (Or.inl ⟨by rfl, fun w' _ => ?yNB33⟩) HH.out ?_
                case yNB33 => (go_simp; try with_reducible rfl)
                refine wpAnyH_take (i := 34) (v := ?vNB34) rfl (by kernel_rfl) (by kernel_rfl) (by kernel_rfl) (fun _ _ _ h => h) (Or.inl ⟨by rfl, fun w' _ => ?yNB34⟩) HH.out ?_
                case yNB34 => (go_simp; try with_reducible rfl)
                try simp only [List.getElem_toArray, List.getElem_cons_succ, List.getElem_cons_zero, Act.put, List.setIfInBounds_toArray, List.set_cons_zero, List.set_cons_succ]
                refine wpAnyH_done (by kernel_rfl) ?_ _
                go_wp2_with fail
                go_roundw
                case rel => exact ⟨n + 1, F81, s81, HLT.out, by go_num, H82.out.below HH.out, Y82.out.below HH.out⟩
                case measure => (have := HLT.out; simp [intOf]; omega)
            ·
              have h := HYES.out rfl
              injection h with h1 h2
              obtain rfl := h1.symm
              subst h2
              have hQ := HEQ.out
              rw [decide_eq_true (rfl : wt = wt)] at hQ
              refine wp_region_held_drew (S := fun w' => Below w82.heap.size w82 w') (by kernel_rfl) (Below.refl w82.heap.size w82).drew (fun hh => ?_)
              have HH := Lib.hid hh
              clear hh
              refine wpAnyH_take (i := 0) (v := ?vNC0) rfl (by kernel_rfl) (by kernel_rfl) (by kernel_rfl) (fun _ _ _ h => h) (Or.inl ⟨by rfl, fun w' _ => ?yNC0⟩) HH.out ?_
              case yNC0 => (go_simp; try with_reducible rfl)
              refine wpAnyH_take (i := 1) (v := ?vNC1) rfl (by kernel_rfl) (by kernel_rfl) (by kernel_rfl) (fun _ _ _ h => h) (Or.inl ⟨by rfl, fun w' _ => ?yNC1⟩) HH.out ?_
              case yNC1 => (go_simp; try with_reducible rfl)
              try simp only [List.getElem_toArray, List.getElem_cons_succ, List.getElem_cons_zero, Act.put, List.setIfInBounds_toArray, List.set_cons_zero, List.set_cons_succ]
              refine wpAnyH_take (i := 2) (v := ?vNC2) rfl (by kernel_rfl) (by kernel_rfl) (by kernel_rfl) (fun _ _ _ h => h) (Or.inl ⟨by rfl, fun w' _ => ?yNC2⟩) HH.out ?_
              case yNC2 => (go_simp; try with_reducible rfl)
              refine wpAnyH_take (i := 3) (v := .agg (bva wt)) rfl (by kernel_rfl) (by kernel_rfl) (by kernel_rfl) (fun _ _ _ h => h) (Or.inl ⟨by rfl, fun w' hw' => ?yNC3⟩) HH.out ?_
              case yNC3 => exact exec_load_at 38 (.tmp 134) rfl ⟨b5, n * 128, none⟩ rfl (HCE.out w' hw') Try.underlying38 rfl HIT.out
              try simp only [List.getElem_toArray, List.getElem_cons_succ, List.getElem_cons_zero, Act.put, List.setIfInBounds_toArray, List.set_cons_zero, List.set_cons_succ]
              refine wpAnyH_ready (rs := [4]) (by kernel_rfl) (by simp) (AllReadyH.cons rfl (fun K hK => ?_) AllReadyH.nil)
              go_simp
              refine (HG.out _).mono ?_
              rintro e v1 ⟨rfl, bw1⟩
              go_simp
              refine hK.out _ _ (HH.out.trans (bw1.mono HH.out.size)) (fun hh => ?_)
              have HH' := Lib.hid hh
              clear hh hK K HH bw1
              have HH := Lib.hid HH'.out
              clear HH'
              try simp only [List.getElem_toArray, List.getElem_cons_succ, List.getElem_cons_zero, Act.put, List.setIfInBounds_toArray, List.set_cons_zero, List.set_cons_succ]
              refine wpAnyH_take (i := 5) (v := ?vNC5) rfl (by kernel_rfl) (by kernel_rfl) (by kernel_rfl) (fun _ _ _ h => h) (Or.inl ⟨by rfl, fun w' _ => ?yNC5⟩) HH.out ?_
              case yNC5 => (go_simp; try with_reducible rfl)
              refine wpAnyH_take (i := 6) (v := ?vNC6) rfl (by kernel_rfl) (by kernel_rfl) (by kernel_rfl) (fun _ _ _ h => h) (Or.inl ⟨by rfl, fun w' _ => ?yNC6⟩) HH.out ?_
              case yNC6 => (go_simp; try with_reducible rfl)
              refine wpAnyH_take (i := 7) (v := .bool false) rfl (by kernel_rfl) (by kernel_rfl) (by kernel_rfl) (fun _ _ _ h => h) (Or.inl ⟨by rfl, fun w' hw' => ?yNC7⟩) HH.out ?_
              case yNC7 => (go_simp; try rfl)
              try simp only [List.getElem_toArray, List.getElem_cons_succ, List.getElem_cons_zero, Act.put, List.setIfInBounds_toArray, List.set_cons_zero, List.set_cons_succ]
              refine wpAnyH_take (i := 8) (v := ?vNC8) rfl (by kernel_rfl) (by kernel_rfl) (by kernel_rfl) (fun _ _ _ h => h) (Or.inl ⟨by rfl, fun w' _ => ?yNC8⟩) HH.out ?_
              case yNC8 => (go_simp; try with_reducible rfl)
              refine wpAnyH_take (i := 9) (v := .agg (bva wt)) rfl (by kernel_rfl) (by kernel_rfl) (by kernel_rfl) (fun _ _ _ h => h) (Or.inl ⟨by rfl, fun w' hw' => ?yNC9⟩) HH.out ?_
              case yNC9 => exact exec_load 38 (.tmp 11) rfl rfl (R82.out.1.below hw') Try.underlying38 rfl HIT.out
              refine wpAnyH_take (i := 10) (v := ?vNC10) rfl (by kernel_rfl) (by kernel_rfl) (by kernel_rfl) (fun _ _ _ h => h) (Or.inl ⟨by rfl, fun w' _ => ?yNC10⟩) HH.out ?_
              case yNC10 => (go_simp; try with_reducible rfl)
              try simp only [List.getElem_toArray, List.getElem_cons_succ, List.getElem_cons_zero, Act.put, List.setIfInBounds_toArray, List.set_cons_zero, List.set_cons_succ]
              refine wpAnyH_take (i := 11) (v := ?vNC11) rfl (by kernel_rfl) (by kernel_rfl) (by kernel_rfl) (fun _ _ _ h => h) (Or.inl ⟨by rfl, fun w' _ => ?yNC11⟩) HH.out ?_
              case yNC11 => (go_simp; try with_reducible rfl)
              refine wpAnyH_take (i := 12) (v := .agg (bva wt)) rfl (by kernel_rfl) (by kernel_rfl) (by kernel_rfl) (fun _ _ _ h => h) (Or.inl ⟨by rfl, fun w' hw' => ?yNC12⟩) HH.out ?_
              case yNC12 => exact exec_load_at 38 (.tmp 143) rfl ⟨b5, n * 128, none⟩ rfl (HCE.out w' hw') Try.underlying38 rfl HIT.out
              refine wpAnyH_take (i := 13) (v := .bool false) rfl (by kernel_rfl) (by kernel_rfl) (by kernel_rfl) (fun _ _ _ h => h) (Or.inl ⟨by rfl, fun w' hw' => ?yNC13⟩) HH.out ?_
              case yNC13 => (go_simp; try rfl)
              try simp only [List.getElem_toArray, List.getElem_cons_succ, List.getElem_cons_zero, Act.put, List.setIfInBounds_toArray, List.set_cons_zero, List.set_cons_succ]
              refine wpAnyH_take (i := 14) (v := ?vNC14) rfl (by kernel_rfl) (by kernel_rfl) (by kernel_rfl) (fun _ _ _ h => h) (Or.inl ⟨by rfl, fun w' _ => ?yNC14⟩) HH.out ?_
              case yNC14 => (go_simp; try with_reducible rfl)
              refine wpAnyH_take (i := 15) (v := ?vNC15) rfl (by kernel_rfl) (by kernel_rfl) (by kernel_rfl) (fun _ _ _ h => h) (Or.inl ⟨by rfl, fun w' _ => ?yNC15⟩) HH.out ?_
              case yNC15 => (go_simp; try with_reducible rfl)
              refine wpAnyH_take (i := 16) (v := ?vNC16) rfl (by kernel_rfl) (by kernel_rfl) (by kernel_rfl) (fun _ _ _ h => h) (Or.inl ⟨by rfl, fun w' _ => ?yNC16⟩) HH.out ?_
              case yNC16 => (go_simp; try with_reducible rfl)
              try simp only [List.getElem_toArray, List.getElem_cons_succ, List.getElem_cons_zero, Act.put, List.setIfInBounds_toArray, List.set_cons_zero, List.set_cons_succ]
              refine wpAnyH_take (i := 17) (v := ?vNC17) rfl (by kernel_rfl) (by kernel_rfl) (by kernel_rfl) (fun _ _ _ h => h) (Or.inl ⟨by rfl, fun w' _ => ?yNC17⟩) HH.out ?_
              case yNC17 => (go_simp; try with_reducible rfl)
              refine wpAnyH_take (i := 18) (v := ?vNC18) rfl (by kernel_rfl) (by kernel_rfl) (by kernel_rfl) (fun _ _ _ h => h) (Or.inl ⟨by rfl, fun w' _ => ?yNC18⟩) HH.out ?_
              case yNC18 => (go_simp; try with_reducible rfl)
              refine wpAnyH_take (i := 19) (v := ?vNC19) rfl (by kernel_rfl) (by kernel_rfl) (by kernel_rfl) (fun _ _ _ h => h) (Or.inl ⟨by rfl, fun w' _ => ?yNC19⟩) HH.out ?_
              case yNC19 => (go_simp; try with_reducible rfl)
              try simp only [List.getElem_toArray, List.getElem_cons_succ, List.getElem_cons_zero, Act.put, List.setIfInBounds_toArray, List.set_cons_zero, List.set_cons_succ]
              refine wpAnyH_take (i := 20) (v := .agg (bva wt)) rfl (by kernel_rfl) (by kernel_rfl) (by kernel_rfl) (fun _ _ _ h => h) (Or.inl ⟨by rfl, fun w' hw' => ?yNC20⟩) HH.out ?_
              case yNC20 => exact exec_load_at 38 (.tmp 151) rfl ⟨b5, n * 128, none⟩ rfl (HCE.out w' hw') Try.underlying38 rfl HIT.out
              try simp only [List.getElem_toArray, List.getElem_cons_succ, List.getElem_cons_zero, Act.put, List.setIfInBounds_toArray, List.set_cons_zero, List.set_cons_succ]
              refine wpAnyH_ready (rs := [21]) (by kernel_rfl) (by simp) (AllReadyH.cons rfl (fun K hK => ?_) AllReadyH.nil)
              go_simp
              refine (HG.out _).mono ?_
              rintro e v2 ⟨rfl, bw1⟩
              go_simp
              refine hK.out _ _ (HH.out.trans (bw1.mono HH.out.size)) (fun hh => ?_)
              have HH' := Lib.hid hh
              clear hh hK K HH bw1
              have HH := Lib.hid HH'.out
              clear HH'
              refine wpAnyH_take (i := 22) (v := ?vNC22) rfl (by kernel_rfl) (by kernel_rfl) (by kernel_rfl) (fun _ _ _ h => h) (Or.inl ⟨by rfl, fun w' _ => ?yNC22⟩) HH.out ?_
              case yNC22 => (go_simp; try with_reducible rfl)
              try simp only [List.getElem_toArray, List.getElem_cons_succ, List.getElem_cons_zero, Act.put, List.setIfInBounds_toArray, List.set_cons_zero, List.set_cons_succ]
              refine wpAnyH_take (i := 23) (v := ?vNC23) rfl (by kernel_rfl) (by kernel_rfl) (by kernel_rfl) (fun _ _ _ h => h) (Or.inl ⟨by rfl, fun w' _ => ?yNC23⟩) HH.out ?_
              case yNC23 => (go_simp; try with_reducible rfl)
              refine wpAnyH_take (i := 24) (v := undef) rfl (by kernel_rfl) (by kernel_rfl) (by kernel_rfl) (fun _ _ _ h => h) (Or.inr ⟨by rfl, rfl⟩) HH.out ?_
              refine wpAnyH_take (i := 25) (v := undef) rfl (by kernel_rfl) (by kernel_rfl) (by kernel_rfl) (fun _ _ _ h => h) (Or.inr ⟨by rfl, rfl⟩) HH.out ?_
              try simp only [List.getElem_toArray, List.getElem_cons_succ, List.getElem_cons_zero, Act.put, List.setIfInBounds_toArray, List.set_cons_zero, List.set_cons_succ]
              refine wpAnyH_take (i := 26) (v := ?vNC26) rfl (by kernel_rfl) (by kernel_rfl) (by kernel_rfl) (fun _ _ _ h => h) (Or.inl ⟨by rfl, fun w' _ => ?yNC26⟩) HH.out ?_
              case yNC26 => (go_simp; try with_reducible rfl)
              refine wpAnyH_take (i := 27) (v := ?vNC27) rfl (by kernel_rfl) (by kernel_rfl) (by kernel_rfl) (fun _ _ _ h => h) (Or.inl ⟨by rfl, fun w' _ => ?yNC27⟩) HH.out ?_
              case yNC27 => (go_simp; try with_reducible rfl)
              refine wpAnyH_take (i := 28) (v := undef) rfl (by kernel_rfl) (by kernel_rfl) (by kernel_rfl) (fun _ _ _ h => h) (Or.inr ⟨by rfl, rfl⟩) HH.out ?_
              try simp only [List.getElem_toArray, List.getElem_cons_succ, List.getElem_cons_zero, Act.put, List.setIfInBounds_toArray, List.set_cons_zero, List.set_cons_succ]
              refine wpAnyH_take (i := 29) (v := undef) rfl (by kernel_rfl) (by kernel_rfl) (by kernel_rfl) (fun _ _ _ h => h) (Or.inr ⟨by rfl, rfl⟩) HH.out ?_
              refine wpAnyH_take (i := 30) (v := undef) rfl (by kernel_rfl) (by kernel_rfl) (by kernel_rfl) (fun _ _ _ h => h) (Or.inr ⟨by rfl, rfl⟩) HH.out ?_
              refine wpAnyH_take (i := 31) (v := undef) rfl (by kernel_rfl) (by kernel_rfl) (by kernel_rfl) (fun _ _ _ h => h) (Or.inr ⟨by rfl, rfl⟩) HH.out ?_
              try simp only [List.getElem_toArray, List.getElem_cons_succ, List.getElem_cons_zero, Act.put, List.setIfInBounds_toArray, List.set_cons_zero, List.set_cons_succ]
              refine wpAnyH_take (i := 32) (v := undef) rfl (by kernel_rfl) (by kernel_rfl) (by kernel_rfl) (fun _ _ _ h => h) (Or.inr ⟨by rfl, rfl⟩) HH.out ?_
              refine wpAnyH_take (i := 33) (v := ?vNC33) rfl (by kernel_rfl) (by kernel_rfl) (by kernel_rfl) (fun _ _ _ h => h) (Or.inl ⟨by rfl, fun w' _ => ?yNC33⟩) HH.out ?_
              case yNC33 => (go_simp; try with_reducible rfl)
              refine wpAnyH_take (i := 34) (v := ?vNC34) rfl (by kernel_rfl) (by kernel_rfl) (by kernel_rfl) (fun _ _ _ h => h) (Or.inl ⟨by rfl, fun w' _ => ?yNC34⟩) HH.out ?_
              case yNC34 => (go_simp; try with_reducible rfl)
              try simp only [List.getElem_toArray, List.getElem_cons_succ, List.getElem_cons_zero, Act.put, List.setIfInBounds_toArray, List.set_cons_zero, List.set_cons_succ]
              refine wpAnyH_done (by kernel_rfl) ?_ _
              go_wp2_with fail
              go_roundw
              case rel => exact ⟨n + 1, F81, s81, HLT.out, by go_num, H82.out.below HH.out, Y82.out.below HH.out⟩
              case measure => (have := HLT.out; simp [intOf]; omega)
          · obtain rfl : n = 6 := by have := HN.out; omega
            clear hlt
            go_wp2_with fail
            go_ret
            exact ⟨rfl, (B1.out.trans (H.out.live.bel.mono B1.out.size))⟩
theorem mirrorOne_own : ownKnob Try.prog.godebug = none := by kernel_rfl
theorem mirrorOne_laid : laidOutB Try.prog = true := by kernel_rfl

set_option maxRecDepth 100000 in
theorem mirrorOne_lifted (os : Os) (started : os.Started) (H : Type) (enc : TypeId × Value → H) :
    ReturnsInHanded {} Try.checked os 5 .any (Rows.mirrorOneSpec.pre6 enc Try.prog Try.f5 Rows.mirrorOneRow.domain false) (Rows.mirrorOneSpec.post enc Try.prog Try.f5 false true false false) := by
  refine returnsInHanded_of_change (C := Try.checked) mirrorOne_own started (by kernel_rfl) Try.func5
    (ChangeSpec.witness6 (enc := enc) (C := Try.checked) false ⟨#[], #[.slice none 0 0], []⟩ 8 (by kernel_rfl) (by kernel_rfl) (by kernel_rfl) (by kernel_rfl)) ?_
  intro W base args ds gs before hval0 hW _ _
  have hval : ∀ (j : Nat) t v, Try.f5.params[j]? = some t → args[j]? = some v → Value.okWide Try.prog W .any base t v := hval0
  have hW' := hW
  obtain ⟨p, q, hA0, hV, rfl, hfz, hnd⟩ := hW
  have hA : DataW.TrodAll enc Try.prog W 0 (fun _ => true) true Try.f5.params.toList args.toList ds p := hA0
  rw [Try.params5] at hA hval
  obtain ⟨v0, vs0, d0, ds0, p0, q0, hargs, rfl, rfl, h0, r0⟩ := trodAll_cons hA
  obtain ⟨rfl, rfl, rfl⟩ := trodAll_nil r0
  obtain rfl : args = #[v0] := by cases args; simp_all
  obtain ⟨rfl, rfl⟩ := trodVars_none hV
  obtain ⟨a0, n0, c0, rfl⟩ := okWide_slice Try.underlying51 (hval 0 51 v0 rfl rfl)
  have lt0 : ∀ x ∈ p0, x.block < W.heap.size := by obtain ⟨m, hm⟩ := h0; exact DataW.trod_lt m _ _ _ hm
  obtain ⟨l0, hl0, hc0, hm0, hr0, hz0⟩ := Mi.open_acts h0
  clear hA0 hval0
  refine (mirrorOne_any W a0 n0 c0 l0 hl0 hc0 hm0 hr0 hz0).mono fun e W' ⟨he, bel⟩ => ?_
  subst he
  exact ⟨_, rfl, _, _, _, [], _, [], hW', trodAll_mk1 (shut_bool Try.underlying4 _), (trodAll_cons_mk (Below.trod mirrorOne_laid (by kernel_rfl) (of_decide_eq_true (by kernel_rfl)) h0 bel lt0) trodAll_mk0), rfl, bel.frame _, fun h => by cases h⟩

theorem mirrorOne_holds : Rows.MirrorOneSaid :=
  OpenClaim.holds_of_wide 5 Try.f5 rfl rfl rfl rfl rfl rfl rfl ⟨rfl, rfl, rfl, rfl, rfl⟩ rfl rfl rfl rfl rfl (by kernel_rfl) Try.func5 (by kernel_rfl)
    (of_decide_eq_true (by kernel_rfl)) (by unfold Func.isWrapper; rw [if_neg (of_decide_eq_false (by kernel_rfl))]; exact ⟨rfl, rfl⟩)
    (fun os started H enc _ => mirrorOne_lifted os started H enc)

#print axioms mirrorOne_holds

end Go.Proofs.Ytfofkjcdohmkpaa
