/-
  ShaJoins holds: of every text the law returns true, and its argument reads as it did.
-/
import Derived.Test.YtgmoccglldpmdaaShFirst
import Derived.Test.YtgmoccglldpmdaaShEq
import Derived.Test.YtgmoccglldpmdaaShAwake
import Derived.Test.YtgmoccglldpmdaaOpen
import Derived.Test.YtgmoccglldpmdaaOpenA
import Derived.ProofKit
import Derived.OpenShut
import Derived.ShutString
import Derived.ChangeOld
namespace Go.Proofs.Ytgmoccglldpmdaa
open Go.RowKit Go.ChangeShapes Go.WideShapes Go.ChangeAt
attribute [local go_sem ↓] Go.wp_at_zero Go.wp_at_succ
theorem own_caps {w : World} {base n c : Nat} {e : TypeId} {A : Option Addr} {xs : List Value} (h : w.ownsRow base e 1 (.slice A n c) n xs) : n ≤ c ∧ c ≤ maxLen := by
  rcases h.2 with ⟨h0, h1⟩ | ⟨_, cap, _, h0, _, _, h1, h2, _⟩
  · injection h0 with _ _ h0
    rw [h0, h1]; unfold maxLen; omega
  · injection h0 with _ _ h0
    omega
/-- The length that a row's header tells. -/
def lenS : Value → Nat
  | .slice _ m _ => m
  | _ => 0
/-- The bytes of the words, as far as the first k words are laid. -/
def layB (hs : List UInt32) (k : Nat) : List UInt8 := layTo 0 (fun i => byteB (hs.getD (i / 4) 0) (i % 4)) 32 (4 * k)
theorem layB_length (hs : List UInt32) (k : Nat) : (layB hs k).length = 32 := layTo_length _ _ _ _
theorem layB_step (hs : List UInt32) {k m : Nat} (hm : m = 4 * k) {x : UInt32} (hx : x = hs.getD k 0) : layB hs (k + 1) = ((((layB hs k).set m (byteB x 0)).set (m + 1) (byteB x 1)).set (m + 2) (byteB x 2)).set (m + 3) (byteB x 3) := by
  have e : 4 * (k + 1) = m + 1 + 1 + 1 + 1 := by omega
  rw [layB, e, layTo, layTo, layTo, layTo, layB, ← hm, show (m + 1 + 1 + 1) / 4 = k by omega, show (m + 1 + 1) / 4 = k by omega, show (m + 1) / 4 = k by omega, show m / 4 = k by omega,
    show (m + 1 + 1 + 1) % 4 = 3 by omega, show (m + 1 + 1) % 4 = 2 by omega, show (m + 1) % 4 = 1 by omega, show m % 4 = 0 by omega, ← hx]
theorem layB_all (hs : List UInt32) : layB hs 8 = toldB hs := toldB_lay hs
theorem by0 (x : UInt32) : (x.toNat : Int) / 16777216 % 256 = ((byteB x 0).toNat : Int) := byteB_val x (m := 24) (j := 0) rfl
theorem by1 (x : UInt32) : (x.toNat : Int) / 65536 % 256 = ((byteB x 1).toNat : Int) := byteB_val x (m := 16) (j := 1) rfl
theorem by2 (x : UInt32) : (x.toNat : Int) / 256 % 256 = ((byteB x 2).toNat : Int) := byteB_val x (m := 8) (j := 2) rfl
theorem by3 (x : UInt32) : (x.toNat : Int) % 256 = ((byteB x 3).toNat : Int) := by
  have h := byteB_val x (m := 0) (j := 3) rfl
  simpa using h
set_option maxHeartbeats 6400000 in
theorem shaJoins_any (w : World) (A : Option Addr) (n c : Nat) (l : List UInt8) (hl : l.length = n) (_ : n ≤ c) (_ : c ≤ maxLen) (hr : Rd w.heap.size w A (bv l)) :
    Calls Try.prog 7 #[.slice A n c] w (RetB (.bool true) w) := by
  have HL := Lib.hid hl
  have HR := Lib.hid hr
  clear hl hr
  have hz29 : ∀ W, (zeroValue 29).run Try.prog W = .ok (.agg (bva (List.replicate 64 0))) W := fun _ => by kernel_rfl
  by_cases hn : n ≤ 1000
  · go_enter Try.func7, Try.ntmps7
    go_wp2_with fail
    refine (awake_any _).mono ?_
    rintro e w1 ⟨rfl, bw1⟩
    have H1 := Lib.hid bw1
    clear bw1
    go_wp2_with fail
    refine (rfirst_any _).mono ?_
    rintro e w2 ⟨rfl, bw2⟩
    have H2 := Lib.hid (H1.out.trans (bw2.mono H1.out.size))
    clear bw2 H1
    obtain ⟨q, hq⟩ : ∃ q, q = w2.heap.size := ⟨_, rfl⟩
    have hq' : w2.heap.size = q := hq.symm
    clear hq
    have hqw : w.heap.size ≤ q := by have := H2.out.size; omega
    go_wp2_with (refine wpList_store_row rfl 28 (.tmp 3) (.tmp 14) rfl q (uv firstL) rfl rfl 28 (uv (List.replicate 8 0)) (by rw [← hq']; exact heap_alloc_new _ _) info28 rfl (uv_one _) ?_
                 generalize hww : World.setRow _ _ _ = w3
                 have q1 : Blk w3 q (uv firstL) 28 := by rw [← hww]; exact setRow_heap _ _ _ _ _ _ (by rw [← hq']; exact heap_alloc_new _ _)
                 have q2 : Below w.heap.size w w3 := by rw [← hww]; exact below_setRow (H2.out.alloc H2.out.size _) hqw _
                 have Q1 := Lib.hid q1
                 have Q2 := Lib.hid q2
                 clear q1 q2 hww H2)
    clear hq'
    refine (pad_any A n c l _ HL.out Q2.out.size (HR.out.below Q2.out) (by omega)).mono ?_
    rintro e w4 ⟨A4, n4, c4, rfl, ho4, bw4⟩
    have hl4 : (padL l).length = n4 := own_blen ho4
    have hn4 : n4 = padN n := by rw [← hl4, padL_length, HL.out]
    have h64 : n4 % 64 = 0 := by rw [hn4]; exact padN_mod _
    have hpos : 0 < n4 := by rw [hn4]; have := padN_le n; omega
    obtain ⟨g, rfl, hg1, hnc4, hcm4⟩ := own_addr ho4 hpos
    have hqg : q < g := by have := Q1.out.lt; omega
    obtain ⟨P, hP⟩ : ∃ P, P = padL l := ⟨_, rfl⟩
    rw [← hP] at hl4 ho4
    have HPL := Lib.hid hl4
    have HP := Lib.hid hP
    have R1 := Lib.hid (Q1.out.below bw4)
    have R2 := Lib.hid (Q2.out.trans (bw4.mono Q2.out.size))
    have R3 : Hid (Rf q w4 (some ⟨g, 0, none⟩) (bv P)) := Rf.of_own ho4 (Nat.lt_of_lt_of_le Q1.out.lt (Nat.le_refl _))
    have H64 : Hid (n4 = 64 * (n4 / 64)) := by show _ = _; omega
    unfold maxLen at hcm4
    clear hl4 hP ho4 bw4 Q1 Q2 hn4 h64
    go_wp2_with fail
    go_loopw [4, 5] (fun v _ wr => ∃ (k o m d : Nat), v = .slice (some ⟨g, o, none⟩) m d ∧ m ≤ d ∧ d ≤ c4 ∧ Hid (m + 64 * k = n4) ∧ Hid (0 < m → o = 64 * k) ∧ Blk wr q (uv (overTo firstL P k)) 28 ∧ Rf q wr (some ⟨g, 0, none⟩) (bv P) ∧ Below w.heap.size w wr) (fun v _ _ => lenS v)
    case atStart => exact ⟨0, 0, n4, c4, rfl, hnc4, Nat.le_refl _, by show _ = _; omega, fun _ => rfl, R1.out, R3.out, R2.out⟩
    case round =>
      clear R1 R2 R3
      obtain ⟨k, o, m, d, rfl, hmd, hdc, HM, HO, B1, B2, B3⟩ := hrel
      have G1 := Lib.hid B1
      have G2 := Lib.hid B2
      have G3 := Lib.hid B3
      clear B1 B2 B3
      by_cases hlt : 64 ≤ m
      · obtain ⟨wo, rfl⟩ : ∃ wo : World, wo = wr := ⟨_, rfl⟩
        have ho := HO.out (by omega)
        obtain ⟨cs, hcs⟩ : ∃ cs, cs = (P.drop o).take 64 := ⟨_, rfl⟩
        have hcl : cs.length = 64 := by rw [hcs, List.length_take, List.length_drop, HPL.out]; have := HM.out; omega
        obtain ⟨u, hu⟩ : ∃ u, u = overTo firstL P k := ⟨_, rfl⟩
        have HU8 : Hid (u.length = 8) := by show _ = _; rw [hu, overTo_length]; rfl
        have HU : Hid ((Try.prog.info? 28).map (·.size) = some (uv u).size) := by rw [uv_size, HU8.out]; exact info28
        have HCI : Hid ((Try.prog.info? 29).map (·.size) = some (bva cs).size) := by rw [bva_size, hcl]; exact info29
        have HC64 := Lib.hid hcl
        have HUU := Lib.hid hu
        have HOO := Lib.hid ho
        have HCS := Lib.hid hcs
        rw [← hu] at G1
        have hsrc : Hid (∀ j v, (bv cs)[j]? = some v → wo.cell? ((⟨g, o, none⟩ : Addr).add j) = some v) := by
          intro j v hv
          rw [hcs] at hv
          have h1 := bv_take_get hv
          rw [bv_drop, List.getElem?_drop] at h1
          obtain ⟨ad, e, _, hc⟩ := G2.out (o + j) v h1
          injection e with e
          subst e
          rw [add_head] at hc
          rw [Addr.add_mid]; exact hc
        have hql := G1.out.lt
        have d0 : (64 : Int) ≤ (d : Int) := by omega
        have m0 : (64 : Int) ≤ (m : Int) := by omega
        clear hcs hcl hu ho
        go_wp2_with (refine wpList_copy_splice rfl (.tmp 20) (.tmp 21) 22 22 rfl 5 Try.underlying22 info5 (some ⟨wo.heap.size, 0, none⟩) (some ⟨g, o, none⟩) 64 64 m d rfl rfl wo.heap.size 0 (bv (List.replicate 64 0)) 29 (heap_alloc_new _ _) (bv cs) (by rw [bv_length, HC64.out]; exact (Nat.min_eq_right hlt).symm) (fun _ => ⟨rfl, _, rfl, fun j v hv => (World.cell?_alloc_lt _ _ _ (World.block_lt_of_cell? _ _ (hsrc.out j v hv))).trans (hsrc.out j v hv)⟩) (by rw [bv_length, HC64.out]; simp [bv]) (bv_one _) wo.heap.size wo ((Below.refl _ _).alloc (Nat.le_refl _) _) (Nat.le_refl _) ?_
                     intro w2 hg2 hb2)
        have G4 : Hid (Blk w2 wo.heap.size (bva cs) 29) := by
          have h := hg2.out
          rw [splice_whole _ _ (by rw [bv_length, HC64.out]; simp [bv])] at h
          exact h
        have G1' := Lib.hid (G1.out.below hb2)
        have G2' := Lib.hid (G2.out.grown (grown_of_below hb2))
        have G3' := Lib.hid (G3.out.trans (hb2.mono G3.out.size))
        clear G1 G2 G3 hg2 hb2 hsrc
        have G1 := G1'
        have G2 := G2'
        have G3 := G3'
        clear G1' G2' G3'
        by_cases hc : d = 64
        · have hc1 : (d : Int) = 64 := by omega
          have hc2 := hc
          subst hc2
          have hm64 : m = 64 := by omega
          refine wp_region_any (by kernel_rfl) ?_
          change wpAny _ _ _ _ _ _ _ (World.drew _)
          refine wpAny_take (i := 3) (v := ?va3) rfl (by kernel_rfl) (by kernel_rfl) (by kernel_rfl) (fun _ _ _ h => h) (Or.inl ⟨by rfl, ?ya3⟩) ?_
          case ya3 => (intro w'; go_simp; try with_reducible rfl)
          refine wpAny_take (i := 4) (v := ?va4) rfl (by kernel_rfl) (by kernel_rfl) (by kernel_rfl) (fun _ _ _ h => h) (Or.inl ⟨by rfl, ?ya4⟩) ?_
          case ya4 => (intro w'; go_simp; try with_reducible rfl)
          simp only [List.getElem_toArray, List.getElem_cons_succ, List.getElem_cons_zero, Act.put, List.setIfInBounds_toArray, List.set_cons_zero, List.set_cons_succ]
          refine wpAny_look (i := 0) (v := .agg (uv u)) rfl (by kernel_rfl) (by kernel_rfl) (by kernel_rfl) (fun _ _ _ h => h) (by rfl) ?ya0 ?_
          case ya0 => exact exec_load 28 (.tmp 3) rfl rfl (show Blk w2.drew q (uv u) 28 from G1.out) Try.underlying28 rfl HU.out
          refine wpAny_look (i := 1) (v := .agg (bva cs)) rfl (by kernel_rfl) (by kernel_rfl) (by kernel_rfl) (fun _ _ _ h => h) (by rfl) ?ya1 ?_
          case ya1 => exact exec_load 29 (.tmp 5) rfl rfl (show Blk w2.drew wo.heap.size (bva cs) 29 from G4.out) Try.underlying29 rfl HCI.out
          refine wpAny_ready (rs := [2]) (by kernel_rfl) (by simp) (AllReady.cons rfl (fun K hK => ?_) AllReady.nil)
          go_simp
          refine (compress_any u cs HU8.out HC64.out _).mono ?_
          rintro e w3 ⟨rfl, bw3⟩
          have z1 : Blk w3 q (uv u) 28 := Blk.below (show Blk (World.drew w2) q (uv u) 28 from G1.out) bw3
          have z2 : Rf q w3 (some ⟨g, 0, none⟩) (bv P) := G2.out.grown (grown_trans (grown_drew _ _) (grown_of_below bw3))
          have z4 : Below w.heap.size w w3 := G3.out.drew.trans (bw3.mono G3.out.size)
          have Z1 := Lib.hid z1
          have Z2 := Lib.hid z2
          have Z4 := Lib.hid z4
          clear z1 z2 z4 G1 G2 G3 G4 bw3
          go_simp
          refine hK _ _ ?_
          clear hK K
          refine wpAny_ready (rs := [5]) (by kernel_rfl) (by simp) (AllReady.cons rfl (fun K hK => ?_) AllReady.nil)
          rw [if_pos (by rfl)]
          refine wp_store_row 28 (.tmp 3) (.tmp 25) rfl q (uv (compL u cs)) rfl rfl 28 (uv u) Z1.out (by rw [uv_size, compL_length, HU8.out]; exact info28) (by rw [uv_size, uv_size, compL_length]) (uv_one _) ?_
          generalize hw9 : World.setRow _ _ _ = w9
          have y1 : Blk w9 q (uv (compL u cs)) 28 := by rw [← hw9]; exact setRow_heap _ _ _ _ _ _ Z1.out
          have y2 : Rf q w9 (some ⟨g, 0, none⟩) (bv P) := by rw [← hw9]; exact Z2.out.grown (grown_setRow _ _ _)
          have y4 : Below w.heap.size w w9 := by rw [← hw9]; exact below_setRow Z4.out hqw _
          have Y1 := Lib.hid y1
          have Y2 := Lib.hid y2
          have Y4 := Lib.hid y4
          clear y1 y2 y4 Z1 Z2 Z4 hw9
          refine hK _ _ ?_
          clear hK K
          refine wpAny_take (i := 6) (v := ?va6) rfl (by kernel_rfl) (by kernel_rfl) (by kernel_rfl) (fun _ _ _ h => h) (Or.inl ⟨by rfl, ?ya6⟩) ?_
          case ya6 => (intro w'; go_simp; try with_reducible rfl)
          refine wpAny_done (by kernel_rfl) ?_ _
          go_wp2
          go_roundw
          case rel =>
            refine ⟨k + 1, o, 0, 0, ⟨rfl, rfl, rfl⟩, Nat.le_refl _, by omega, (by have := HM.out; show 0 + 64 * (k + 1) = n4; omega), fun h => by omega, ?_, Y2.out, Y4.out⟩
            rw [overTo, ← HUU.out, ← HOO.out, ← HCS.out]; exact Y1.out
          case measure => show (0 : Nat) < 64; omega
        · have hc1 : ¬ (d : Int) = 64 := by omega
          refine wp_region_any (by kernel_rfl) ?_
          change wpAny _ _ _ _ _ _ _ (World.drew _)
          refine wpAny_take (i := 3) (v := ?vb3) rfl (by kernel_rfl) (by kernel_rfl) (by kernel_rfl) (fun _ _ _ h => h) (Or.inl ⟨by rfl, ?yb3⟩) ?_
          case yb3 => (intro w'; go_simp; try with_reducible rfl)
          refine wpAny_take (i := 4) (v := ?vb4) rfl (by kernel_rfl) (by kernel_rfl) (by kernel_rfl) (fun _ _ _ h => h) (Or.inl ⟨by rfl, ?yb4⟩) ?_
          case yb4 => (intro w'; go_simp; try with_reducible rfl)
          simp only [List.getElem_toArray, List.getElem_cons_succ, List.getElem_cons_zero, Act.put, List.setIfInBounds_toArray, List.set_cons_zero, List.set_cons_succ]
          refine wpAny_look (i := 0) (v := .agg (uv u)) rfl (by kernel_rfl) (by kernel_rfl) (by kernel_rfl) (fun _ _ _ h => h) (by rfl) ?yb0 ?_
          case yb0 => exact exec_load 28 (.tmp 3) rfl rfl (show Blk w2.drew q (uv u) 28 from G1.out) Try.underlying28 rfl HU.out
          refine wpAny_look (i := 1) (v := .agg (bva cs)) rfl (by kernel_rfl) (by kernel_rfl) (by kernel_rfl) (fun _ _ _ h => h) (by rfl) ?yb1 ?_
          case yb1 => exact exec_load 29 (.tmp 5) rfl rfl (show Blk w2.drew wo.heap.size (bva cs) 29 from G4.out) Try.underlying29 rfl HCI.out
          refine wpAny_ready (rs := [2]) (by kernel_rfl) (by simp) (AllReady.cons rfl (fun K hK => ?_) AllReady.nil)
          go_simp
          refine (compress_any u cs HU8.out HC64.out _).mono ?_
          rintro e w3 ⟨rfl, bw3⟩
          have z1 : Blk w3 q (uv u) 28 := Blk.below (show Blk (World.drew w2) q (uv u) 28 from G1.out) bw3
          have z2 : Rf q w3 (some ⟨g, 0, none⟩) (bv P) := G2.out.grown (grown_trans (grown_drew _ _) (grown_of_below bw3))
          have z4 : Below w.heap.size w w3 := G3.out.drew.trans (bw3.mono G3.out.size)
          have Z1 := Lib.hid z1
          have Z2 := Lib.hid z2
          have Z4 := Lib.hid z4
          clear z1 z2 z4 G1 G2 G3 G4 bw3
          go_simp
          refine hK _ _ ?_
          clear hK K
          refine wpAny_ready (rs := [5]) (by kernel_rfl) (by simp) (AllReady.cons rfl (fun K hK => ?_) AllReady.nil)
          rw [if_pos (by rfl)]
          refine wp_store_row 28 (.tmp 3) (.tmp 25) rfl q (uv (compL u cs)) rfl rfl 28 (uv u) Z1.out (by rw [uv_size, compL_length, HU8.out]; exact info28) (by rw [uv_size, uv_size, compL_length]) (uv_one _) ?_
          generalize hw9 : World.setRow _ _ _ = w9
          have y1 : Blk w9 q (uv (compL u cs)) 28 := by rw [← hw9]; exact setRow_heap _ _ _ _ _ _ Z1.out
          have y2 : Rf q w9 (some ⟨g, 0, none⟩) (bv P) := by rw [← hw9]; exact Z2.out.grown (grown_setRow _ _ _)
          have y4 : Below w.heap.size w w9 := by rw [← hw9]; exact below_setRow Z4.out hqw _
          have Y1 := Lib.hid y1
          have Y2 := Lib.hid y2
          have Y4 := Lib.hid y4
          clear y1 y2 y4 Z1 Z2 Z4 hw9
          refine hK _ _ ?_
          clear hK K
          refine wpAny_take (i := 6) (v := ?vb6) rfl (by kernel_rfl) (by kernel_rfl) (by kernel_rfl) (fun _ _ _ h => h) (Or.inl ⟨by rfl, ?yb6⟩) ?_
          case yb6 => (intro w'; go_simp; try with_reducible rfl)
          refine wpAny_done (by kernel_rfl) ?_ _
          go_wp2
          simp only [List.getElem_toArray, List.getElem_cons_succ, List.getElem_cons_zero, Act.put, List.setIfInBounds_toArray, List.set_cons_zero, List.set_cons_succ]
          go_roundw
          case rel =>
            refine ⟨k + 1, o + 64, m - 64, d - 64, rfl, by omega, by omega, (by have := HM.out; show m - 64 + 64 * (k + 1) = n4; omega), (fun _ => by have := HOO.out; omega), ?_, Y2.out, Y4.out⟩
            rw [overTo, ← HUU.out, ← HOO.out, ← HCS.out]; exact Y1.out
          case measure => show m - 64 < m; omega
      · have hm0 : m = 0 := by have := HM.out; have := H64.out; omega
        have hk : k = n4 / 64 := by have := HM.out; omega
        have hmb : ((m : Int) == 0) = true := by simp; omega
        obtain ⟨hs, hhs⟩ : ∃ hs, hs = overTo firstL P k := ⟨_, rfl⟩
        have HHS : Hid (toldB hs = shaL l) := by show _ = _; rw [hhs, shaL, overL, ← HP.out, HPL.out, hk]
        have HS8 : Hid (hs.length = 8) := by show _ = _; rw [hhs, overTo_length]; rfl
        have HHU : Hid ((Try.prog.info? 28).map (·.size) = some (uv hs).size) := by rw [uv_size, HS8.out]; exact info28
        rw [← hhs] at G1
        obtain ⟨b6, hb6⟩ : ∃ b6, b6 = wr.heap.size := ⟨_, rfl⟩
        have hb6' : wr.heap.size = b6 := hb6.symm
        have F1 := Lib.hid (G1.out.below ((Below.refl wr.heap.size wr).alloc (Nat.le_refl _) (.cells (bva (List.replicate 32 0)) 33)))
        have F2 : Hid (Blk (wr.alloc (.cells (bva (List.replicate 32 0)) 33)) b6 (bva (layB hs 0)) 33) := by show Blk _ _ _ _; rw [hb6]; exact heap_alloc_new _ _
        have F3 := Lib.hid (G3.out.alloc G3.out.size (.cells (bva (List.replicate 32 0)) 33))
        have hbw : w.heap.size ≤ b6 := by have := G3.out.size; omega
        clear hb6 hm0 hk hhs G1 G2 G3
        go_wp2_with (refine wpList_load_row rfl 28 (.tmp 3) rfl q rfl 28 (uv hs) (0, 0) _ F1.out Try.underlying28 rfl HHU.out ?_)
        clear hb6'
        go_loopw [7, 8, 29] (fun _ _ i wr => ∃ k : Nat, k ≤ 8 ∧ i = .int .i64 k ∧ Blk wr b6 (bva (layB hs k)) 33 ∧ Below w.heap.size w wr) (fun _ _ i _ => 8 - (intOf i).toNat)
        case atStart => exact ⟨0, by omega, rfl, F2.out, F3.out⟩
        case round =>
          clear F1 F2 F3
          obtain ⟨k, hk, rfl, B1, hbel⟩ := hrel
          by_cases hlt2 : k < 8
          · have hix := index_u32 Try.underlying28 hs HS8.out k hlt2
            obtain ⟨x, hx⟩ : ∃ x, x = hs.getD k 0 := ⟨_, rfl⟩
            rw [← hx] at hix
            obtain ⟨p, hp⟩ : ∃ p, p = 4 * k := ⟨_, rfl⟩
            have ep : 4 * (k : Int) = (p : Int) := by omega
            have p0 : (0 : Int) ≤ (p : Int) := by omega
            have p1 : (p : Int) + 3 < 32 := by omega
            have k0 : (0 : Int) ≤ (k : Int) := by omega
            have k1 : (k : Int) < 8 := by omega
            have c0 := B1.cellb (k := p) (by rw [layB_length]; omega)
            have c1 := B1.cellb (k := p + 1) (by rw [layB_length]; omega)
            have c2 := B1.cellb (k := p + 2) (by rw [layB_length]; omega)
            have c3 := B1.cellb (k := p + 3) (by rw [layB_length]; omega)
            obtain ⟨v0, hv0⟩ : ∃ v, v = (layB hs k).getD p 0 := ⟨_, rfl⟩
            obtain ⟨v1, hv1⟩ : ∃ v, v = (layB hs k).getD (p + 1) 0 := ⟨_, rfl⟩
            obtain ⟨v2, hv2⟩ : ∃ v, v = (layB hs k).getD (p + 2) 0 := ⟨_, rfl⟩
            obtain ⟨v3, hv3⟩ : ∃ v, v = (layB hs k).getD (p + 3) 0 := ⟨_, rfl⟩
            rw [← hv0] at c0
            rw [← hv1] at c1
            rw [← hv2] at c2
            rw [← hv3] at c3
            have f0 := B1.free p
            have f1 := B1.free (p + 1)
            have f2 := B1.free (p + 2)
            have f3 := B1.free (p + 3)
            have HX := Lib.hid hx
            have HPK := Lib.hid hp
            have GB := Lib.hid B1
            clear hx hp hv0 hv1 hv2 hv3 B1
            have b0 : (0 : Int) ≤ (x.toNat : Int) := by omega
            go_wp2
            go_roundw
            case rel =>
              refine ⟨k + 1, by omega, by go_num, ?_, (((hbel.setCell hbw _).setCell hbw _).setCell hbw _).setCell hbw _⟩
              rw [layB_step hs HPK.out HX.out]
              exact (((GB.out.setb p _ (int_eq (by0 x))).setb (p + 1) _ (int_eq (by1 x))).setb (p + 2) _ (int_eq (by2 x))).setb (p + 3) _ (int_eq (by3 x))
            case measure => simp [intOf]; omega
          · obtain rfl : k = 8 := by omega
            rw [layB_all, HHS.out] at B1
            have HI : Hid ((Try.prog.info? 33).map (·.size) = some (bva (shaL l)).size) := by rw [bva_size, shaL_length]; exact info33
            have heq : ∀ W, (Op.equalIn 10000 33 (.agg (bva (shaL l))) (.agg (bva (shaL l)))).run Try.prog W = .ok true W := fun W => eq_key _ (shaL_length l) W
            have E1 := Lib.hid B1
            have E2 := Lib.hid hbel
            clear B1 hbel
            go_wp2_with fail
            refine wp_region_held_drew (S := fun w' => Blk w' b6 (bva (shaL l)) 33 ∧ Below w.heap.size w w') (by kernel_rfl) ⟨E1.out, E2.out.drew⟩ (fun hh => ?_)
            have HH := Lib.hid hh
            clear hh
            refine wpAnyH_take (i := 0) (v := ?v0) rfl (by kernel_rfl) (by kernel_rfl) (by kernel_rfl) (fun _ _ _ h => h) (Or.inl ⟨by rfl, fun w' _ => ?y0⟩) HH.out ?_
            case y0 => (go_simp; try with_reducible rfl)
            refine wpAnyH_take (i := 1) (v := ?v1) rfl (by kernel_rfl) (by kernel_rfl) (by kernel_rfl) (fun _ _ _ h => h) (Or.inl ⟨by rfl, fun w' _ => ?y1⟩) HH.out ?_
            case y1 => (go_simp; try with_reducible rfl)
            refine wpAnyH_take (i := 2) (v := ?v2) rfl (by kernel_rfl) (by kernel_rfl) (by kernel_rfl) (fun _ _ _ h => h) (Or.inl ⟨by rfl, fun w' _ => ?y2⟩) HH.out ?_
            case y2 => (go_simp; try with_reducible rfl)
            refine wpAnyH_take (i := 3) (v := ?v3) rfl (by kernel_rfl) (by kernel_rfl) (by kernel_rfl) (fun _ _ _ h => h) (Or.inl ⟨by rfl, fun w' _ => ?y3⟩) HH.out ?_
            case y3 => (go_simp; try with_reducible rfl)
            refine wpAnyH_take (i := 4) (v := ?v4) rfl (by kernel_rfl) (by kernel_rfl) (by kernel_rfl) (fun _ _ _ h => h) (Or.inl ⟨by rfl, fun w' _ => ?y4⟩) HH.out ?_
            case y4 => (go_simp; try with_reducible rfl)
            simp only [List.getElem_toArray, List.getElem_cons_succ, List.getElem_cons_zero, Act.put, List.setIfInBounds_toArray, List.set_cons_zero, List.set_cons_succ]
            refine wpAnyH_take (i := 6) (v := .agg (bva (shaL l))) rfl (by kernel_rfl) (by kernel_rfl) (by kernel_rfl) (fun _ _ _ h => h) (Or.inl ⟨by rfl, fun w' hw' => ?y6⟩) HH.out ?_
            case y6 => exact exec_load 33 (.tmp 6) rfl rfl hw'.1 Try.underlying33 rfl HI.out
            refine wpAnyH_ready (rs := [5]) (by kernel_rfl) (by simp) (AllReadyH.cons rfl (fun K hK => ?_) AllReadyH.nil)
            go_simp
            refine (sum_any A n c l _ HL.out HH.out.2.size (HR.out.below HH.out.2) (by omega)).mono ?_
            rintro e w3 ⟨rfl, bw3⟩
            go_simp
            refine hK.out _ _ ⟨HH.out.1.below bw3, HH.out.2.trans (bw3.mono HH.out.2.size)⟩ (fun hh => ?_)
            have HH' := Lib.hid hh
            clear hh hK K HH bw3
            have HH := Lib.hid HH'.out
            clear HH'
            refine wpAnyH_take (i := 7) (v := ?v7) rfl (by kernel_rfl) (by kernel_rfl) (by kernel_rfl) (fun _ _ _ h => h) (Or.inl ⟨by rfl, fun w' _ => ?y7⟩) HH.out ?_
            case y7 => (go_simp; try with_reducible rfl)
            simp only [List.getElem_toArray, List.getElem_cons_succ, List.getElem_cons_zero, Act.put, List.setIfInBounds_toArray, List.set_cons_zero, List.set_cons_succ]
            refine wpAnyH_take (i := 8) (v := ?v8) rfl (by kernel_rfl) (by kernel_rfl) (by kernel_rfl) (fun _ _ _ h => h) (Or.inl ⟨by rfl, fun w' _ => ?y8⟩) HH.out ?_
            case y8 => (go_simp; try with_reducible rfl)
            refine wpAnyH_take (i := 9) (v := ?v9) rfl (by kernel_rfl) (by kernel_rfl) (by kernel_rfl) (fun _ _ _ h => h) (Or.inl ⟨by rfl, fun w' _ => ?y9⟩) HH.out ?_
            case y9 => (go_simp; try with_reducible rfl)
            refine wpAnyH_done (by kernel_rfl) ?_ _
            go_wp2
            go_ret
            exact ⟨rfl, HH.out.2⟩
  · have hn' : ¬ (n : Int) ≤ 1000 := by omega
    go_enter Try.func7, Try.ntmps7
    go_wp2_with fail
    refine (awake_any _).mono ?_
    rintro e w1 ⟨rfl, bw1⟩
    have H1 := Lib.hid bw1
    clear bw1
    go_wp2_with fail
    go_ret
    exact ⟨rfl, H1.out⟩
theorem shaJoins_own : ownKnob Try.prog.godebug = none := by kernel_rfl
theorem shaJoins_laid : laidOutB Try.prog = true := by kernel_rfl

set_option maxRecDepth 100000 in
theorem shaJoins_lifted (os : Os) (started : os.Started) (H : Type) (enc : TypeId × Value → H) :
    ReturnsInHanded {} Try.checked os 7 .any (Rows.shaJoinsSpec.pre6 enc Try.prog Try.f7 Rows.shaJoinsRow.domain false) (Rows.shaJoinsSpec.post enc Try.prog Try.f7 false true false false) := by
  refine returnsInHanded_of_change (C := Try.checked) shaJoins_own started (by kernel_rfl) Try.func7
    (ChangeSpec.witness6 (enc := enc) (C := Try.checked) false ⟨#[], #[.slice none 0 0], []⟩ 8 (by kernel_rfl) (by kernel_rfl) (by kernel_rfl) (by kernel_rfl)) ?_
  intro W base args ds gs before hval0 hW _ _
  have hval : ∀ (j : Nat) t v, Try.f7.params[j]? = some t → args[j]? = some v → Value.okWide Try.prog W .any base t v := hval0
  have hW' := hW
  obtain ⟨p, q, hA0, hV, rfl, hfz, hnd⟩ := hW
  have hA : DataW.TrodAll enc Try.prog W 0 (fun _ => true) true Try.f7.params.toList args.toList ds p := hA0
  rw [Try.params7] at hA hval
  obtain ⟨v0, vs0, d0, ds0, p0, q0, hargs, rfl, rfl, h0, r0⟩ := trodAll_cons hA
  obtain ⟨rfl, rfl, rfl⟩ := trodAll_nil r0
  obtain rfl : args = #[v0] := by cases args; simp_all
  obtain ⟨rfl, rfl⟩ := trodVars_none hV
  obtain ⟨a0, n0, c0, rfl⟩ := okWide_slice Try.underlying22 (hval 0 22 v0 rfl rfl)
  have lt0 : ∀ x ∈ p0, x.block < W.heap.size := by obtain ⟨m, hm⟩ := h0; exact DataW.trod_lt m _ _ _ hm
  obtain ⟨l0, hl0, hc0, hm0, hr0⟩ := open_bytes Try.underlying22 Try.underlying5 (by kernel_rfl) h0
  clear hA0 hval0
  refine (shaJoins_any W a0 n0 c0 l0 hl0 hc0 hm0 hr0).mono fun e W' ⟨he, bel⟩ => ?_
  subst he
  exact ⟨_, rfl, _, _, _, [], _, [], hW', trodAll_mk1 (shut_bool Try.underlying4 _), (trodAll_cons_mk (Below.trod shaJoins_laid (by kernel_rfl) (of_decide_eq_true (by kernel_rfl)) h0 bel lt0) trodAll_mk0), rfl, bel.frame _, fun h => by cases h⟩

theorem shaJoins_holds : Rows.ShaJoinsSaid :=
  OpenClaim.holds_of_wide 7 Try.f7 rfl rfl rfl rfl rfl rfl rfl ⟨rfl, rfl, rfl, rfl, rfl⟩ rfl rfl rfl rfl rfl (by kernel_rfl) Try.func7 (by kernel_rfl)
    (of_decide_eq_true (by kernel_rfl)) (by unfold Func.isWrapper; rw [if_neg (of_decide_eq_false (by kernel_rfl))]; exact ⟨rfl, rfl⟩)
    (fun os started H enc _ => shaJoins_lifted os started H enc)

#print axioms shaJoins_holds

end Go.Proofs.Ytgmoccglldpmdaa
