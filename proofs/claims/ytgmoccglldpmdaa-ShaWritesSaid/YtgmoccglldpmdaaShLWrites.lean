/-
  ShaWrites holds: of every list of texts the law returns true, and its argument reads as it did.
-/
import Derived.Test.YtgmoccglldpmdaaShEq
import Derived.Test.YtgmoccglldpmdaaShAwake
import Derived.Test.YtgmoccglldpmdaaReach
import Derived.Test.YtgmoccglldpmdaaOpen
import Derived.Test.YtgmoccglldpmdaaOpenA
import Derived.Test.YtgmoccglldpmdaaReach
import Derived.ProofKit
import Derived.OpenShut
import Derived.ShutString
import Derived.ChangeOld
namespace Go.Proofs.Ytgmoccglldpmdaa
open Go.RowKit Go.ChangeShapes Go.WideShapes Go.ChangeAt
attribute [local go_sem ↓] Go.wp_at_zero Go.wp_at_succ
theorem bytesElt : Elt Try.prog 22 5 (.int .u8 0) 1 := ⟨Try.underlying22, by kernel_rfl, rfl, by omega⟩
theorem HashIs.far' {w w' : World} {g : Nat} {row : Option Nat} {t : List UInt8} (h : HashIs w g t) (hg : w.grownBy w' row) (hne : some g ≠ row) : HashIs w' g t := by
  obtain ⟨ws, rs, h1, h2, h3, h4⟩ := h
  refine ⟨ws, rs, h1, h2, h3, ?_⟩
  unfold Blk
  rw [hg.block g h4.lt hne]
  exact h4
theorem own_row {w w' : World} {base n : Nat} {e : TypeId} {v : Value} {xs : List Value} {row : Option Nat} (h : w.ownsRow base e 1 v n xs) (hg : w.grownBy w' row) (hne : ∀ k, v.ownBlock = some k → some k ≠ row) : w'.ownsRow base e 1 v n xs :=
  h.kept hg (by
    cases hv : v.ownBlock with
    | none => exact .inl rfl
    | some k => exact .inr (hne k hv))
theorem rd_via {B : Nat} {w w1 w2 : World} {A : Option Addr} {xs : List Value} (h1 : Below B w w1) (h2 : Below B w w2) (h : Rd B w1 A xs) : Rd B w2 A xs := fun k u hu => by
  obtain ⟨ad, e, hl, hc⟩ := h k u hu
  have hl' : (ad.add k).block < B := by rw [add_block]; exact hl
  exact ⟨ad, e, hl, by rw [h2.cell hl', ← h1.cell hl']; exact hc⟩
theorem own_caps {w : World} {base n c : Nat} {e : TypeId} {A : Option Addr} {xs : List Value} (h : w.ownsRow base e 1 (.slice A n c) n xs) : n ≤ c ∧ c ≤ maxLen := by
  rcases h.2 with ⟨h0, h1⟩ | ⟨_, cap, _, h0, _, _, h1, h2, _⟩
  · injection h0 with _ _ h0
    rw [h0, h1]; unfold maxLen; omega
  · injection h0 with _ _ h0
    omega
theorem flat_step (ls : List (List UInt8)) {k : Nat} (h : k < ls.length) : (ls.take (k + 1)).flatten = (ls.take k).flatten ++ ls[k] := by
  rw [List.take_succ_eq_append_getElem h, List.flatten_append]; simp
set_option maxHeartbeats 6400000 in
theorem shaWrites_any (w : World) (A : Option Addr) (n c : Nat) (ls : List (List UInt8)) (hl : ls.length = n) (_ : n ≤ c) (_ : c ≤ maxLen) (hr : RdB w.heap.size w A ls) (hz : ∀ l ∈ ls, l.length ≤ reachBytes) :
    Calls Try.prog 8 #[.slice A n c] w (RetB (.bool true) w) := by
  have HL := Lib.hid hl
  have HR := Lib.hid hr
  have HZL := Lib.hid hz
  clear hl hr hz
  have hz42 : ∀ W, (zeroValue 42).run Try.prog W = .ok (.agg (hC (List.replicate 8 0) (List.replicate 64 0) 0).toArray) W := fun _ => by kernel_rfl
  by_cases hn : n ≤ 60
  · have h60 : decide (60 < (n : Int)) = false := by simp; omega
    go_enter Try.func8, Try.ntmps8
    go_wp2_with fail
    refine (awake_any _).mono ?_
    rintro e w1 ⟨rfl, bw1⟩
    have H1 := Lib.hid bw1
    clear bw1
    go_wp2_with fail
    refine (new_any' _).mono ?_
    rintro e w2 ⟨g, rfl, hg1, hg2, hG, bw2⟩
    have B2 := Lib.hid (H1.out.trans (bw2.mono H1.out.size))
    have G2 := Lib.hid hG
    have hgw := Nat.le_trans H1.out.size hg1
    clear bw2 hG H1
    obtain ⟨z, hzz⟩ : ∃ z, z = w2.heap.size := ⟨_, rfl⟩
    have hzg : z ≠ g := by omega
    have hzw : w.heap.size ≤ z := by omega
    have Z3 := Lib.hid (hashIs_new w2)
    have G3 := Lib.hid (G2.out.below ((Below.refl _ _).alloc (Nat.le_refl _) (.cells (hC (List.replicate 8 0) (List.replicate 64 0) 0).toArray 42)))
    have B3 := Lib.hid (B2.out.alloc B2.out.size (.cells (hC (List.replicate 8 0) (List.replicate 64 0) 0).toArray 42))
    obtain ⟨B0, hB0⟩ : ∃ B0, B0 = w2.heap.size + 1 := ⟨_, rfl⟩
    have hB0w : w.heap.size ≤ B0 := by omega
    have hB0g : g < B0 := by omega
    have hB0z : z < B0 := by omega
    have hB0le : B0 ≤ z + 1 := by omega
    have HZ := Lib.hid hzz
    have HB0 := Lib.hid hB0
    clear hzz hB0 G2 B2
    have hzz' : w2.heap.size = z := HZ.out.symm
    go_wp2_with fail
    clear hzz'
    go_loopw [5, 19] (fun v i wr => ∃ (k : Nat) (A5 : Option Addr) (m5 c5 : Nat) (T : List UInt8), k ≤ n ∧ i = .int .i64 k ∧ v = .slice A5 m5 c5 ∧ m5 ≤ 1000 ∧ Hid (T.length = m5) ∧ Hid (T = (ls.take k).flatten) ∧ HashIs wr g T ∧ HashIs wr z T ∧ wr.ownsRow B0 5 1 (.slice A5 m5 c5) m5 (bv T) ∧ Below w.heap.size w wr) (fun _ i _ => n - (intOf i).toNat)
    case atStart =>
      exact ⟨0, none, 0, 0, [], by omega, rfl, rfl, by omega, rfl, rfl, G3.out, (by rw [HZ.out]; exact Z3.out), World.ownsRow_nil _ _ _ _, B3.out⟩
    case round =>
      clear G3 Z3 B3
      obtain ⟨k, A5, m5, c5, T, hk, rfl, rfl, hm5, HT5, HTK, hG, hZ, hO, hbel⟩ := hrel
      have G4 := Lib.hid hG
      have Z4 := Lib.hid hZ
      have O4 := Lib.hid hO
      have B4 := Lib.hid hbel
      clear hG hZ hO hbel
      by_cases hlt : k < n
      · have hkl : k < ls.length := by rw [HL.out]; exact hlt
        obtain ⟨ad, A6, c6, rfl, hadb, hcell, hnc6, hcm6, hrd⟩ := RdB.at_ (RdB.below HR.out B4.out) hkl
        obtain ⟨b, hb⟩ : ∃ b, b = ls[k] := ⟨_, rfl⟩
        rw [← hb] at hcell hnc6 hrd
        obtain ⟨n6, hn6⟩ : ∃ n6, n6 = b.length := ⟨_, rfl⟩
        rw [← hn6] at hcell hnc6
        have hreach : n6 ≤ 140737488351232 := by rw [hn6, hb]; exact HZL.out _ (List.getElem_mem hkl)
        have HB := Lib.hid hb
        have HN6 := Lib.hid hn6
        have RD := Lib.hid hrd
        have k0 : (0 : Int) ≤ (k : Int) := by omega
        have k1 : (k : Int) < (n : Int) := by omega
        unfold maxLen at hcm6
        clear hb hn6 hrd
        by_cases hbig : m5 + n6 ≤ 1000
        · have h1000 : decide (1000 < (m5 : Int) + (n6 : Int)) = false := by simp; omega
          obtain ⟨wo, rfl⟩ : ∃ wo : World, wo = wr := ⟨_, rfl⟩
          have hwo := B4.out.size
          have B4w := Lib.hid B4.out
          have hgo := G4.out.lt
          have hzo := Z4.out.lt
          go_wp2_with (at_builtin
                       refine wpList_app _ rfl (.tmp 29) (.tmp 30) _ rfl bytesElt (base := wo.heap.size) (v := .slice (some ⟨wo.heap.size, 0, none⟩) 0 0) rfl (World.ownsRow_lit wo #[] 0 (Nat.le_refl _) (Nat.zero_le _) rfl) (m := n6) rfl (RD.out.below ((Below.refl _ _).alloc hwo _)) ((bv_length b).trans HN6.out.symm) (bv_one _) ?_ ?_ ?_
                       · omega
                       · simp
                       intro A7 c7 wa ho7 hg7 _
                       have hga : wo.grownBy wa (some wo.heap.size) := grown_trans (World.grownBy_alloc wo _ _) hg7
                       have ho7' := own_eq ho7 (n' := n6) (by omega) (xs' := bv b) rfl
                       have O7 := Lib.hid ho7'
                       have G5 := Lib.hid (G4.out.far' hga (by intro e; injection e with e; omega))
                       have Z5 := Lib.hid (Z4.out.far' hga (by intro e; injection e with e; omega))
                       have O5 := Lib.hid (own_row O4.out hga (fun j hj => by intro e; injection e with e; have := (O4.out.lt j hj).2; omega))
                       have B5 := Lib.hid (B4.out.grown hga hwo (fun j hj => by injection hj with hj; omega))
                       have L5 := Lib.hid (O4.out.lt)
                       have hsza := hga.size
                       clear ho7 ho7' hg7 hga G4 Z4 O4 B4
                       rw [Nat.zero_add])
          have hcap7 := own_caps O7.out
          refine (write_any g T b A7 n6 c7 _ HN6.out.symm hcap7.1 hcap7.2 G5.out (Rf.of_own O7.out hgo) (by rw [HT5.out]; omega)).mono ?_
          rintro e wb ⟨rfl, hG, gr⟩
          have G6 := Lib.hid hG
          have Z6 := Lib.hid (Z5.out.far gr hzg)
          have O6 := Lib.hid (own_row O5.out gr (fun j hj => by intro e; injection e with e; have := (O5.out.lt j hj).1; omega))
          have P6 := Lib.hid (own_row O7.out gr (fun j hj => by intro e; injection e with e; have := (O7.out.lt j hj).1; omega))
          have B6 := Lib.hid (B5.out.grown gr B5.out.size (fun j hj => by injection hj with hj; omega))
          have L7 := Lib.hid O7.out.lt
          have hszb := gr.size
          clear hG gr G5 Z5 O5 O7 B5
          go_wp2_with fail
          refine (write_any z T b A6 n6 c6 _ HN6.out.symm hnc6 (by unfold maxLen; omega) Z6.out (Rf.of_rd (rd_via B4w.out B6.out RD.out) hzw) (by rw [HT5.out]; omega)).mono ?_
          rintro e wc ⟨rfl, hZ, gr⟩
          have G7 := Lib.hid (G6.out.far gr hzg.symm)
          have Z7 := Lib.hid hZ
          have O8 := Lib.hid (own_row O6.out gr (fun j hj => by intro e; injection e with e; have := (O6.out.lt j hj).1; omega))
          have P7 := Lib.hid (own_row P6.out gr (fun j hj => by intro e; injection e with e; have := (P6.out.lt j hj).1; omega))
          have B7 := Lib.hid (B6.out.grown gr B6.out.size (fun j hj => by injection hj with hj; omega))
          have hszc := gr.size
          clear hZ gr G6 Z6 O6 P6 B6
          obtain ⟨m8, hm8⟩ : ∃ m8, m8 = m5 + n6 := ⟨_, rfl⟩
          have hm8' : m5 + n6 = m8 := hm8.symm
          have em8 : (m5 : Int) + (n6 : Int) = (m8 : Int) := by omega
          have HM8 := Lib.hid hm8
          clear hm8
          go_wp2_with (at_builtin
                       refine wpList_app _ rfl (.tmp 37) (.tmp 38) _ rfl bytesElt (base := B0) (v := .slice A5 m5 c5) rfl O8.out (m := n6) rfl (rd_via B4w.out B7.out RD.out) ((bv_length b).trans HN6.out.symm) (bv_one _) ?_ ?_ ?_
                       · omega
                       · omega
                       intro A8 c8 wd ho8 hg8 hob8)
          have hm8 := HM8.out
          obtain ⟨T9, hT9⟩ : ∃ T9, T9 = T ++ b := ⟨_, rfl⟩
          have ho9 := own_eq ho8 hm8.symm (xs' := bv T9) (by rw [hT9, bv_append])
          have HT9 : Hid (T9.length = m8) := by show _ = _; rw [hT9, List.length_append, HT5.out, ← HN6.out, hm8]
          have HTK9 : Hid (T9 = (ls.take (k + 1)).flatten) := by show _ = _; rw [hT9, flat_step ls hkl, HTK.out, HB.out]
          have hm8b : m8 ≤ 1000 := by omega
          have hgB : ∀ x, x < B0 → some x ≠ (Value.slice A5 m5 c5).ownBlock := fun x hx e => by have := (O8.out.lt x e.symm).1; omega
          have G8 := Lib.hid (show HashIs wd g T9 by rw [hT9]; exact G7.out.far' hg8 (hgB g hB0g))
          have Z8 := Lib.hid (show HashIs wd z T9 by rw [hT9]; exact Z7.out.far' hg8 (hgB z hB0z))
          have P8 := Lib.hid (own_row P7.out hg8 (fun j hj => by intro e; have h1 := (L7.out j hj).1; have h2 := (L5.out j e.symm).2; omega))
          have B8 := Lib.hid (B7.out.grown hg8 B7.out.size (fun j hj => by have := (O8.out.lt j hj).1; omega))
          have O9 := Lib.hid ho9
          have HD : Hid (∀ j, (Value.slice A8 m8 c8).ownBlock = some j → some j ≠ (Value.slice A7 n6 c7).ownBlock) := by
            intro j hj e
            have h1 := L7.out j e.symm
            rw [hm8] at hj
            rcases hob8 with h | h
            · rw [h] at hj
              have := (L5.out j hj).2
              omega
            · rw [h] at hj
              injection hj with hj
              omega
          have hszd := hg8.size
          clear ho8 ho9 hg8 hob8 hT9 hgB G7 Z7 O8 P7 B7 hm8 hm8'
          go_loopw [9, 42] (fun _ i wr => ∃ (j : Nat) (ps : List Value), j ≤ n6 ∧ i = .int .i64 j ∧ wd.grownBy wr (Value.slice A7 n6 c7).ownBlock ∧ wr.ownsRow wo.heap.size 5 1 (.slice A7 n6 c7) n6 ps) (fun _ i _ => n6 - (intOf i).toNat)
          case atStart => exact ⟨0, _, by omega, rfl, World.grownBy.refl _ _, P8.out⟩
          case round =>
            obtain ⟨j, ps, hj, rfl, hgr, how⟩ := hrel
            by_cases hlt2 : j < n6
            · obtain ⟨q, rfl, hq1, hq2, hq3⟩ := own_addr how (by omega)
              have hc1 := how.cellAt j (by omega)
              have hf := how.frozenAt j
              have hlen := own_len how
              rw [List.getElem?_eq_getElem (by omega)] at hc1
              obtain ⟨v1, hv1⟩ : ∃ v, v = ps[j]'(by omega) := ⟨_, rfl⟩
              rw [← hv1] at hc1
              have j0 : (0 : Int) ≤ (j : Int) := by omega
              have HS := Lib.hid (how.stored j (.int .u8 7))
              have HG := Lib.hid hgr
              clear hgr how hlen hv1
              go_wp2
              go_roundw
              case rel => exact ⟨j + 1, _, by omega, by go_num, grown_trans HG.out HS.out.2, HS.out.1⟩
              case measure => simp [intOf]; omega
            · have G9 := Lib.hid (G8.out.far' hgr (fun e => by have := (L7.out g e.symm).1; omega))
              have Z9 := Lib.hid (Z8.out.far' hgr (fun e => by have := (L7.out z e.symm).1; omega))
              have R9 := Lib.hid (own_row O9.out hgr HD.out)
              have B9 := Lib.hid (B8.out.grown hgr B8.out.size (fun x hx => by have := (L7.out x hx).1; omega))
              clear G8 Z8 O9 P8 B8 hgr how
              go_wp2_with fail
              refine (sum_any A8 m8 c8 T9 _ HT9.out (Nat.le_refl _) (Rd.own R9.out) (by omega)).mono ?_
              rintro e wy ⟨rfl, bw⟩
              have Ga := Lib.hid (G9.out.below bw)
              have Za := Lib.hid (Z9.out.below bw)
              have Ra := Lib.hid (own_below R9.out bw)
              have Ba := Lib.hid (B9.out.trans (bw.mono B9.out.size))
              clear bw G9 Z9 R9 B9
              obtain ⟨q, hq⟩ : ∃ q, q = wy.heap.size := ⟨_, rfl⟩
              have hq' : wy.heap.size = q := hq.symm
              clear hq
              have HI : Hid ((Try.prog.info? 33).map (·.size) = some (bva (shaL T9)).size) := by rw [bva_size, shaL_length]; exact info33
              go_wp2_with (refine wpList_store_row rfl 33 (.tmp 10) (.tmp 50) rfl q (bva (shaL T9)) rfl rfl 33 (bva (List.replicate 32 0)) (by rw [← hq']; exact heap_alloc_new _ _) HI.out (by rw [bva_size, bva_size, shaL_length]; rfl) (bva_one _) ?_
                           generalize hww : World.setRow _ _ _ = ww
                           have gr : wy.grownBy ww (some q) := by rw [← hww]; exact grown_trans (World.grownBy_alloc wy _ _) (grown_setRow _ _ _)
                           have Q1 := Lib.hid (show Blk ww q (bva (shaL T9)) 33 by rw [← hww]; exact setRow_heap _ _ _ _ _ _ (by rw [← hq']; exact heap_alloc_new _ _))
                           have Q2 := Lib.hid (Ga.out.far' gr (by intro e; injection e with e; have := Ga.out.lt; omega))
                           have Q3 := Lib.hid (Za.out.far' gr (by intro e; injection e with e; have := Za.out.lt; omega))
                           have Q4 := Lib.hid (own_row Ra.out gr (fun x hx => by intro e; injection e with e; have := (Ra.out.lt x hx).2; omega))
                           have Q5 := Lib.hid (Ba.out.grown gr Ba.out.size (fun x hx => by injection hx with hx; have := Ba.out.size; omega))
                           clear Ga Za Ra Ba gr hww hq')
              have E1 : ∀ W, (Op.equalIn 10000 33 (.agg (bva (shaL T9))) (.agg (bva (shaL T9)))).run Try.prog W = .ok true W := fun W => eq_key _ (shaL_length T9) W
              refine wp_region_held_drew (S := fun w' => Blk w' q (bva (shaL T9)) 33 ∧ HashIs w' g T9 ∧ HashIs w' z T9 ∧ w'.ownsRow B0 5 1 (.slice A8 m8 c8) m8 (bv T9) ∧ Below w.heap.size w w') (by kernel_rfl) ⟨Q1.out, Q2.out, Q3.out, Q4.out, Q5.out.drew⟩ (fun hh => ?_)
              have HH := Lib.hid hh
              clear hh
              refine wpAnyH_take (i := 0) (v := ?v0) rfl (by kernel_rfl) (by kernel_rfl) (by kernel_rfl) (fun _ _ _ h => h) (Or.inl ⟨by rfl, fun w' _ => ?y0⟩) HH.out ?_
              case y0 => (go_simp; try with_reducible rfl)
              refine wpAnyH_take (i := 2) (v := .agg (bva (shaL T9))) rfl (by kernel_rfl) (by kernel_rfl) (by kernel_rfl) (fun _ _ _ h => h) (Or.inl ⟨by rfl, fun w' hw' => ?y2⟩) HH.out ?_
              case y2 => exact exec_load 33 (.tmp 10) rfl rfl hw'.1 Try.underlying33 rfl HI.out
              refine wpAnyH_ready (rs := [1]) (by kernel_rfl) (by simp) (AllReadyH.cons rfl (fun K hK => ?_) AllReadyH.nil)
              go_simp
              refine (hsum_any g T9 _ HH.out.2.1 (by rw [HT9.out]; omega)).mono ?_
              rintro e wa ⟨rfl, bwa⟩
              go_simp
              refine hK.out _ _ ⟨HH.out.1.below bwa, HH.out.2.1.below bwa, HH.out.2.2.1.below bwa, own_below HH.out.2.2.2.1 bwa, HH.out.2.2.2.2.trans (bwa.mono HH.out.2.2.2.2.size)⟩ (fun hh => ?_)
              have HH' := Lib.hid hh
              clear hh hK K HH bwa
              have HH := Lib.hid HH'.out
              clear HH'
              refine wpAnyH_take (i := 3) (v := ?v3) rfl (by kernel_rfl) (by kernel_rfl) (by kernel_rfl) (fun _ _ _ h => h) (Or.inl ⟨by rfl, fun w' _ => ?y3⟩) HH.out ?_
              case y3 => (go_simp; try with_reducible rfl)
              refine wpAnyH_take (i := 4) (v := ?v4) rfl (by kernel_rfl) (by kernel_rfl) (by kernel_rfl) (fun _ _ _ h => h) (Or.inl ⟨by rfl, fun w' _ => ?y4⟩) HH.out ?_
              case y4 => (go_simp; try with_reducible rfl)
              simp only [List.getElem_toArray, List.getElem_cons_succ, List.getElem_cons_zero, Act.put, List.setIfInBounds_toArray, List.set_cons_zero, List.set_cons_succ]
              refine wpAnyH_take (i := 5) (v := ?v5) rfl (by kernel_rfl) (by kernel_rfl) (by kernel_rfl) (fun _ _ _ h => h) (Or.inl ⟨by rfl, fun w' _ => ?y5⟩) HH.out ?_
              case y5 => (go_simp; try with_reducible rfl)
              refine wpAnyH_take (i := 7) (v := .agg (bva (shaL T9))) rfl (by kernel_rfl) (by kernel_rfl) (by kernel_rfl) (fun _ _ _ h => h) (Or.inl ⟨by rfl, fun w' hw' => ?y7⟩) HH.out ?_
              case y7 => exact exec_load 33 (.tmp 10) rfl rfl hw'.1 Try.underlying33 rfl HI.out
              refine wpAnyH_ready (rs := [6]) (by kernel_rfl) (by simp) (AllReadyH.cons rfl (fun K hK => ?_) AllReadyH.nil)
              go_simp
              refine (hsum_any g T9 _ HH.out.2.1 (by rw [HT9.out]; omega)).mono ?_
              rintro e wb ⟨rfl, bwb⟩
              go_simp
              refine hK.out _ _ ⟨HH.out.1.below bwb, HH.out.2.1.below bwb, HH.out.2.2.1.below bwb, own_below HH.out.2.2.2.1 bwb, HH.out.2.2.2.2.trans (bwb.mono HH.out.2.2.2.2.size)⟩ (fun hh => ?_)
              have HH' := Lib.hid hh
              clear hh hK K HH bwb
              have HH := Lib.hid HH'.out
              clear HH'
              refine wpAnyH_take (i := 8) (v := ?v8) rfl (by kernel_rfl) (by kernel_rfl) (by kernel_rfl) (fun _ _ _ h => h) (Or.inl ⟨by rfl, fun w' _ => ?y8⟩) HH.out ?_
              case y8 => (go_simp; try with_reducible rfl)
              refine wpAnyH_take (i := 9) (v := ?v9) rfl (by kernel_rfl) (by kernel_rfl) (by kernel_rfl) (fun _ _ _ h => h) (Or.inl ⟨by rfl, fun w' _ => ?y9⟩) HH.out ?_
              case y9 => (go_simp; try with_reducible rfl)
              simp only [List.getElem_toArray, List.getElem_cons_succ, List.getElem_cons_zero, Act.put, List.setIfInBounds_toArray, List.set_cons_zero, List.set_cons_succ]
              refine wpAnyH_take (i := 10) (v := ?v10) rfl (by kernel_rfl) (by kernel_rfl) (by kernel_rfl) (fun _ _ _ h => h) (Or.inl ⟨by rfl, fun w' _ => ?y10⟩) HH.out ?_
              case y10 => (go_simp; try with_reducible rfl)
              refine wpAnyH_take (i := 12) (v := .agg (bva (shaL T9))) rfl (by kernel_rfl) (by kernel_rfl) (by kernel_rfl) (fun _ _ _ h => h) (Or.inl ⟨by rfl, fun w' hw' => ?y12⟩) HH.out ?_
              case y12 => exact exec_load 33 (.tmp 10) rfl rfl hw'.1 Try.underlying33 rfl HI.out
              refine wpAnyH_ready (rs := [11]) (by kernel_rfl) (by simp) (AllReadyH.cons rfl (fun K hK => ?_) AllReadyH.nil)
              go_simp
              refine (hsum_any z T9 _ HH.out.2.2.1 (by rw [HT9.out]; omega)).mono ?_
              rintro e wc ⟨rfl, bwc⟩
              go_simp
              refine hK.out _ _ ⟨HH.out.1.below bwc, HH.out.2.1.below bwc, HH.out.2.2.1.below bwc, own_below HH.out.2.2.2.1 bwc, HH.out.2.2.2.2.trans (bwc.mono HH.out.2.2.2.2.size)⟩ (fun hh => ?_)
              have HH' := Lib.hid hh
              clear hh hK K HH bwc
              have HH := Lib.hid HH'.out
              clear HH'
              refine wpAnyH_take (i := 13) (v := ?v13) rfl (by kernel_rfl) (by kernel_rfl) (by kernel_rfl) (fun _ _ _ h => h) (Or.inl ⟨by rfl, fun w' _ => ?y13⟩) HH.out ?_
              case y13 => (go_simp; try with_reducible rfl)
              simp only [List.getElem_toArray, List.getElem_cons_succ, List.getElem_cons_zero, Act.put, List.setIfInBounds_toArray, List.set_cons_zero, List.set_cons_succ]
              refine wpAnyH_take (i := 14) (v := ?v14) rfl (by kernel_rfl) (by kernel_rfl) (by kernel_rfl) (fun _ _ _ h => h) (Or.inl ⟨by rfl, fun w' _ => ?y14⟩) HH.out ?_
              case y14 => (go_simp; try with_reducible rfl)
              refine wpAnyH_done (by kernel_rfl) ?_ _
              go_wp2_with fail
              go_roundw
              case rel => exact ⟨k + 1, A8, m8, c8, T9, by omega, by go_num, rfl, hm8b, HT9.out, HTK9.out, HH.out.2.1, HH.out.2.2.1, HH.out.2.2.2.1, HH.out.2.2.2.2⟩
              case measure => simp [intOf]; omega
        · have h1 : ¬ (m5 : Int) + (n6 : Int) ≤ 1000 := by omega
          go_wp2_with fail
          go_ret
          exact ⟨rfl, B4.out⟩
      · have E1 : ∀ W, (Op.equalIn 10000 33 (.agg (bva (shaL T))) (.agg (bva (shaL T)))).run Try.prog W = .ok true W := fun W => eq_key _ (shaL_length T) W
        go_wp2_with fail
        refine (hsum_any g T _ G4.out (by rw [HT5.out]; omega)).mono ?_
        rintro e wy ⟨rfl, bw⟩
        have O5 := Lib.hid (own_below O4.out bw)
        have B5 := Lib.hid (B4.out.trans (bw.mono B4.out.size))
        clear bw G4 Z4 O4 B4
        go_wp2_with fail
        refine (sum_any A5 m5 c5 T _ HT5.out (Nat.le_refl _) (Rd.own O5.out) (by omega)).mono ?_
        rintro e wz ⟨rfl, bw⟩
        have B6 := Lib.hid (B5.out.trans (bw.mono B5.out.size))
        clear bw O5 B5
        go_wp2_with fail
        go_ret
        exact ⟨rfl, B6.out⟩
  · have hn' : ¬ (n : Int) ≤ 60 := by omega
    go_enter Try.func8, Try.ntmps8
    go_wp2_with fail
    refine (awake_any _).mono ?_
    rintro e w1 ⟨rfl, bw1⟩
    have H1 := Lib.hid bw1
    clear bw1
    go_wp2_with fail
    go_ret
    exact ⟨rfl, H1.out⟩
theorem shaWrites_own : ownKnob Try.prog.godebug = none := by kernel_rfl
theorem shaWrites_laid : laidOutB Try.prog = true := by kernel_rfl

set_option maxRecDepth 100000 in
theorem shaWrites_lifted (os : Os) (started : os.Started) (H : Type) (enc : TypeId × Value → H) :
    ReturnsInHanded {} Try.checked os 8 .any (Rows.shaWritesSpec.pre6 enc Try.prog Try.f8 Rows.shaWritesRow.domain false) (Rows.shaWritesSpec.post enc Try.prog Try.f8 false true false false) := by
  refine returnsInHanded_of_change_sized (C := Try.checked) shaWrites_own started (by kernel_rfl) Try.func8
    (ChangeSpec.witness6 (enc := enc) (C := Try.checked) false ⟨#[], #[.slice none 0 0], []⟩ 8 (by kernel_rfl) (by kernel_rfl) (by kernel_rfl) (by kernel_rfl)) ?_
  intro W base args ds gs before hval0 hW _ hsz0 _
  have hsz : (DataW.weightsEach Try.prog (Try.f8.params.toList ++ Rows.shaWritesSpec.plain.varTypes Try.prog) (ds ++ gs)).all (· ≤ reachBytes) = true := hsz0
  clear hsz0
  have hval : ∀ (j : Nat) t v, Try.f8.params[j]? = some t → args[j]? = some v → Value.okWide Try.prog W .any base t v := hval0
  have hW' := hW
  obtain ⟨p, q, hA0, hV, rfl, hfz, hnd⟩ := hW
  have hA : DataW.TrodAll enc Try.prog W 0 (fun _ => true) true Try.f8.params.toList args.toList ds p := hA0
  rw [Try.params8] at hA hval hsz
  obtain ⟨v0, vs0, d0, ds0, p0, q0, hargs, rfl, rfl, h0, r0⟩ := trodAll_cons hA
  obtain ⟨rfl, rfl, rfl⟩ := trodAll_nil r0
  obtain rfl : args = #[v0] := by cases args; simp_all
  obtain ⟨rfl, rfl⟩ := trodVars_none hV
  obtain ⟨a0, n0, c0, rfl⟩ := okWide_slice Try.underlying37 (hval 0 37 v0 rfl rfl)
  have lt0 : ∀ x ∈ p0, x.block < W.heap.size := by obtain ⟨m, hm⟩ := h0; exact DataW.trod_lt m _ _ _ hm
  have hw0 : ∀ n ∈ d0.weights Try.prog 37, n ≤ reachBytes := fun n hn => by simpa using List.all_eq_true.1 hsz n (DataW.weights_mem_each (j := 0) rfl rfl n hn)
  obtain ⟨l0, hl0, hc0, hm0, hr0, hz0⟩ := open_rows_sized Try.underlying37 Try.underlying22 Try.underlying5 (by kernel_rfl) (by kernel_rfl) (by kernel_rfl) h0 hw0
  clear hA0 hval0
  refine (shaWrites_any W a0 n0 c0 l0 hl0 hc0 hm0 hr0 hz0).mono fun e W' ⟨he, bel⟩ => ?_
  subst he
  exact ⟨_, rfl, _, _, _, [], _, [], hW', trodAll_mk1 (shut_bool Try.underlying4 _), (trodAll_cons_mk (Below.trod shaWrites_laid (by kernel_rfl) (of_decide_eq_true (by kernel_rfl)) h0 bel lt0) trodAll_mk0), rfl, bel.frame _, fun h => by cases h⟩

theorem shaWrites_holds : Rows.ShaWritesSaid :=
  OpenClaim.holds_of_wide 8 Try.f8 rfl rfl rfl rfl rfl rfl rfl ⟨rfl, rfl, rfl, rfl, rfl⟩ rfl rfl rfl rfl rfl (by kernel_rfl) Try.func8 (by kernel_rfl)
    (of_decide_eq_true (by kernel_rfl)) (by unfold Func.isWrapper; rw [if_neg (of_decide_eq_false (by kernel_rfl))]; exact ⟨rfl, rfl⟩)
    (fun os started H enc _ => shaWrites_lifted os started H enc)

#print axioms shaWrites_holds

end Go.Proofs.Ytgmoccglldpmdaa
