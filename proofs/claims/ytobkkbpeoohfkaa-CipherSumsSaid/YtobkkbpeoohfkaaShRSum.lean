/-
  The contract of the reference's Sum: a text's sum.
-/
import Derived.Test.YtobkkbpeoohfkaaShRComp
import Derived.Test.YtobkkbpeoohfkaaShRPad
import Derived.Test.YtobkkbpeoohfkaaShMid
import Derived.Test.YtobkkbpeoohfkaaShTold
namespace Go.Proofs.Ytobkkbpeoohfkaa
open Go.RowKit
attribute [local go_sem ↓] Go.wp_at_zero Go.wp_at_succ
theorem rf_rd {g B : Nat} {w : World} {A : Option Addr} {xs : List Value} (h : Rd B w A xs) (hg : ∀ ad, A = some ad → ad.block ≠ g) : Rf g w A xs := fun k u hu => by
  obtain ⟨ad, e, _, hc⟩ := h k u hu
  exact ⟨ad, e, hg ad e, hc⟩
theorem tell_get (s : List UInt32) {i j : Nat} (hi : i < 8) (hj : j < 4) : (toldB s)[4 * i + j]? = some (byteB (s.getD i 0) j) := by
  rw [toldB, List.getElem?_map, List.getElem?_range (by omega)]
  simp only [Option.map_some]
  rw [show (4 * i + j) / 4 = i by omega, show (4 * i + j) % 4 = j by omega]
theorem info_b24 : (Try.prog.info? 52).map (·.size) = some 64 := by kernel_rfl
set_option maxHeartbeats 3200000 in
theorem rsum_any {B : Nat} (A : Option Addr) (n c : Nat) (b : List UInt8) (w : World) (hn : b.length = n) (hB : B ≤ w.heap.size) (ha : Rd B w A (bv b)) (hs : n ≤ 70368744177664) :
    Calls Try.prog 41 #[.slice A n c] w (RetB (.agg (bva (shaL b))) w) := by
  have hz : ∀ W, (zeroValue 52).run Try.prog W = .ok (.agg (bva (List.replicate 64 0))) W := fun _ => by kernel_rfl
  have hz' : ∀ W, (zeroValue 23).run Try.prog W = .ok (.agg (bva (List.replicate 32 0))) W := fun _ => by kernel_rfl
  have hz8 : ∀ W, (zeroValue 60).run Try.prog W = .ok (.agg (uv (List.replicate 8 0))) W := fun _ => by kernel_rfl
  have HN := Lib.hid hn
  have HA := Lib.hid (ha.more hB)
  have b1 : Blk (w.alloc (.cells (bva (List.replicate 32 0)) 23)) w.heap.size (bva (List.replicate 32 0)) 23 := heap_alloc_new _ _
  have bb : Below w.heap.size w (w.alloc (.cells (bva (List.replicate 32 0)) 23)) := (Below.refl _ _).alloc (Nat.le_refl _) _
  have B1 := Lib.hid b1
  have BB := Lib.hid bb
  clear hn ha b1 bb
  go_enter Try.func41, Try.ntmps41
  go_wp2_with fail
  refine (rfirst_any _).mono ?_
  rintro e w1 ⟨rfl, bw⟩
  have C1 := Lib.hid (B1.out.below bw)
  have CB := Lib.hid (BB.out.trans (bw.mono BB.out.size))
  clear bw B1 BB
  obtain ⟨fl, hfl⟩ : ∃ fl, fl = firstL := ⟨_, rfl⟩
  have HF := Lib.hid hfl
  have HF8 : Hid (fl.length = 8) := by show _ = _; rw [hfl]; rfl
  have HFI : Hid ((Try.prog.info? 60).map (·.size) = some (uv fl).size) := by rw [uv_size, HF8.out]; exact info28
  rw [← hfl]
  clear hfl
  go_wp2_with (refine wpList_store_row rfl 60 (.tmp 3) (.tmp 11) rfl w1.heap.size (uv fl) rfl rfl 60 (uv (List.replicate 8 0)) (heap_alloc_new _ _) HFI.out (by rw [uv_size, uv_size, HF8.out]; rfl) (uv_one _) ?_
               generalize hw2 : World.setRow _ _ _ = w2
               have d1 : Blk w2 w.heap.size (bva (List.replicate 32 0)) 23 := by rw [← hw2]; exact blk_past C1.out
               have d2 : Blk w2 w1.heap.size (uv fl) 60 := by rw [← hw2]; exact blk_new _
               have d3 : Below w.heap.size w w2 := by rw [← hw2]; exact below_new CB.out CB.out.size
               have hne : w.heap.size ≠ w1.heap.size := by have := C1.out.lt; omega
               have hGs : w.heap.size ≤ w1.heap.size := Nat.le_of_lt C1.out.lt
               have D1 := Lib.hid d1
               have D2 := Lib.hid d2
               have DB := Lib.hid d3
               clear d1 d2 d3 hw2 C1 CB)
  refine (rpad_any A n c b _ HN.out DB.out.size (HA.out.below DB.out) hs).mono ?_
  rintro e w3 ⟨A2, N, c2, rfl, ho, bw⟩
  obtain ⟨t, ht⟩ : ∃ t, t = padL b := ⟨_, rfl⟩
  rw [← ht] at ho
  have hlt : t.length = N := own_blen ho
  have h64 : N % 64 = 0 := by rw [← hlt, ht, padL_length]; exact padN_mod _
  have hpos : 0 < N := by have := padN_le b.length; rw [← hlt, ht, padL_length]; omega
  obtain ⟨g, rfl, hgb, hnc, hcm⟩ := own_addr ho hpos
  have hgG : w1.heap.size ≠ g := by have := D2.out.lt; omega
  have RF := Lib.hid (rf_rd (g := w1.heap.size) (Rd.own ho) (fun ad e => by injection e with e; subst e; exact fun e => hgG e.symm))
  have E1 := Lib.hid (D1.out.below bw)
  have E2 := Lib.hid (D2.out.below bw)
  have EB := Lib.hid (DB.out.trans (bw.mono DB.out.size))
  have HT := Lib.hid ht
  have HLT := Lib.hid hlt
  unfold maxLen at hcm
  have H64 := Lib.hid h64
  clear bw ho ht hlt D1 D2 DB hgG hgb h64
  go_wp2_with fail
  have HCM := Lib.hid hcm
  have HSS := Lib.hid hs
  clear hcm hs
  go_loopw [5] (fun i wr => ∃ k o : Nat, o = 64 * k ∧ o ≤ N ∧ i = .int .i64 o ∧ Blk wr w.heap.size (bva (List.replicate 32 0)) 23 ∧ Blk wr w1.heap.size (uv (overTo fl t k)) 60 ∧ Rf w1.heap.size wr (some ⟨g, 0, none⟩) (bv t) ∧ Below w.heap.size w wr) (fun i _ => N - (intOf i).toNat)
  case atStart => exact ⟨0, 0, rfl, Nat.zero_le _, rfl, E1.out, E2.out, RF.out, EB.out⟩
  case round =>
    clear E1 E2 RF EB
    obtain ⟨k, o, hk, ho, rfl, R1, R2, R3, RB⟩ := hrel
    by_cases hlt : o < N
    · obtain ⟨hi, hhi⟩ : ∃ hi : Nat, hi = o + 64 := ⟨_, rfl⟩
      have h2 := H64.out
      have hhN : hi ≤ N := by omega
      have ehi : (o : Int) + 64 = (hi : Int) := by omega
      have whi : IntKind.i64.wrap (hi : Int) = (hi : Int) := IntWalk.i64_in _ (by have := HCM.out; omega)
      have o0 : (0 : Int) ≤ (o : Int) := by omega
      have o1 : (o : Int) ≤ (hi : Int) := by omega
      have o2 : (hi : Int) ≤ (c2 : Int) := by omega
      have o3 : hi - o = 64 := by omega
      have o4 : ¬ c2 = o := by omega
      obtain ⟨u, hu⟩ : ∃ u, u = overTo fl t k := ⟨_, rfl⟩
      have HU : Hid (u.length = 8) := by show _ = _; rw [hu, overTo_length, HF8.out]
      have HUI : Hid ((Try.prog.info? 60).map (·.size) = some (uv u).size) := by rw [uv_size, HU.out]; exact info28
      obtain ⟨cs, hcs⟩ : ∃ cs, cs = (t.drop o).take 64 := ⟨_, rfl⟩
      have HC : Hid (cs.length = 64) := by show _ = _; rw [hcs, List.length_take, List.length_drop, HLT.out]; omega
      have HCI : Hid ((Try.prog.info? 52).map (·.size) = some (bva cs).size) := by rw [bva_size, HC.out]; exact info_b24
      have HV : Hid (compL u cs = overTo fl t (k + 1)) := by show _ = _; rw [overTo, hu, hcs, hk]
      have HCS := Lib.hid hcs
      rw [← hu] at R2
      have H1 := Lib.hid R1
      have H2 := Lib.hid R2
      have H3 := Lib.hid R3
      have HB := Lib.hid RB
      have hGr := R2.lt
      have hsr := R1.lt
      have hG1 : w1.heap.size ≠ wr.heap.size := by omega
      have hS1 : w.heap.size ≠ wr.heap.size := by omega
      have HHK := Lib.hid hk
      have HHI := Lib.hid hhi
      clear hu hcs R1 R2 R3 RB h2 hk hhi
      go_wp2_with (refine wpList_store_row rfl 52 (.tmp 6) (.tmp 20) rfl wr.heap.size (bva (List.replicate 64 0)) rfl rfl 52 (bva (List.replicate 64 0)) (heap_alloc_new _ _) info_b24 rfl (bva_one _) ?_
                   generalize hwa : World.setRow _ _ _ = wa
                   have d1 : Blk wa w.heap.size (bva (List.replicate 32 0)) 23 := by rw [← hwa]; exact blk_past H1.out
                   have d2 : Blk wa w1.heap.size (uv u) 60 := by rw [← hwa]; exact blk_past H2.out
                   have d4 : Blk wa wr.heap.size (bva (List.replicate 64 0)) 52 := by rw [← hwa]; exact blk_new _
                   have ya : Below wr.heap.size wr wa := by rw [← hwa]; exact below_new (Below.refl _ _) (Nat.le_refl _)
                   have d5 : Below w.heap.size w wa := by rw [← hwa]; exact below_new HB.out HB.out.size
                   have D1 := Lib.hid d1
                   have D2 := Lib.hid d2
                   have YA := Lib.hid ya
                   have D4 := Lib.hid d4
                   have DB := Lib.hid d5
                   clear d1 d2 d4 d5 ya hwa H1 H2 HB)
      refine wp_region_any (by kernel_rfl) ?_
      change wpAny _ _ _ _ _ _ _ (World.drew _)
      refine wpAny_take (i := 0) (v := ?v0) rfl (by kernel_rfl) (by kernel_rfl) (by kernel_rfl) (fun _ _ _ h => h) (Or.inl ⟨by rfl, ?y0⟩) ?_
      case y0 => (intro w'; go_simp; try with_reducible rfl)
      refine wpAny_take (i := 1) (v := ?v1) rfl (by kernel_rfl) (by kernel_rfl) (by kernel_rfl) (fun _ _ _ h => h) (Or.inl ⟨by rfl, ?y1⟩) ?_
      case y1 => (intro w'; go_simp; try with_reducible rfl)
      refine wpAny_take (i := 2) (v := ?v2) rfl (by kernel_rfl) (by kernel_rfl) (by kernel_rfl) (fun _ _ _ h => h) (Or.inl ⟨by rfl, ?y2⟩) ?_
      case y2 => (intro w'; go_simp; try with_reducible rfl)
      refine wpAny_take (i := 3) (v := ?v3) rfl (by kernel_rfl) (by kernel_rfl) (by kernel_rfl) (fun _ _ _ h => h) (Or.inl ⟨by rfl, ?y3⟩) ?_
      case y3 => (intro w'; go_simp; try with_reducible rfl)
      refine wpAny_take (i := 4) (v := ?v4) rfl (by kernel_rfl) (by kernel_rfl) (by kernel_rfl) (fun _ _ _ h => h) (Or.inl ⟨by rfl, ?y4⟩) ?_
      case y4 => (intro w'; go_simp; try with_reducible rfl)
      refine wpAny_take (i := 5) (v := ?v5) rfl (by kernel_rfl) (by kernel_rfl) (by kernel_rfl) (fun _ _ _ h => h) (Or.inl ⟨by rfl, ?y5⟩) ?_
      case y5 => (intro w'; go_simp; try with_reducible rfl)
      try simp only [List.getElem_toArray, List.getElem_cons_succ, List.getElem_cons_zero, Act.put, List.setIfInBounds_toArray, List.set_cons_zero, List.set_cons_succ]
      refine wpAny_ready (rs := [6]) (by kernel_rfl) (by simp) (AllReady.cons rfl (fun K hK => ?_) AllReady.nil)
      refine step_copy_set rfl (.tmp 21) (.tmp 26) 33 33 rfl 5 Try.underlying33 info5 ⟨g, o, none⟩ wr.heap.size 0 64 64 64 (c2 - o) rfl rfl (bv (List.replicate 64 0)) 52 ?c3 (bv cs) ?c1 ?c4 ?c2 (bv_one _) 64 (by rw [bv_length, HC.out]) ?_
      case c3 => exact D4.out
      case c1 => rw [bv_length, HC.out]; rfl
      case c2 => rw [bv_length, HC.out]; simp [bv]
      case c4 =>
        intro j v hv
        rw [HCS.out] at hv
        have h1 := bv_take_get hv
        rw [bv_drop, List.getElem?_drop] at h1
        obtain ⟨ad, e, _, hc⟩ := (H3.out.grown (grown_of_below YA.out)) (o + j) v h1
        injection e with e
        subst e
        rw [add_head] at hc
        rw [Addr.add_mid]; exact hc
      generalize hwb : World.setRow _ _ _ = wb
      have q1 : Blk wb w.heap.size (bva (List.replicate 32 0)) 23 := by rw [← hwb]; unfold Blk; rw [setRow_other _ _ _ _ hS1]; exact D1.out
      have q2 : Blk wb w1.heap.size (uv u) 60 := by rw [← hwb]; unfold Blk; rw [setRow_other _ _ _ _ hG1]; exact D2.out
      have q4 : Blk wb wr.heap.size (bva cs) 52 := by rw [← hwb, splice_whole _ _ (by rw [bv_length, HC.out]; simp [bv])]; exact setRow_heap _ _ _ _ _ _ D4.out
      have q3 : Rf w1.heap.size wb (some ⟨g, 0, none⟩) (bv t) := by rw [← hwb]; exact H3.out.grown (grown_of_below (below_setRow YA.out.drew (Nat.le_refl _) _))
      have qb : Below w.heap.size w wb := by rw [← hwb]; exact below_setRow DB.out.drew (by omega) _
      have Q1 := Lib.hid q1
      have Q2 := Lib.hid q2
      have Q3 := Lib.hid q3
      have Q4 := Lib.hid q4
      have QB := Lib.hid qb
      clear q1 q2 q3 q4 qb hwb D1 D2 D4 DB H3 YA
      refine hK _ _ ?_
      clear hK K
      refine wpAny_done (by kernel_rfl) ?_ _
      try simp only [List.getElem_toArray, List.getElem_cons_succ, List.getElem_cons_zero, Act.put, List.setIfInBounds_toArray, List.set_cons_zero, List.set_cons_succ]
      go_wp2_with (first
        | (refine wpList_load_row rfl 60 (.tmp 3) rfl w1.heap.size rfl 60 (uv u) (0, 0) _ Q2.out Try.underlying60 rfl HUI.out ?_)
        | (refine wpList_load_row rfl 52 (.tmp 6) rfl wr.heap.size rfl 52 (bva cs) (0, 0) _ Q4.out Try.underlying52 rfl HCI.out ?_))
      refine (rcompress_any u cs HU.out HC.out _).mono ?_
      rintro e wc ⟨rfl, bw⟩
      obtain ⟨nu, hnu⟩ : ∃ nu, compL u cs = nu := ⟨_, rfl⟩
      have HNU : Hid (overTo fl t (k + 1) = nu) := HV.out.symm.trans hnu
      have HN8 : Hid (nu.length = 8) := by show _ = _; rw [← hnu, compL_length, HU.out]
      have HNI : Hid ((Try.prog.info? 60).map (·.size) = some (uv nu).size) := by rw [uv_size, HN8.out]; exact info28
      rw [hnu]
      have F1 := Lib.hid (Q1.out.below bw)
      have F2 := Lib.hid (Q2.out.below bw)
      have F3 := Lib.hid (Q3.out.grown (grown_of_below bw))
      have FB := Lib.hid (QB.out.trans (bw.mono QB.out.size))
      clear hnu bw Q1 Q2 Q3 Q4 QB
      go_wp2_with (refine wpList_store_row rfl 60 (.tmp 3) (.tmp 30) rfl w1.heap.size (uv nu) rfl rfl 60 (uv u) F2.out HNI.out (by rw [uv_size, uv_size, HN8.out, HU.out]) (uv_one _) ?_
                   generalize hwd : World.setRow _ _ _ = wd
                   have d1 : Blk wd w.heap.size (bva (List.replicate 32 0)) 23 := by rw [← hwd]; unfold Blk; rw [setRow_other _ _ _ _ hne]; exact F1.out
                   have d2 : Blk wd w1.heap.size (uv nu) 60 := by rw [← hwd]; exact setRow_heap _ _ _ _ _ _ F2.out
                   have d3 : Rf w1.heap.size wd (some ⟨g, 0, none⟩) (bv t) := by rw [← hwd]; exact F3.out.grown (grown_setRow _ _ _)
                   have d4 : Below w.heap.size w wd := by rw [← hwd]; exact below_setRow FB.out hGs _
                   have K1 := Lib.hid d1
                   have K2 := Lib.hid d2
                   have K3 := Lib.hid d3
                   have KB := Lib.hid d4
                   clear d1 d2 d3 d4 hwd F1 F2 F3 FB)
      go_roundw
      case rel => exact ⟨k + 1, hi, by have := HHK.out; have := HHI.out; omega, hhN, rfl, K1.out, by rw [HNU.out]; exact K2.out, K3.out, KB.out⟩
      case measure => have := HHI.out; simp [intOf]; omega
    · have hkN : k = N / 64 := by have := H64.out; omega
      obtain ⟨hs8, hhs⟩ : ∃ hs8, hs8 = overTo fl t k := ⟨_, rfl⟩
      have HS8 : Hid (hs8.length = 8) := by show _ = _; rw [hhs, overTo_length, HF8.out]
      have HSH : Hid (shaL b = toldB hs8) := by show _ = _; rw [shaL, ← HT.out, overL, HLT.out, ← HF.out, hhs, hkN]
      rw [← hhs] at R2
      have H1 := Lib.hid R1
      have H2 := Lib.hid R2
      have HB := Lib.hid RB
      have hGr := R2.lt
      have hsr := R1.lt
      have hG1 : w1.heap.size ≠ wr.heap.size := by omega
      have hS1 : w.heap.size ≠ wr.heap.size := by omega
      clear hhs hkN hk R1 R2 R3 RB HT HF
      go_wp2_with (refine wpList_store_row rfl 23 (.tmp 7) (.tmp 31) rfl wr.heap.size (bva (List.replicate 32 0)) rfl rfl 23 (bva (List.replicate 32 0)) (heap_alloc_new _ _) info33 rfl (bva_one _) ?_
                   generalize hwa : World.setRow _ _ _ = wa
                   have d1 : Blk wa w.heap.size (bva (List.replicate 32 0)) 23 := by rw [← hwa]; exact blk_past H1.out
                   have d2 : Blk wa w1.heap.size (uv hs8) 60 := by rw [← hwa]; exact blk_past H2.out
                   have d4 : Blk wa wr.heap.size (bva (List.replicate 32 0)) 23 := by rw [← hwa]; exact blk_new _
                   have d5 : Below w.heap.size w wa := by rw [← hwa]; exact below_new HB.out HB.out.size
                   have D1 := Lib.hid d1
                   have D2 := Lib.hid d2
                   have D4 := Lib.hid d4
                   have DB := Lib.hid d5
                   clear d1 d2 d4 d5 hwa H1 H2 HB)
      generalize hZ : wr.heap.size = Z at D4 hGr hsr hG1 hS1 ⊢
      clear hZ
      have HL0 : Hid ((List.replicate 32 (0 : UInt8)).length = 32) := rfl
      have HA0 : Hid (∀ q, q < 4 * 0 → (List.replicate 32 (0 : UInt8))[q]? = (toldB hs8)[q]?) := fun q hq => by omega
      go_loopw [8] (fun i wo => ∃ (k : Nat) (l : List UInt8), k ≤ 8 ∧ i = .int .i64 k ∧ Hid (l.length = 32) ∧ Hid (∀ q, q < 4 * k → l[q]? = (toldB hs8)[q]?) ∧ Blk wo w.heap.size (bva (List.replicate 32 0)) 23 ∧ Blk wo w1.heap.size (uv hs8) 60 ∧ Blk wo Z (bva l) 23 ∧ Below w.heap.size w wo) (fun i _ => 8 - (intOf i).toNat)
      case atStart => exact ⟨0, List.replicate 32 0, Nat.zero_le _, rfl, HL0, HA0, D1.out, D2.out, D4.out, DB.out⟩
      case round =>
        clear HL0 HA0 D1 D2 D4 DB
        obtain ⟨k, l, hk, rfl, HL, HQ, R1, R2, R4, RB⟩ := hrel
        have H1 := Lib.hid R1
        have H2 := Lib.hid R2
        have H4 := Lib.hid R4
        have HB := Lib.hid RB
        by_cases hlt : k < 8
        · obtain ⟨x, hx⟩ : ∃ x, x = hs8.getD k 0 := ⟨_, rfl⟩
          have C0 := R2.cellu (k := k) (by rw [HS8.out]; exact hlt)
          rw [← hx] at C0
          have k0 : (0 : Int) ≤ (k : Int) := by omega
          have k1 : (k : Int) < 8 := by omega
          have HX := Lib.hid hx
          have HI0 : Hid (∀ i, 4 ≤ i → i < 4 → l[4 * k + i]? = some (byteB x i)) := fun i h1 h2 => by omega
          clear hx R1 R2 R4 RB
          go_wp2_with fail
          go_loopw [9, 10] (fun v9 v10 wo => ∃ (j y : Nat) (l : List UInt8), j ≤ 4 ∧ v10 = .int .i64 ((j : Int) - 1) ∧ v9 = .int .u32 (y : Int) ∧ Hid (y = x.toNat / 256 ^ (4 - j)) ∧ Hid (l.length = 32) ∧ Hid (∀ q, q < 4 * k → l[q]? = (toldB hs8)[q]?) ∧ Hid (∀ i, j ≤ i → i < 4 → l[4 * k + i]? = some (byteB x i)) ∧ Blk wo w.heap.size (bva (List.replicate 32 0)) 23 ∧ Blk wo w1.heap.size (uv hs8) 60 ∧ Blk wo Z (bva l) 23 ∧ Below w.heap.size w wo) (fun _ v10 _ => (intOf v10 + 1).toNat)
          case atStart => exact ⟨4, x.toNat, l, Nat.le_refl _, rfl, rfl, (show x.toNat = x.toNat / 256 ^ (4 - 4) by simp), HL, HQ, HI0, H1.out, H2.out, H4.out, HB.out⟩
          case round =>
            clear HI0 HL HQ H1 H2 H4 HB C0
            obtain ⟨j, y, l, hj, rfl, rfl, HY, HL, HQ, HI, R1, R2, R4, RB⟩ := hrel
            have H1 := Lib.hid R1
            have H2 := Lib.hid R2
            have H4 := Lib.hid R4
            have HB := Lib.hid RB
            rcases j with _ | j
            · have e1 : (((0 : Nat) : Int) - 1) = -1 := rfl
              have HQ' : Hid (∀ q, q < 4 * (k + 1) → l[q]? = (toldB hs8)[q]?) := fun q hq => by
                by_cases h : q < 4 * k
                · exact HQ.out q h
                · obtain ⟨i, rfl⟩ : ∃ i, q = 4 * k + i := ⟨q - 4 * k, by omega⟩
                  rw [HI.out i (Nat.zero_le _) (by omega), tell_get hs8 hlt (by omega), HX.out]
              clear R1 R2 R4 RB HQ HI HY
              rw [e1]
              clear e1
              go_wp2_with fail
              go_roundw
              case rel => exact ⟨k + 1, l, by omega, by go_num, HL, HQ', H1.out, H2.out, H4.out, HB.out⟩
              case measure => (simp [intOf]; try omega)
            · have e1 : (((j + 1 : Nat) : Int) - 1) = (j : Int) := by omega
              obtain ⟨m, hm⟩ : ∃ m : Nat, m = 4 * k + j := ⟨_, rfl⟩
              obtain ⟨bb, hbb⟩ : ∃ bb, bb = byteB x j := ⟨_, rfl⟩
              obtain ⟨y2, hy2⟩ : ∃ y2, y2 = y / 256 := ⟨_, rfl⟩
              have hxl := x.toNat_lt
              have hyl : y ≤ x.toNat := by rw [HY.out]; exact Nat.div_le_self _ _
              have em : 4 * (k : Int) + (j : Int) = (m : Int) := by omega
              have m0 : (0 : Int) ≤ (m : Int) := by omega
              have m1 : (m : Int) < 32 := by omega
              have j0 : (0 : Int) ≤ (j : Int) := by omega
              have y0 : (0 : Int) ≤ (y : Int) := by omega
              have y1 : (y : Int) ≤ 4294967295 := by omega
              have ey : (y : Int) / 256 = (y2 : Int) := by omega
              have hpow : (256 : Nat) ^ (4 - (j + 1)) = 2 ^ (8 * (3 - j)) := by rw [show 4 - (j + 1) = 3 - j by omega, Nat.pow_mul]
              have eb : (y : Int) % 256 = (bb.toNat : Int) := by
                rw [hbb, byteB, UInt8.toNat_ofNat', ← hpow, ← HY.out]; omega
              have HY2 : Hid (y2 = x.toNat / 256 ^ (4 - j)) := by
                show _ = _
                rw [hy2, HY.out, Nat.div_div_eq_div_mul, ← Nat.pow_succ, show (4 - (j + 1)).succ = 4 - j by omega]
              have b0 : (0 : Int) ≤ (bb.toNat : Int) := by omega
              have b1 : (bb.toNat : Int) < 256 := by have := bb.toNat_lt; omega
              have HL' : Hid ((l.set m bb).length = 32) := by show _ = _; rw [List.length_set]; exact HL.out
              have HQ' : Hid (∀ q, q < 4 * k → (l.set m bb)[q]? = (toldB hs8)[q]?) := fun q hq => by
                rw [List.getElem?_set_ne (by omega)]; exact HQ.out q hq
              have HI' : Hid (∀ i, j ≤ i → i < 4 → (l.set m bb)[4 * k + i]? = some (byteB x i)) := fun i h1 h2 => by
                by_cases h : i = j
                · subst h
                  rw [← hm, List.getElem?_set_self (by rw [HL.out]; omega), hbb]
                · rw [List.getElem?_set_ne (by omega)]; exact HI.out i (by omega) h2
              have C4 := R4.cellb (k := m) (by rw [HL.out]; omega)
              have C5 := R4.free m
              obtain ⟨v, hv⟩ : ∃ v, v = l.getD m 0 := ⟨_, rfl⟩
              rw [← hv] at C4
              clear hv hpow hyl hxl hm hbb hy2 R1 R2 R4 RB HQ HI HY
              rw [e1]
              clear e1
              go_wp2
              go_roundw
              case rel => exact ⟨j, y2, l.set m bb, by omega, rfl, rfl, HY2, HL', HQ', HI', H1.out.other hS1 _ _, H2.out.other hG1 _ _, H4.out.setb m bb (int_eq (by omega)), HB.out.setCell (p := ⟨Z, m, none⟩) (Nat.le_of_lt (by omega)) _⟩
              case measure => (simp [intOf]; try omega)
        · obtain rfl : k = 8 := by omega
          have hlt' : l = toldB hs8 := by
            refine List.ext_getElem? fun q => ?_
            by_cases h : q < 32
            · exact HQ.out q (by omega)
            · rw [List.getElem?_eq_none (by rw [HL.out]; omega), List.getElem?_eq_none (by rw [toldB_length]; omega)]
          have HLB : Hid (shaL b = l) := by show _ = _; rw [hlt']; exact HSH.out
          have HLI : Hid ((Try.prog.info? 23).map (·.size) = some (bva l).size) := by rw [bva_size, HL.out]; exact info33
          clear hlt' HQ R1 R2 R4 RB H2
          go_wp2_with (first
            | (refine wpList_load_row rfl 23 (.tmp 7) rfl Z rfl 23 (bva l) (0, 0) _ H4.out Try.underlying23 rfl HLI.out ?_)
            | (refine wpList_store_row rfl 23 (.tmp 2) (.tmp 53) rfl w.heap.size (bva l) rfl rfl 23 (bva (List.replicate 32 0)) H1.out HLI.out (by rw [bva_size, bva_size, HL.out]; rfl) (bva_one _) ?_))
          exact bodyPost_ret (v := .agg (bva l)) (results_cell_row Try.results41 _ _ w.heap.size 23 (bva l) (0, 0) _ rfl (setRow_heap _ _ _ _ _ _ H1.out) Try.underlying23 rfl HLI.out) rfl ⟨by rw [HLB.out], below_setRow HB.out (Nat.le_refl _) _⟩
end Go.Proofs.Ytobkkbpeoohfkaa
