import Derived.Test.YtobkkbpeoohfkaaChRounds
import Derived.Deep.DrawnRows
namespace Go.Proofs.Ytobkkbpeoohfkaa
open Go.RowKit
attribute [local go_sem ↓] Go.wp_at_zero Go.wp_at_succ
set_option maxHeartbeats 800000 in
theorem crrounds_any (s : List UInt32) (hs : s.length = 16) (w : World) :
    Calls Try.prog 38 #[.agg (uv s)] w (RetB (.agg (uv (rounds s))) w) := by
  go_enter Try.func38, Try.ntmps38
  go_wp2
  go_loopw [3, 4, 5, 6, 7, 8, 9] (fun i _ _ _ _ _ _ wr => ∃ n : Nat, ∃ u : List UInt32, n ≤ 20 ∧ i = .int .i64 n ∧ u.length = 16 ∧ Hid (u = halfs s n) ∧ Two w wr u 64) (fun i _ _ _ _ _ _ _ => 20 - (intOf i).toNat)
  case atStart => exact ⟨0, s, by omega, rfl, hs, rfl, heap_alloc2_old _ _ _, heap_alloc2_new _ _ _, ((Below.refl _ _).alloc (Nat.le_refl _) _).alloc (by simp) _⟩
  case round =>
    obtain ⟨n, s', hn, rfl, hs', HS, ht⟩ := hrel
    by_cases hlt : n < 20
    · obtain ⟨m, hm⟩ : ∃ m : Nat, m = n % 2 := ⟨_, rfl⟩
      have em : (n : Int) % 2 = (m : Int) := by omega
      have lm : m < 2 := by omega
      have HM := Lib.hid hm
      clear hm
      have hd20 : decide ((n : Int) < 20) = true := by simp; omega
      have hcol0 : Cols w wr m s' 0 s' 64 := ⟨hs', rfl, ht⟩
      have HC0 := Lib.hid hcol0
      clear ht hcol0 hs'
      obtain ⟨wo, rfl⟩ : ∃ wo : World, wo = wr := ⟨_, rfl⟩
      go_wp2
      go_loopw [4, 5, 6, 7, 8, 9] (fun i _ _ _ _ _ wr => ∃ k : Nat, ∃ u : List UInt32, k ≤ 4 ∧ i = .int .i64 k ∧ Cols w wr m s' k u 64) (fun i _ _ _ _ _ _ => 4 - (intOf i).toNat)
      case atStart => exact ⟨0, s', by omega, rfl, HC0.out⟩
      case round =>
        clear HC0
        obtain ⟨k, u, hk, rfl, hcol⟩ := hrel
        by_cases hlk : k < 4
        · obtain ⟨b, hb⟩ : ∃ b : Nat, b = 4 + (k + m) % 4 := ⟨_, rfl⟩
          obtain ⟨c, hc⟩ : ∃ c : Nat, c = 8 + (k + 2 * m) % 4 := ⟨_, rfl⟩
          obtain ⟨d, hd⟩ : ∃ d : Nat, d = 12 + (k + 3 * m) % 4 := ⟨_, rfl⟩
          have eb : 4 + ((k : Int) + (m : Int)) % 4 = (b : Int) := by omega
          have ec : 8 + ((k : Int) + 2 * (m : Int)) % 4 = (c : Int) := by omega
          have ed : 12 + ((k : Int) + 3 * (m : Int)) % 4 = (d : Int) := by omega
          have lb : 4 ≤ b ∧ b < 8 := by omega
          have lc : 8 ≤ c ∧ c < 12 := by omega
          have ld : 12 ≤ d ∧ d < 16 := by omega
          have HB := Lib.hid hb
          have HC := Lib.hid hc
          have HD := Lib.hid hd
          obtain ⟨ht, HT, hb1, hb2, hbel⟩ := hcol
          have hf : ∀ j, wr.frozen? ⟨w.heap.size, j, none⟩ = false := fun j => frozen_of_row wr _ j _ _ hb1
          obtain ⟨x0, h0⟩ : ∃ x, x = u.getD k 0 := ⟨_, rfl⟩
          have c0 : wr.cell? ⟨w.heap.size, k, none⟩ = some (.int .u32 (x0.toNat : Int)) := by rw [cell_of_row wr _ _ _ _ _ hb1, uv_get (by omega), h0]
          obtain ⟨x1, h1⟩ : ∃ x, x = u.getD b 0 := ⟨_, rfl⟩
          have c1 : wr.cell? ⟨w.heap.size, b, none⟩ = some (.int .u32 (x1.toNat : Int)) := by rw [cell_of_row wr _ _ _ _ _ hb1, uv_get (by omega), h1]
          obtain ⟨x2, h2⟩ : ∃ x, x = u.getD c 0 := ⟨_, rfl⟩
          have c2 : wr.cell? ⟨w.heap.size, c, none⟩ = some (.int .u32 (x2.toNat : Int)) := by rw [cell_of_row wr _ _ _ _ _ hb1, uv_get (by omega), h2]
          obtain ⟨x3, h3⟩ : ∃ x, x = u.getD d 0 := ⟨_, rfl⟩
          have c3 : wr.cell? ⟨w.heap.size, d, none⟩ = some (.int .u32 (x3.toNat : Int)) := by rw [cell_of_row wr _ _ _ _ _ hb1, uv_get (by omega), h3]
          have Ht := Lib.hid ht
          have HH := Lib.hid hb1
          have HH2 := Lib.hid hb2
          have HU := Lib.hid HT
          have H0 := Lib.hid h0
          have H1 := Lib.hid h1
          have H2 := Lib.hid h2
          have H3 := Lib.hid h3
          clear h0 h1 h2 h3 hb1 hb2 ht hb hc hd HT
          obtain ⟨lb1, lb2⟩ := lb
          obtain ⟨lc1, lc2⟩ := lc
          obtain ⟨ld1, ld2⟩ := ld
          have i0 : (0 : Int) ≤ (k : Int) := by omega
          have i0' : (k : Int) < 16 := by omega
          have i1 : (0 : Int) ≤ (b : Int) := by omega
          have i1' : (b : Int) < 16 := by omega
          have i2 : (0 : Int) ≤ (c : Int) := by omega
          have i2' : (c : Int) < 16 := by omega
          have i3 : (0 : Int) ≤ (d : Int) := by omega
          have i3' : (d : Int) < 16 := by omega
          go_wp2
          refine wp_region_any (by kernel_rfl) ?_
          change wpAny _ _ _ _ _ _ _ (World.drew _)
          refine wpAny_take (i := 0) (v := ?v0) rfl (by kernel_rfl) (by kernel_rfl) (by kernel_rfl) (fun _ _ _ h => h) (Or.inl ⟨by rfl, ?y0⟩) ?_
          case y0 => (intro w'; go_simp; try with_reducible rfl)
          refine wpAny_take (i := 1) (v := ?v1) rfl (by kernel_rfl) (by kernel_rfl) (by kernel_rfl) (fun _ _ _ h => h) (Or.inl ⟨by rfl, ?y1⟩) ?_
          case y1 => (intro w'; go_simp; try with_reducible rfl)
          refine wpAny_take (i := 2) (v := ?v2) rfl (by kernel_rfl) (by kernel_rfl) (by kernel_rfl) (fun _ _ _ h => h) (Or.inl ⟨by rfl, ?y2⟩) ?_
          case y2 => (intro w'; go_simp; try with_reducible rfl)
          refine wpAny_take (i := 3) (v := ?v3) rfl (by kernel_rfl) (by kernel_rfl) (by kernel_rfl) (fun _ _ _ h => h) (Or.inl ⟨by rfl, ?y3⟩) ?_
          case y3 => (intro w'; go_simp; try with_reducible rfl)
          refine wpAny_take (i := 4) (v := ?v4) rfl (by kernel_rfl) (by kernel_rfl) (by kernel_rfl) (fun _ _ _ h => h) (Or.inl ⟨by rfl, ?y4⟩) ?_
          case y4 => (intro w'; go_simp; try with_reducible rfl)
          refine wpAny_take (i := 5) (v := ?v5) rfl (by kernel_rfl) (by kernel_rfl) (by kernel_rfl) (fun _ _ _ h => h) (Or.inl ⟨by rfl, ?y5⟩) ?_
          case y5 => (intro w'; go_simp; try with_reducible rfl)
          refine wpAny_take (i := 7) (v := ?v7) rfl (by kernel_rfl) (by kernel_rfl) (by kernel_rfl) (fun _ _ _ h => h) (Or.inl ⟨by rfl, ?y7⟩) ?_
          case y7 => (intro w'; go_simp; try with_reducible rfl)
          refine wpAny_take (i := 8) (v := ?v8) rfl (by kernel_rfl) (by kernel_rfl) (by kernel_rfl) (fun _ _ _ h => h) (Or.inl ⟨by rfl, ?y8⟩) ?_
          case y8 => (intro w'; go_simp; try with_reducible rfl)
          refine wpAny_take (i := 10) (v := ?v10) rfl (by kernel_rfl) (by kernel_rfl) (by kernel_rfl) (fun _ _ _ h => h) (Or.inl ⟨by rfl, ?y10⟩) ?_
          case y10 => (intro w'; go_simp; try with_reducible rfl)
          refine wpAny_take (i := 11) (v := ?v11) rfl (by kernel_rfl) (by kernel_rfl) (by kernel_rfl) (fun _ _ _ h => h) (Or.inl ⟨by rfl, ?y11⟩) ?_
          case y11 => (intro w'; go_simp; try with_reducible rfl)
          refine wpAny_take (i := 13) (v := ?v13) rfl (by kernel_rfl) (by kernel_rfl) (by kernel_rfl) (fun _ _ _ h => h) (Or.inl ⟨by rfl, ?y13⟩) ?_
          case y13 => (intro w'; go_simp; try with_reducible rfl)
          refine wpAny_take (i := 14) (v := ?v14) rfl (by kernel_rfl) (by kernel_rfl) (by kernel_rfl) (fun _ _ _ h => h) (Or.inl ⟨by rfl, ?y14⟩) ?_
          case y14 => (intro w'; go_simp; try with_reducible rfl)
          refine wpAny_look (i := 6) (v := ?v6) rfl (by kernel_rfl) (by kernel_rfl) (by kernel_rfl) (fun _ _ _ h => h) (by rfl) ?y6 ?_
          case y6 => (go_simp; try with_reducible rfl)
          refine wpAny_look (i := 9) (v := ?v9) rfl (by kernel_rfl) (by kernel_rfl) (by kernel_rfl) (fun _ _ _ h => h) (by rfl) ?y9 ?_
          case y9 => (go_simp; try with_reducible rfl)
          refine wpAny_look (i := 12) (v := ?v12) rfl (by kernel_rfl) (by kernel_rfl) (by kernel_rfl) (fun _ _ _ h => h) (by rfl) ?y12 ?_
          case y12 => (go_simp; try with_reducible rfl)
          refine wpAny_look (i := 15) (v := ?v15) rfl (by kernel_rfl) (by kernel_rfl) (by kernel_rfl) (fun _ _ _ h => h) (by rfl) ?y15 ?_
          case y15 => (go_simp; try with_reducible rfl)
          refine wpAny_ready (rs := [16]) (by kernel_rfl) (by simp) (AllReady.cons rfl (fun K hK => ?_) AllReady.nil)
          go_simp
          refine (rquarter_any x0 x1 x2 x3 _).mono ?_
          rintro e w1 ⟨rfl, rfl⟩
          go_simp
          refine hK _ _ ?_
          clear hK K
          refine wpAny_take (i := 17) (v := ?v17) rfl (by kernel_rfl) (by kernel_rfl) (by kernel_rfl) (fun _ _ _ h => h) (Or.inl ⟨by rfl, ?y17⟩) ?_
          case y17 => (intro w'; go_simp; try with_reducible rfl)
          refine wpAny_take (i := 18) (v := ?v18) rfl (by kernel_rfl) (by kernel_rfl) (by kernel_rfl) (fun _ _ _ h => h) (Or.inl ⟨by rfl, ?y18⟩) ?_
          case y18 => (intro w'; go_simp; try with_reducible rfl)
          refine wpAny_take (i := 19) (v := ?v19) rfl (by kernel_rfl) (by kernel_rfl) (by kernel_rfl) (fun _ _ _ h => h) (Or.inl ⟨by rfl, ?y19⟩) ?_
          case y19 => (intro w'; go_simp; try with_reducible rfl)
          refine wpAny_take (i := 20) (v := ?v20) rfl (by kernel_rfl) (by kernel_rfl) (by kernel_rfl) (fun _ _ _ h => h) (Or.inl ⟨by rfl, ?y20⟩) ?_
          case y20 => (intro w'; go_simp; try with_reducible rfl)
          refine wpAny_take (i := 21) (v := ?v21) rfl (by kernel_rfl) (by kernel_rfl) (by kernel_rfl) (fun _ _ _ h => h) (Or.inl ⟨by rfl, ?y21⟩) ?_
          case y21 => (intro w'; go_simp; try with_reducible rfl)
          refine wpAny_take (i := 22) (v := ?v22) rfl (by kernel_rfl) (by kernel_rfl) (by kernel_rfl) (fun _ _ _ h => h) (Or.inl ⟨by rfl, ?y22⟩) ?_
          case y22 => (intro w'; go_simp; try with_reducible rfl)
          refine wpAny_ready (rs := [23]) (by kernel_rfl) (by simp) (AllReady.cons rfl (fun K hK => ?_) AllReady.nil)
          go_simp
          refine hK _ _ ?_
          clear hK K
          refine wpAny_take (i := 24) (v := ?v24) rfl (by kernel_rfl) (by kernel_rfl) (by kernel_rfl) (fun _ _ _ h => h) (Or.inl ⟨by rfl, ?y24⟩) ?_
          case y24 => (intro w'; go_simp; try with_reducible rfl)
          refine wpAny_ready (rs := [25]) (by kernel_rfl) (by simp) (AllReady.cons rfl (fun K hK => ?_) AllReady.nil)
          go_simp
          refine hK _ _ ?_
          clear hK K
          refine wpAny_take (i := 26) (v := ?v26) rfl (by kernel_rfl) (by kernel_rfl) (by kernel_rfl) (fun _ _ _ h => h) (Or.inl ⟨by rfl, ?y26⟩) ?_
          case y26 => (intro w'; go_simp; try with_reducible rfl)
          refine wpAny_ready (rs := [27]) (by kernel_rfl) (by simp) (AllReady.cons rfl (fun K hK => ?_) AllReady.nil)
          go_simp
          refine hK _ _ ?_
          clear hK K
          refine wpAny_take (i := 28) (v := ?v28) rfl (by kernel_rfl) (by kernel_rfl) (by kernel_rfl) (fun _ _ _ h => h) (Or.inl ⟨by rfl, ?y28⟩) ?_
          case y28 => (intro w'; go_simp; try with_reducible rfl)
          refine wpAny_ready (rs := [29]) (by kernel_rfl) (by simp) (AllReady.cons rfl (fun K hK => ?_) AllReady.nil)
          go_simp
          refine hK _ _ ?_
          clear hK K
          refine wpAny_done (by kernel_rfl) ?_ _
          go_wp2
          go_roundw
          case rel => exact ⟨k + 1, qs u k b c d, by omega, by go_num, ⟨by rw [qs_length, Ht.out], by rw [colsTo, ← HU.out, HB.out, HC.out, HD.out], by rw [heap_drew, heap_set4 HH.out, H0.out, H1.out, H2.out, H3.out]; rfl, by rw [heap_drew, heap_other4 (by omega)]; exact HH2.out, by exact (below_set4 hbel _ _ _ _ _ _ _ _).drew⟩⟩
          case measure => simp [intOf]; omega
        · obtain rfl : k = 4 := by omega
          obtain ⟨hu, HU, htwo⟩ := hcol
          have Hu := Lib.hid hu
          have HU' := Lib.hid HU
          clear hu HU
          go_wp2
          go_roundw
          case rel => exact ⟨n + 1, u, by omega, by go_num, Hu.out, by rw [halfs, ← HS.out, ← HM.out]; exact HU'.out, htwo⟩
          case measure => simp [intOf]; omega
    · obtain rfl : n = 20 := by omega
      have hi : (Try.prog.info? 64).map (·.size) = some (uv s').size := by rw [uv_size, hs']; exact info30
      have Hi := Lib.hid hi
      have Hu := Lib.hid hs'
      clear hi hs'
      obtain ⟨h1, h2, hbel⟩ := ht
      have H1 := Lib.hid h1
      have H2 := Lib.hid h2
      clear h1 h2
      go_wp2_with (first
        | (refine wpList_load_row rfl 64 (.tmp 1) rfl w.heap.size rfl 64 (uv s') (0, 0) _ H1.out Try.underlying64 rfl Hi.out ?_)
        | (refine wpList_store_row rfl 64 (.tmp 2) (.tmp 64) rfl (w.heap.size + 1) (uv s') rfl rfl 64 (uv (List.replicate 16 0)) H2.out Hi.out (by rw [uv_size, uv_size, Hu.out]; rfl) (uv_one s') ?_))
      exact bodyPost_ret (v := .agg (uv s')) (results_cell_row Try.results38 _ _ (w.heap.size + 1) 64 (uv s') (0, 0) _ rfl (setRow_heap _ _ _ _ _ _ H2.out) Try.underlying64 rfl Hi.out) rfl ⟨by rw [HS.out]; show Ending.returned (.agg (uv (halfs s (2 * 10)))) = _; rw [halfs_dbl]; rfl, below_setRow hbel (by omega) _⟩
end Go.Proofs.Ytobkkbpeoohfkaa
