/-
  The law ScrubStale holds: what a device missed while it was out is healed by the other one. For any bytes.
-/
import Derived.Test.YtniamllcoemikaaMz1
import Derived.Laws.MakeOwn
import Derived.OrdersHeld
import Derived.Deep.RegionHeld
import Derived.Test.YtniamllcoemikaaRows
import Derived.ProofKit
import Derived.OpenShut
import Derived.ShutString
import Derived.ChangeOld
namespace Go.Proofs.Ytniamllcoemikaa
open Go.RowKit Kd Mi Sc Go.ChangeShapes Go.WideShapes Go.ChangeAt
attribute [local go_sem ↓] Go.wp_at_zero Go.wp_at_succ
theorem byte_ofU {a : Int} (h : 0 ≤ a ∧ a ≤ 255) : ∃ x : UInt8, a = (x.toNat : Int) := ⟨UInt8.ofNat a.toNat, by rw [UInt8.toNat_ofNat']; omega⟩
theorem wp_makeS {P : Program} {o : Oper} {a : Act} {w w' : World} {K : Act → World → Prop} {Q : Exit → Act → World → Prop} {v : Value} (t : TypeId) (x y : Operand) (ho : o.op = .makeSlice t x y) (h : (Instr.makeSlice t (a.eval x) (a.eval y)).run P w = .ok v w') (hk : K (a.put o.dst v) w') : o.wp P a w K Q := by
  unfold Oper.wp execOp
  simp only [ho, Sem.run_bind, h, Result.andThen_ok, Sem.run_pure]
  exact hk
theorem pairElt : EltN Try.prog 22 54 (.agg #[.int .u8 0, .int .u8 0]) 2 2 := ⟨Try.underlying22, by kernel_rfl, rfl, by omega, by omega⟩
theorem made_pairs : ∀ k, k ≤ 6 → madeCells #[.int .u8 0, .int .u8 0] (k * 2) = (prs (List.replicate k (0, 0))).toArray := fun k hk => by
  rcases (show k = 0 ∨ k = 1 ∨ k = 2 ∨ k = 3 ∨ k = 4 ∨ k = 5 ∨ k = 6 by omega) with rfl | rfl | rfl | rfl | rfl | rfl | rfl <;> kernel_rfl
theorem make_pairs (W : World) (k : Nat) (hk : k ≤ 6) : (Instr.makeSlice 22 (.int .i64 k) (.int .i64 k)).run Try.prog W = .ok (.slice (some ⟨W.heap.size, 0, none⟩) k k) (W.alloc (.cells (prs (List.replicate k (0, 0))).toArray 54)) := by
  obtain ⟨i, hi, hz, hs, hby⟩ := info_parts pairElt.info
  have h := run_makeSlice (P := Try.prog) W 22 54 i _ Try.underlying22 hi hz .i64 .i64 (k : Int) (k : Int) (by omega) (Int.le_refl _) (by rw [hs, Int.toNat_natCast]; omega) (by rw [hby]; omega) (by omega)
  rw [Int.toNat_natCast, hs, show (Value.agg #[.int .u8 0, .int .u8 0]).cells = #[.int .u8 0, .int .u8 0] from rfl, made_pairs k hk] at h
  exact h
theorem zero_pairs (k : Nat) : (List.replicate k ((0 : UInt8), (0 : UInt8))).map sec2 = List.replicate k zeroS := by
  rw [List.map_replicate]; rfl
theorem pair_zeros {W : World} {k q r : Nat} (hk : k ≤ 6) (hq : Blk W q (prs (List.replicate k (0, 0))).toArray 54) (hr : Blk W r (prs (List.replicate k (0, 0))).toArray 54) :
    Calls Try.prog 18 #[.slice (some ⟨q, 0, none⟩) k k, .slice (some ⟨r, 0, none⟩) k k] W (PairR (List.replicate k zeroS) (List.replicate k zeroS) k W) := by
  have hc := pair_any W (Nat.le_refl _) (l := List.replicate k (0, 0)) (r := List.replicate k (0, 0)) (n := k) (m := k) (c := k) (d := k) List.length_replicate List.length_replicate (rd_pairs hq) (rd_pairs hr) (by omega) (by omega)
  rw [Nat.min_self, List.take_of_length_le (by simp), zero_pairs] at hc
  exact hc
theorem cnt_one : ∀ k, k ≤ 6 → ∀ j, j < k → cnt ((List.replicate k false).set j true) = 1 ∧ cnt (((List.replicate k false).set j true).set j false) = 0 ∧ cnt ((List.replicate k false).set j false) = 0 := fun k hk j hj => by
  rcases (show k = 1 ∨ k = 2 ∨ k = 3 ∨ k = 4 ∨ k = 5 ∨ k = 6 by omega) with rfl | rfl | rfl | rfl | rfl | rfl <;>
    rcases (show j = 0 ∨ j = 1 ∨ j = 2 ∨ j = 3 ∨ j = 4 ∨ j = 5 by omega) with rfl | rfl | rfl | rfl | rfl | rfl <;> first | exact ⟨rfl, rfl, rfl⟩ | (exfalso; omega)
def sec7 (a b : UInt8) : List UInt8 := a :: b :: 7 :: List.replicate 125 0
theorem build_sec7 (a b : UInt8) : ∀ W, (Instr.build 37 #[(0, .int .u8 (a.toNat : Int)), (1, .int .u8 (b.toNat : Int)), (2, .int .u8 7)]).run Try.prog W = .ok (.agg (bva (sec7 a b))) W := fun _ => by kernel_rfl
set_option maxRecDepth 100000 in
set_option maxHeartbeats 25600000 in
theorem scrubStale_any (w : World) (a0 : Int) (c0 : 0 ≤ a0 ∧ a0 ≤ 255) (a1 : Int) (c1 : 0 ≤ a1 ∧ a1 ≤ 255) (u : List UInt8) (hu : u.length = 2) : Calls Try.prog 8 #[.int .u8 a0, .int .u8 a1, .agg (bva u)] w (RetB (.bool true) w) := by
  obtain ⟨u0, rfl⟩ := byte_ofU c0
  obtain ⟨u1, rfl⟩ := byte_ofU c1
  clear c0 c1
  obtain ⟨e0, e1, rfl⟩ : ∃ e0 e1, u = [e0, e1] := by
    match u, hu with
    | [a, b], _ => exact ⟨a, b, rfl⟩
  clear hu
  obtain ⟨k6, hk6⟩ : ∃ k6, k6 = u0.toNat % 6 := ⟨_, rfl⟩
  obtain ⟨k, hk⟩ : ∃ k, k = 1 + k6 := ⟨_, rfl⟩
  have h6 : k6 < 6 := by rw [hk6]; exact Nat.mod_lt _ (by omega)
  obtain ⟨j, hj⟩ : ∃ j, j = u1.toNat % k := ⟨_, rfl⟩
  have HK := Lib.hid (show k ≤ 6 ∧ 0 < k by omega)
  have HJ := Lib.hid (show j < k by rw [hj]; exact Nat.mod_lt _ (by omega))
  have wu : IntKind.i64.wrap (u0.toNat : Int) = (u0.toNat : Int) := IntWalk.i64_in _ (by have := UInt8.toNat_lt u0; omega)
  have wv : IntKind.i64.wrap (u1.toNat : Int) = (u1.toNat : Int) := IntWalk.i64_in _ (by have := UInt8.toNat_lt u1; omega)
  have hm6 : ((u0.toNat : Int)).tmod 6 = (k6 : Int) := by rw [hk6, Int.tmod_eq_emod_of_nonneg (by omega)]; omega
  have hm7 : ((u1.toNat : Int)).tmod (k : Int) = (j : Int) := by rw [hj, Int.tmod_eq_emod_of_nonneg (by omega)]; omega
  have wk : IntKind.i64.wrap (1 + (k6 : Int)) = (k : Int) := by rw [show (1 : Int) + (k6 : Int) = (k : Int) by omega]; exact IntWalk.i64_in _ (by omega)
  have hk0 : ¬ (k : Int) = 0 := by omega
  clear hk6 hk hj h6
  obtain ⟨z, hz0⟩ : ∃ z : List UInt8, z = zeroS := ⟨_, rfl⟩
  have hz : ∀ W, (zeroValue 37).run Try.prog W = .ok (.agg (bva z)) W := fun _ => by rw [hz0]; kernel_rfl
  have HZ3 := Lib.hid (show z.length = 128 by rw [hz0]; exact zeroS_length)
  clear hz0
  obtain ⟨y, hy⟩ : ∃ y, y = sec7 e0 e1 := ⟨_, rfl⟩
  have HY3 := Lib.hid (show y.length = 128 by rw [hy]; simp [sec7])
  have HIY : Hid ((Try.prog.info? 37).map (·.size) = some (bva y).size) := by rw [bva_size, HY3.out]; exact info_sec
  have HBY := Lib.hid (show ∀ W, (Instr.build 37 #[(0, .int .u8 (e0.toNat : Int)), (1, .int .u8 (e1.toNat : Int)), (2, .int .u8 7)]).run Try.prog W = .ok (.agg (bva y)) W from by rw [hy]; exact build_sec7 e0 e1)
  clear hy
  obtain ⟨w1, hw1⟩ : ∃ w1, w1 = w.alloc (.cells (bva [e0, e1]) 54) := ⟨_, rfl⟩
  have B1 := Lib.hid (show Below w.heap.size w w1 by rw [hw1]; exact (Below.refl _ _).alloc (Nat.le_refl _) _)
  have X1 := Lib.hid (show Blk w1 w.heap.size (bva [e0, e1]) 54 by rw [hw1]; exact heap_alloc_new _ _)
  go_enter Try.func8, Try.ntmps8
  go_upto_region 1 with fail
  rw [← hw1]
  clear hw1
  obtain ⟨q, hq⟩ : ∃ q, q = w.heap.size := ⟨_, rfl⟩
  rw [← hq] at X1
  rw [← hq]
  clear hq
  go_wp2_with fail
  refine (Sc.awake_any w1).mono ?_
  rintro e w2 ⟨rfl, bw⟩
  have B2 := Lib.hid (B1.out.trans (bw.mono B1.out.size))
  have X2 := Lib.hid (X1.out.below bw)
  clear bw B1 X1
  go_upto_region 4 with fail
  go_cut [8, 9, 10, 11] (fun a8 a9 a10 a11 wx => ∃ pw g1 g2 g b s F, a8 = .pointer (some ⟨g1, 0, none⟩) ∧ a9 = .pointer (some ⟨g2, 0, none⟩) ∧ a10 = .pointer (some ⟨g, 0, none⟩) ∧ a11 = .pointer (some ⟨b, 0, none⟩) ∧ Mu.LM pw g1 g2 gG g w2 wx s F (zerosM k) 0)
  case first =>
    go_wp2_with fail
    refine wp_region_held_drew (S := fun w' => Below w2.heap.size w2 w') (by kernel_rfl) (Below.refl _ _).drew (fun hh => ?_)
    have HH := Lib.hid hh
    clear hh
    refine wpAnyH_take (i := 0) (v := ?vR0) rfl (by kernel_rfl) (by kernel_rfl) (by kernel_rfl) (fun _ _ _ h => h) (Or.inl ⟨by rfl, fun w' _ => ?yR0⟩) HH.out ?_
    case yR0 => (go_simp; try with_reducible rfl)
    refine wpAnyH_take (i := 2) (v := ?vR2) rfl (by kernel_rfl) (by kernel_rfl) (by kernel_rfl) (fun _ _ _ h => h) (Or.inl ⟨by rfl, fun w' _ => ?yR2⟩) HH.out ?_
    case yR2 => (go_simp; try with_reducible rfl)
    try simp only [List.getElem_toArray, List.getElem_cons_succ, List.getElem_cons_zero, Act.put, List.setIfInBounds_toArray, List.set_cons_zero, List.set_cons_succ]
    obtain ⟨wq, hwq⟩ : ∃ wq, wq = w2.drew := ⟨_, rfl⟩
    have BQ := Lib.hid (show Below w2.heap.size w2 wq by rw [hwq]; exact (Below.refl _ _).drew)
    rw [← hwq]
    clear HH hwq
    have HH := Lib.hid BQ.out
    refine wpAnyH_ready (rs := [1, 3, 10]) (by kernel_rfl) (by simp) (AllReadyH.cons rfl (fun K hK => ?_) (AllReadyH.cons rfl (fun K hK => ?_) (AllReadyH.cons rfl (fun K hK => ?_) AllReadyH.nil)))
    · rw [if_pos (by rfl)]
      refine wp_makeS 22 (.tmp 30) (.tmp 30) rfl (make_pairs wq k HK.out.1) ?_
      change K _ (wq.alloc (.cells (prs (List.replicate k (0, 0))).toArray 54))
      have bw : Below wq.heap.size wq (wq.alloc (.cells (prs (List.replicate k (0, 0))).toArray 54)) := (Below.refl _ _).alloc (Nat.le_refl _) _
      have hn : Blk (wq.alloc (.cells (prs (List.replicate k (0, 0))).toArray 54)) wq.heap.size (prs (List.replicate k (0, 0))).toArray 54 := heap_alloc_new _ _
      obtain ⟨z1, hz1⟩ : ∃ z1, z1 = wq.alloc (.cells (prs (List.replicate k (0, 0))).toArray 54) := ⟨_, rfl⟩
      rw [← hz1] at bw hn
      rw [← hz1]
      have BB1 := Lib.hid (BQ.out.trans (bw.mono BQ.out.size))
      obtain ⟨bP, hbP⟩ : ∃ bP, bP = wq.heap.size := ⟨_, rfl⟩
      rw [← hbP] at hn
      rw [← hbP]
      have P1 := Lib.hid hn
      refine hK.out _ _ BB1.out (fun hh => ?_)
      have HH' := Lib.hid hh
      clear hh hK K HH hn bw hz1 hbP 
      have HH := Lib.hid HH'.out
      clear HH'
      try simp only [List.getElem_toArray, List.getElem_cons_succ, List.getElem_cons_zero, Act.put, List.setIfInBounds_toArray, List.set_cons_zero, List.set_cons_succ]
      refine wpAnyH_ready (rs := [3, 10]) (by kernel_rfl) (by simp) (AllReadyH.cons rfl (fun K hK => ?_) (AllReadyH.cons rfl (fun K hK => ?_) AllReadyH.nil))
      · rw [if_pos (by rfl)]
        refine wp_makeS 22 (.tmp 32) (.tmp 32) rfl (make_pairs z1 k HK.out.1) ?_
        change K _ (z1.alloc (.cells (prs (List.replicate k (0, 0))).toArray 54))
        have bw : Below z1.heap.size z1 (z1.alloc (.cells (prs (List.replicate k (0, 0))).toArray 54)) := (Below.refl _ _).alloc (Nat.le_refl _) _
        have hn : Blk (z1.alloc (.cells (prs (List.replicate k (0, 0))).toArray 54)) z1.heap.size (prs (List.replicate k (0, 0))).toArray 54 := heap_alloc_new _ _
        obtain ⟨z2, hz2⟩ : ∃ z2, z2 = z1.alloc (.cells (prs (List.replicate k (0, 0))).toArray 54) := ⟨_, rfl⟩
        rw [← hz2] at bw hn
        rw [← hz2]
        have BB2 := Lib.hid (BB1.out.trans (bw.mono BB1.out.size))
        have P2 := Lib.hid (P1.out.below bw)
        obtain ⟨bQ, hbQ⟩ : ∃ bQ, bQ = z1.heap.size := ⟨_, rfl⟩
        rw [← hbQ] at hn
        rw [← hbQ]
        have Q2 := Lib.hid hn
        refine hK.out _ _ BB2.out (fun hh => ?_)
        have HH' := Lib.hid hh
        clear hh hK K HH hn bw hz2 hbQ P1
        have HH := Lib.hid HH'.out
        clear HH'
        try simp only [List.getElem_toArray, List.getElem_cons_succ, List.getElem_cons_zero, Act.put, List.setIfInBounds_toArray, List.set_cons_zero, List.set_cons_succ]
        refine wpAnyH_ready (rs := [4, 10]) (by kernel_rfl) (by simp) (AllReadyH.cons rfl (fun K hK => ?_) (AllReadyH.cons rfl (fun K hK => ?_) AllReadyH.nil))
        · go_simp
          refine (pair_zeros HK.out.1 P2.out Q2.out).mono ?_
          rintro e z3 ⟨pw, g1, g2, g, s3, F3, U, V, cu, cv, rfl, hlm, _, _⟩
          have BB3 := Lib.hid (BB2.out.trans (hlm.live.bel.mono BB2.out.size))
          have H3 := Lib.hid (show Mu.LM pw g1 g2 gG g w2 z3 s3 F3 (zerosM k) 0 from ⟨⟨hlm.live.at_, fun q hq => Nat.le_trans BB2.out.size (hlm.live.new q hq), BB3.out⟩, hlm.sees, hlm.dry⟩)
          go_simp
          refine hK.out _ _ BB3.out (fun hh => ?_)
          have HH' := Lib.hid hh
          clear hh hK K HH hlm 
          have HH := Lib.hid HH'.out
          clear HH'
          try simp only [List.getElem_toArray, List.getElem_cons_succ, List.getElem_cons_zero, Act.put, List.setIfInBounds_toArray, List.set_cons_zero, List.set_cons_succ]
          refine wpAnyH_take (i := 5) (v := ?vS5x1) rfl (by kernel_rfl) (by kernel_rfl) (by kernel_rfl) (fun _ _ _ h => h) (Or.inl ⟨by rfl, fun w' _ => ?yS5x1⟩) HH.out ?_
          case yS5x1 => (go_simp; try with_reducible rfl)
          refine wpAnyH_take (i := 6) (v := ?vS6x2) rfl (by kernel_rfl) (by kernel_rfl) (by kernel_rfl) (fun _ _ _ h => h) (Or.inl ⟨by rfl, fun w' _ => ?yS6x2⟩) HH.out ?_
          case yS6x2 => (go_simp; try with_reducible rfl)
          refine wpAnyH_take (i := 7) (v := ?vS7x3) rfl (by kernel_rfl) (by kernel_rfl) (by kernel_rfl) (fun _ _ _ h => h) (Or.inl ⟨by rfl, fun w' _ => ?yS7x3⟩) HH.out ?_
          case yS7x3 => (go_simp; try with_reducible rfl)
          refine wpAnyH_take (i := 8) (v := ?vS8x4) rfl (by kernel_rfl) (by kernel_rfl) (by kernel_rfl) (fun _ _ _ h => h) (Or.inl ⟨by rfl, fun w' _ => ?yS8x4⟩) HH.out ?_
          case yS8x4 => (go_simp; try with_reducible rfl)
          refine wpAnyH_take (i := 9) (v := ?vS9x5) rfl (by kernel_rfl) (by kernel_rfl) (by kernel_rfl) (fun _ _ _ h => h) (Or.inl ⟨by rfl, fun w' _ => ?yS9x5⟩) HH.out ?_
          case yS9x5 => (go_simp; try with_reducible rfl)
          try simp only [List.getElem_toArray, List.getElem_cons_succ, List.getElem_cons_zero, Act.put, List.setIfInBounds_toArray, List.set_cons_zero, List.set_cons_succ]
          refine wpAnyH_ready (rs := [10]) (by kernel_rfl) (by simp) (AllReadyH.cons rfl (fun K hK => ?_) AllReadyH.nil)
          go_simp
          have bw : Below z3.heap.size z3 (z3.alloc (.cells #[.slice none 0 0, .slice none 0 0] 27)) := (Below.refl _ _).alloc (Nat.le_refl _) _
          have hn : Blk (z3.alloc (.cells #[.slice none 0 0, .slice none 0 0] 27)) z3.heap.size #[.slice none 0 0, .slice none 0 0] 27 := heap_alloc_new _ _
          have NF := Lib.hid (show ¬ F3 z3.heap.size from fun hf => by have := (ML (Mu.one pw g1 g2) gG g).lt H3.out.live.at_ _ hf; omega)
          have SB := Lib.hid (show w2.heap.size ≤ z3.heap.size from BB3.out.size)
          obtain ⟨z4, hz4⟩ : ∃ z4, z4 = z3.alloc (.cells #[.slice none 0 0, .slice none 0 0] 27) := ⟨_, rfl⟩
          rw [← hz4] at bw hn
          rw [← hz4]
          have BB4 := Lib.hid (BB3.out.trans (bw.mono BB3.out.size))
          have H4 := Lib.hid (H3.out.below bw)
          obtain ⟨bX, hbX⟩ : ∃ bX, bX = z3.heap.size := ⟨_, rfl⟩
          rw [← hbX] at hn SB NF
          rw [← hbX]
          have X4 := Lib.hid hn
          refine hK.out _ _ BB4.out (fun hh => ?_)
          have HH' := Lib.hid hh
          clear hh hK K HH hn bw hz4 hbX H3
          have HH := Lib.hid HH'.out
          clear HH'
          try simp only [List.getElem_toArray, List.getElem_cons_succ, List.getElem_cons_zero, Act.put, List.setIfInBounds_toArray, List.set_cons_zero, List.set_cons_succ]
          refine wpAnyH_take (i := 11) (v := ?vS11x6) rfl (by kernel_rfl) (by kernel_rfl) (by kernel_rfl) (fun _ _ _ h => h) (Or.inl ⟨by rfl, fun w' _ => ?yS11x6⟩) HH.out ?_
          case yS11x6 => (go_simp; try with_reducible rfl)
          refine wpAnyH_take (i := 12) (v := ?vS12x7) rfl (by kernel_rfl) (by kernel_rfl) (by kernel_rfl) (fun _ _ _ h => h) (Or.inl ⟨by rfl, fun w' _ => ?yS12x7⟩) HH.out ?_
          case yS12x7 => (go_simp; try with_reducible rfl)
          refine wpAnyH_take (i := 13) (v := ?vS13x8) rfl (by kernel_rfl) (by kernel_rfl) (by kernel_rfl) (fun _ _ _ h => h) (Or.inl ⟨by rfl, fun w' _ => ?yS13x8⟩) HH.out ?_
          case yS13x8 => (go_simp; try with_reducible rfl)
          try simp only [List.getElem_toArray, List.getElem_cons_succ, List.getElem_cons_zero, Act.put, List.setIfInBounds_toArray, List.set_cons_zero, List.set_cons_succ]
          refine wpAnyH_ready (rs := [14]) (by kernel_rfl) (by simp) (AllReadyH.cons rfl (fun K hK => ?_) AllReadyH.nil)
          rw [if_pos (by rfl)]
          refine wp_store_row 27 (.tmp 11) (.tmp 38) rfl bX #[.slice U k cu, .slice V k cv] rfl rfl 27 #[.slice none 0 0, .slice none 0 0] X4.out secsAV_info rfl (by simp [Value.oneCell']) ?_
          have hb9 : But (fun y => y = bX) z4 (z4.setRow bX #[.slice U k cu, .slice V k cv]) := (But.refl _).setRow (S := fun y => y = bX) (.inl rfl) _
          have LF := Lib.hid (show Mu.LM pw g1 g2 gG g w2 (z4.setRow bX #[.slice U k cu, .slice V k cv]) s3 F3 (zerosM k) 0 from ⟨⟨(ML (Mu.one pw g1 g2) gG g).but H4.out.live.at_ hb9 (fun q hq e => NF.out (e ▸ hq)), H4.out.live.new, H4.out.live.bel.trans (hb9.below (fun t ht e => by have := SB.out; omega) H4.out.live.bel.size)⟩, H4.out.sees, H4.out.dry⟩)
          refine hK.out _ _ LF.out.live.bel (fun hh => ?_)
          clear hh hK K hb9 HH
          refine wpAnyH_done (by kernel_rfl) ?_ _
          go_wp2_with fail
          go_meet
          exact ⟨pw, g1, g2, g, bX, s3, F3, rfl, rfl, rfl, rfl, LF.out⟩
        · go_simp
          have bw : Below z2.heap.size z2 (z2.alloc (.cells #[.slice none 0 0, .slice none 0 0] 27)) := (Below.refl _ _).alloc (Nat.le_refl _) _
          have hn : Blk (z2.alloc (.cells #[.slice none 0 0, .slice none 0 0] 27)) z2.heap.size #[.slice none 0 0, .slice none 0 0] 27 := heap_alloc_new _ _
          have SB := Lib.hid (show w2.heap.size ≤ z2.heap.size from BB2.out.size)
          obtain ⟨z5, hz5⟩ : ∃ z5, z5 = z2.alloc (.cells #[.slice none 0 0, .slice none 0 0] 27) := ⟨_, rfl⟩
          rw [← hz5] at bw hn
          rw [← hz5]
          have BB5 := Lib.hid (BB2.out.trans (bw.mono BB2.out.size))
          have P5 := Lib.hid (P2.out.below bw)
          have Q5 := Lib.hid (Q2.out.below bw)
          obtain ⟨bX, hbX⟩ : ∃ bX, bX = z2.heap.size := ⟨_, rfl⟩
          rw [← hbX] at hn SB
          rw [← hbX]
          have X5 := Lib.hid hn
          refine hK.out _ _ BB5.out (fun hh => ?_)
          have HH' := Lib.hid hh
          clear hh hK K HH hn bw hz5 hbX P2 Q2
          have HH := Lib.hid HH'.out
          clear HH'
          try simp only [List.getElem_toArray, List.getElem_cons_succ, List.getElem_cons_zero, Act.put, List.setIfInBounds_toArray, List.set_cons_zero, List.set_cons_succ]
          refine wpAnyH_ready (rs := [4]) (by kernel_rfl) (by simp) (AllReadyH.cons rfl (fun K hK => ?_) AllReadyH.nil)
          go_simp
          refine (pair_zeros HK.out.1 P5.out Q5.out).mono ?_
          rintro e z6 ⟨pw, g1, g2, g, s6, F6, U, V, cu, cv, rfl, hlm, _, _⟩
          have BB6 := Lib.hid (BB5.out.trans (hlm.live.bel.mono BB5.out.size))
          have NF := Lib.hid (show ¬ F6 bX from fun hf => by have h1 := hlm.live.new bX hf; have := X5.out.lt; omega)
          have X6 := Lib.hid (X5.out.below hlm.live.bel)
          have H6 := Lib.hid (show Mu.LM pw g1 g2 gG g w2 z6 s6 F6 (zerosM k) 0 from ⟨⟨hlm.live.at_, fun q hq => Nat.le_trans BB5.out.size (hlm.live.new q hq), BB6.out⟩, hlm.sees, hlm.dry⟩)
          go_simp
          refine hK.out _ _ BB6.out (fun hh => ?_)
          have HH' := Lib.hid hh
          clear hh hK K HH hlm X5
          have HH := Lib.hid HH'.out
          clear HH'
          try simp only [List.getElem_toArray, List.getElem_cons_succ, List.getElem_cons_zero, Act.put, List.setIfInBounds_toArray, List.set_cons_zero, List.set_cons_succ]
          refine wpAnyH_take (i := 5) (v := ?vS5x9) rfl (by kernel_rfl) (by kernel_rfl) (by kernel_rfl) (fun _ _ _ h => h) (Or.inl ⟨by rfl, fun w' _ => ?yS5x9⟩) HH.out ?_
          case yS5x9 => (go_simp; try with_reducible rfl)
          refine wpAnyH_take (i := 6) (v := ?vS6x10) rfl (by kernel_rfl) (by kernel_rfl) (by kernel_rfl) (fun _ _ _ h => h) (Or.inl ⟨by rfl, fun w' _ => ?yS6x10⟩) HH.out ?_
          case yS6x10 => (go_simp; try with_reducible rfl)
          refine wpAnyH_take (i := 7) (v := ?vS7x11) rfl (by kernel_rfl) (by kernel_rfl) (by kernel_rfl) (fun _ _ _ h => h) (Or.inl ⟨by rfl, fun w' _ => ?yS7x11⟩) HH.out ?_
          case yS7x11 => (go_simp; try with_reducible rfl)
          refine wpAnyH_take (i := 8) (v := ?vS8x12) rfl (by kernel_rfl) (by kernel_rfl) (by kernel_rfl) (fun _ _ _ h => h) (Or.inl ⟨by rfl, fun w' _ => ?yS8x12⟩) HH.out ?_
          case yS8x12 => (go_simp; try with_reducible rfl)
          refine wpAnyH_take (i := 9) (v := ?vS9x13) rfl (by kernel_rfl) (by kernel_rfl) (by kernel_rfl) (fun _ _ _ h => h) (Or.inl ⟨by rfl, fun w' _ => ?yS9x13⟩) HH.out ?_
          case yS9x13 => (go_simp; try with_reducible rfl)
          try simp only [List.getElem_toArray, List.getElem_cons_succ, List.getElem_cons_zero, Act.put, List.setIfInBounds_toArray, List.set_cons_zero, List.set_cons_succ]
          refine wpAnyH_take (i := 11) (v := ?vS11x14) rfl (by kernel_rfl) (by kernel_rfl) (by kernel_rfl) (fun _ _ _ h => h) (Or.inl ⟨by rfl, fun w' _ => ?yS11x14⟩) HH.out ?_
          case yS11x14 => (go_simp; try with_reducible rfl)
          refine wpAnyH_take (i := 12) (v := ?vS12x15) rfl (by kernel_rfl) (by kernel_rfl) (by kernel_rfl) (fun _ _ _ h => h) (Or.inl ⟨by rfl, fun w' _ => ?yS12x15⟩) HH.out ?_
          case yS12x15 => (go_simp; try with_reducible rfl)
          refine wpAnyH_take (i := 13) (v := ?vS13x16) rfl (by kernel_rfl) (by kernel_rfl) (by kernel_rfl) (fun _ _ _ h => h) (Or.inl ⟨by rfl, fun w' _ => ?yS13x16⟩) HH.out ?_
          case yS13x16 => (go_simp; try with_reducible rfl)
          try simp only [List.getElem_toArray, List.getElem_cons_succ, List.getElem_cons_zero, Act.put, List.setIfInBounds_toArray, List.set_cons_zero, List.set_cons_succ]
          refine wpAnyH_ready (rs := [14]) (by kernel_rfl) (by simp) (AllReadyH.cons rfl (fun K hK => ?_) AllReadyH.nil)
          rw [if_pos (by rfl)]
          refine wp_store_row 27 (.tmp 11) (.tmp 38) rfl bX #[.slice U k cu, .slice V k cv] rfl rfl 27 #[.slice none 0 0, .slice none 0 0] X6.out secsAV_info rfl (by simp [Value.oneCell']) ?_
          have hb9 : But (fun y => y = bX) z6 (z6.setRow bX #[.slice U k cu, .slice V k cv]) := (But.refl _).setRow (S := fun y => y = bX) (.inl rfl) _
          have LF := Lib.hid (show Mu.LM pw g1 g2 gG g w2 (z6.setRow bX #[.slice U k cu, .slice V k cv]) s6 F6 (zerosM k) 0 from ⟨⟨(ML (Mu.one pw g1 g2) gG g).but H6.out.live.at_ hb9 (fun q hq e => NF.out (e ▸ hq)), H6.out.live.new, H6.out.live.bel.trans (hb9.below (fun t ht e => by have := SB.out; omega) H6.out.live.bel.size)⟩, H6.out.sees, H6.out.dry⟩)
          refine hK.out _ _ LF.out.live.bel (fun hh => ?_)
          clear hh hK K hb9 HH
          refine wpAnyH_done (by kernel_rfl) ?_ _
          go_wp2_with fail
          go_meet
          exact ⟨pw, g1, g2, g, bX, s6, F6, rfl, rfl, rfl, rfl, LF.out⟩
      · go_simp
        have bw : Below z1.heap.size z1 (z1.alloc (.cells #[.slice none 0 0, .slice none 0 0] 27)) := (Below.refl _ _).alloc (Nat.le_refl _) _
        have hn : Blk (z1.alloc (.cells #[.slice none 0 0, .slice none 0 0] 27)) z1.heap.size #[.slice none 0 0, .slice none 0 0] 27 := heap_alloc_new _ _
        have SB := Lib.hid (show w2.heap.size ≤ z1.heap.size from BB1.out.size)
        obtain ⟨z7, hz7⟩ : ∃ z7, z7 = z1.alloc (.cells #[.slice none 0 0, .slice none 0 0] 27) := ⟨_, rfl⟩
        rw [← hz7] at bw hn
        rw [← hz7]
        have BB7 := Lib.hid (BB1.out.trans (bw.mono BB1.out.size))
        have P7 := Lib.hid (P1.out.below bw)
        obtain ⟨bX, hbX⟩ : ∃ bX, bX = z1.heap.size := ⟨_, rfl⟩
        rw [← hbX] at hn SB
        rw [← hbX]
        have X7 := Lib.hid hn
        refine hK.out _ _ BB7.out (fun hh => ?_)
        have HH' := Lib.hid hh
        clear hh hK K HH hn bw hz7 hbX P1
        have HH := Lib.hid HH'.out
        clear HH'
        try simp only [List.getElem_toArray, List.getElem_cons_succ, List.getElem_cons_zero, Act.put, List.setIfInBounds_toArray, List.set_cons_zero, List.set_cons_succ]
        refine wpAnyH_ready (rs := [3]) (by kernel_rfl) (by simp) (AllReadyH.cons rfl (fun K hK => ?_) AllReadyH.nil)
        rw [if_pos (by rfl)]
        refine wp_makeS 22 (.tmp 32) (.tmp 32) rfl (make_pairs z7 k HK.out.1) ?_
        change K _ (z7.alloc (.cells (prs (List.replicate k (0, 0))).toArray 54))
        have bw : Below z7.heap.size z7 (z7.alloc (.cells (prs (List.replicate k (0, 0))).toArray 54)) := (Below.refl _ _).alloc (Nat.le_refl _) _
        have hn : Blk (z7.alloc (.cells (prs (List.replicate k (0, 0))).toArray 54)) z7.heap.size (prs (List.replicate k (0, 0))).toArray 54 := heap_alloc_new _ _
        obtain ⟨z8, hz8⟩ : ∃ z8, z8 = z7.alloc (.cells (prs (List.replicate k (0, 0))).toArray 54) := ⟨_, rfl⟩
        rw [← hz8] at bw hn
        rw [← hz8]
        have BB8 := Lib.hid (BB7.out.trans (bw.mono BB7.out.size))
        have P8 := Lib.hid (P7.out.below bw)
        have X8 := Lib.hid (X7.out.below bw)
        obtain ⟨bQ, hbQ⟩ : ∃ bQ, bQ = z7.heap.size := ⟨_, rfl⟩
        rw [← hbQ] at hn
        rw [← hbQ]
        have Q8 := Lib.hid hn
        refine hK.out _ _ BB8.out (fun hh => ?_)
        have HH' := Lib.hid hh
        clear hh hK K HH hn bw hz8 hbQ P7 X7
        have HH := Lib.hid HH'.out
        clear HH'
        try simp only [List.getElem_toArray, List.getElem_cons_succ, List.getElem_cons_zero, Act.put, List.setIfInBounds_toArray, List.set_cons_zero, List.set_cons_succ]
        refine wpAnyH_ready (rs := [4]) (by kernel_rfl) (by simp) (AllReadyH.cons rfl (fun K hK => ?_) AllReadyH.nil)
        go_simp
        refine (pair_zeros HK.out.1 P8.out Q8.out).mono ?_
        rintro e z9 ⟨pw, g1, g2, g, s9, F9, U, V, cu, cv, rfl, hlm, _, _⟩
        have BB9 := Lib.hid (BB8.out.trans (hlm.live.bel.mono BB8.out.size))
        have NF := Lib.hid (show ¬ F9 bX from fun hf => by have h1 := hlm.live.new bX hf; have := X8.out.lt; omega)
        have X9 := Lib.hid (X8.out.below hlm.live.bel)
        have H9 := Lib.hid (show Mu.LM pw g1 g2 gG g w2 z9 s9 F9 (zerosM k) 0 from ⟨⟨hlm.live.at_, fun q hq => Nat.le_trans BB8.out.size (hlm.live.new q hq), BB9.out⟩, hlm.sees, hlm.dry⟩)
        go_simp
        refine hK.out _ _ BB9.out (fun hh => ?_)
        have HH' := Lib.hid hh
        clear hh hK K HH hlm X8
        have HH := Lib.hid HH'.out
        clear HH'
        try simp only [List.getElem_toArray, List.getElem_cons_succ, List.getElem_cons_zero, Act.put, List.setIfInBounds_toArray, List.set_cons_zero, List.set_cons_succ]
        refine wpAnyH_take (i := 5) (v := ?vS5x17) rfl (by kernel_rfl) (by kernel_rfl) (by kernel_rfl) (fun _ _ _ h => h) (Or.inl ⟨by rfl, fun w' _ => ?yS5x17⟩) HH.out ?_
        case yS5x17 => (go_simp; try with_reducible rfl)
        refine wpAnyH_take (i := 6) (v := ?vS6x18) rfl (by kernel_rfl) (by kernel_rfl) (by kernel_rfl) (fun _ _ _ h => h) (Or.inl ⟨by rfl, fun w' _ => ?yS6x18⟩) HH.out ?_
        case yS6x18 => (go_simp; try with_reducible rfl)
        refine wpAnyH_take (i := 7) (v := ?vS7x19) rfl (by kernel_rfl) (by kernel_rfl) (by kernel_rfl) (fun _ _ _ h => h) (Or.inl ⟨by rfl, fun w' _ => ?yS7x19⟩) HH.out ?_
        case yS7x19 => (go_simp; try with_reducible rfl)
        refine wpAnyH_take (i := 8) (v := ?vS8x20) rfl (by kernel_rfl) (by kernel_rfl) (by kernel_rfl) (fun _ _ _ h => h) (Or.inl ⟨by rfl, fun w' _ => ?yS8x20⟩) HH.out ?_
        case yS8x20 => (go_simp; try with_reducible rfl)
        refine wpAnyH_take (i := 9) (v := ?vS9x21) rfl (by kernel_rfl) (by kernel_rfl) (by kernel_rfl) (fun _ _ _ h => h) (Or.inl ⟨by rfl, fun w' _ => ?yS9x21⟩) HH.out ?_
        case yS9x21 => (go_simp; try with_reducible rfl)
        try simp only [List.getElem_toArray, List.getElem_cons_succ, List.getElem_cons_zero, Act.put, List.setIfInBounds_toArray, List.set_cons_zero, List.set_cons_succ]
        refine wpAnyH_take (i := 11) (v := ?vS11x22) rfl (by kernel_rfl) (by kernel_rfl) (by kernel_rfl) (fun _ _ _ h => h) (Or.inl ⟨by rfl, fun w' _ => ?yS11x22⟩) HH.out ?_
        case yS11x22 => (go_simp; try with_reducible rfl)
        refine wpAnyH_take (i := 12) (v := ?vS12x23) rfl (by kernel_rfl) (by kernel_rfl) (by kernel_rfl) (fun _ _ _ h => h) (Or.inl ⟨by rfl, fun w' _ => ?yS12x23⟩) HH.out ?_
        case yS12x23 => (go_simp; try with_reducible rfl)
        refine wpAnyH_take (i := 13) (v := ?vS13x24) rfl (by kernel_rfl) (by kernel_rfl) (by kernel_rfl) (fun _ _ _ h => h) (Or.inl ⟨by rfl, fun w' _ => ?yS13x24⟩) HH.out ?_
        case yS13x24 => (go_simp; try with_reducible rfl)
        try simp only [List.getElem_toArray, List.getElem_cons_succ, List.getElem_cons_zero, Act.put, List.setIfInBounds_toArray, List.set_cons_zero, List.set_cons_succ]
        refine wpAnyH_ready (rs := [14]) (by kernel_rfl) (by simp) (AllReadyH.cons rfl (fun K hK => ?_) AllReadyH.nil)
        rw [if_pos (by rfl)]
        refine wp_store_row 27 (.tmp 11) (.tmp 38) rfl bX #[.slice U k cu, .slice V k cv] rfl rfl 27 #[.slice none 0 0, .slice none 0 0] X9.out secsAV_info rfl (by simp [Value.oneCell']) ?_
        have hb9 : But (fun y => y = bX) z9 (z9.setRow bX #[.slice U k cu, .slice V k cv]) := (But.refl _).setRow (S := fun y => y = bX) (.inl rfl) _
        have LF := Lib.hid (show Mu.LM pw g1 g2 gG g w2 (z9.setRow bX #[.slice U k cu, .slice V k cv]) s9 F9 (zerosM k) 0 from ⟨⟨(ML (Mu.one pw g1 g2) gG g).but H9.out.live.at_ hb9 (fun q hq e => NF.out (e ▸ hq)), H9.out.live.new, H9.out.live.bel.trans (hb9.below (fun t ht e => by have := SB.out; omega) H9.out.live.bel.size)⟩, H9.out.sees, H9.out.dry⟩)
        refine hK.out _ _ LF.out.live.bel (fun hh => ?_)
        clear hh hK K hb9 HH
        refine wpAnyH_done (by kernel_rfl) ?_ _
        go_wp2_with fail
        go_meet
        exact ⟨pw, g1, g2, g, bX, s9, F9, rfl, rfl, rfl, rfl, LF.out⟩
    · rw [if_pos (by rfl)]
      refine wp_makeS 22 (.tmp 32) (.tmp 32) rfl (make_pairs wq k HK.out.1) ?_
      change K _ (wq.alloc (.cells (prs (List.replicate k (0, 0))).toArray 54))
      have bw : Below wq.heap.size wq (wq.alloc (.cells (prs (List.replicate k (0, 0))).toArray 54)) := (Below.refl _ _).alloc (Nat.le_refl _) _
      have hn : Blk (wq.alloc (.cells (prs (List.replicate k (0, 0))).toArray 54)) wq.heap.size (prs (List.replicate k (0, 0))).toArray 54 := heap_alloc_new _ _
      obtain ⟨z10, hz10⟩ : ∃ z10, z10 = wq.alloc (.cells (prs (List.replicate k (0, 0))).toArray 54) := ⟨_, rfl⟩
      rw [← hz10] at bw hn
      rw [← hz10]
      have BB10 := Lib.hid (BQ.out.trans (bw.mono BQ.out.size))
      obtain ⟨bQ, hbQ⟩ : ∃ bQ, bQ = wq.heap.size := ⟨_, rfl⟩
      rw [← hbQ] at hn
      rw [← hbQ]
      have Q10 := Lib.hid hn
      refine hK.out _ _ BB10.out (fun hh => ?_)
      have HH' := Lib.hid hh
      clear hh hK K HH hn bw hz10 hbQ 
      have HH := Lib.hid HH'.out
      clear HH'
      try simp only [List.getElem_toArray, List.getElem_cons_succ, List.getElem_cons_zero, Act.put, List.setIfInBounds_toArray, List.set_cons_zero, List.set_cons_succ]
      refine wpAnyH_ready (rs := [1, 10]) (by kernel_rfl) (by simp) (AllReadyH.cons rfl (fun K hK => ?_) (AllReadyH.cons rfl (fun K hK => ?_) AllReadyH.nil))
      · rw [if_pos (by rfl)]
        refine wp_makeS 22 (.tmp 30) (.tmp 30) rfl (make_pairs z10 k HK.out.1) ?_
        change K _ (z10.alloc (.cells (prs (List.replicate k (0, 0))).toArray 54))
        have bw : Below z10.heap.size z10 (z10.alloc (.cells (prs (List.replicate k (0, 0))).toArray 54)) := (Below.refl _ _).alloc (Nat.le_refl _) _
        have hn : Blk (z10.alloc (.cells (prs (List.replicate k (0, 0))).toArray 54)) z10.heap.size (prs (List.replicate k (0, 0))).toArray 54 := heap_alloc_new _ _
        obtain ⟨z11, hz11⟩ : ∃ z11, z11 = z10.alloc (.cells (prs (List.replicate k (0, 0))).toArray 54) := ⟨_, rfl⟩
        rw [← hz11] at bw hn
        rw [← hz11]
        have BB11 := Lib.hid (BB10.out.trans (bw.mono BB10.out.size))
        have Q11 := Lib.hid (Q10.out.below bw)
        obtain ⟨bP, hbP⟩ : ∃ bP, bP = z10.heap.size := ⟨_, rfl⟩
        rw [← hbP] at hn
        rw [← hbP]
        have P11 := Lib.hid hn
        refine hK.out _ _ BB11.out (fun hh => ?_)
        have HH' := Lib.hid hh
        clear hh hK K HH hn bw hz11 hbP Q10
        have HH := Lib.hid HH'.out
        clear HH'
        try simp only [List.getElem_toArray, List.getElem_cons_succ, List.getElem_cons_zero, Act.put, List.setIfInBounds_toArray, List.set_cons_zero, List.set_cons_succ]
        refine wpAnyH_ready (rs := [4, 10]) (by kernel_rfl) (by simp) (AllReadyH.cons rfl (fun K hK => ?_) (AllReadyH.cons rfl (fun K hK => ?_) AllReadyH.nil))
        · go_simp
          refine (pair_zeros HK.out.1 P11.out Q11.out).mono ?_
          rintro e z12 ⟨pw, g1, g2, g, s12, F12, U, V, cu, cv, rfl, hlm, _, _⟩
          have BB12 := Lib.hid (BB11.out.trans (hlm.live.bel.mono BB11.out.size))
          have H12 := Lib.hid (show Mu.LM pw g1 g2 gG g w2 z12 s12 F12 (zerosM k) 0 from ⟨⟨hlm.live.at_, fun q hq => Nat.le_trans BB11.out.size (hlm.live.new q hq), BB12.out⟩, hlm.sees, hlm.dry⟩)
          go_simp
          refine hK.out _ _ BB12.out (fun hh => ?_)
          have HH' := Lib.hid hh
          clear hh hK K HH hlm 
          have HH := Lib.hid HH'.out
          clear HH'
          try simp only [List.getElem_toArray, List.getElem_cons_succ, List.getElem_cons_zero, Act.put, List.setIfInBounds_toArray, List.set_cons_zero, List.set_cons_succ]
          refine wpAnyH_take (i := 5) (v := ?vS5x25) rfl (by kernel_rfl) (by kernel_rfl) (by kernel_rfl) (fun _ _ _ h => h) (Or.inl ⟨by rfl, fun w' _ => ?yS5x25⟩) HH.out ?_
          case yS5x25 => (go_simp; try with_reducible rfl)
          refine wpAnyH_take (i := 6) (v := ?vS6x26) rfl (by kernel_rfl) (by kernel_rfl) (by kernel_rfl) (fun _ _ _ h => h) (Or.inl ⟨by rfl, fun w' _ => ?yS6x26⟩) HH.out ?_
          case yS6x26 => (go_simp; try with_reducible rfl)
          refine wpAnyH_take (i := 7) (v := ?vS7x27) rfl (by kernel_rfl) (by kernel_rfl) (by kernel_rfl) (fun _ _ _ h => h) (Or.inl ⟨by rfl, fun w' _ => ?yS7x27⟩) HH.out ?_
          case yS7x27 => (go_simp; try with_reducible rfl)
          refine wpAnyH_take (i := 8) (v := ?vS8x28) rfl (by kernel_rfl) (by kernel_rfl) (by kernel_rfl) (fun _ _ _ h => h) (Or.inl ⟨by rfl, fun w' _ => ?yS8x28⟩) HH.out ?_
          case yS8x28 => (go_simp; try with_reducible rfl)
          refine wpAnyH_take (i := 9) (v := ?vS9x29) rfl (by kernel_rfl) (by kernel_rfl) (by kernel_rfl) (fun _ _ _ h => h) (Or.inl ⟨by rfl, fun w' _ => ?yS9x29⟩) HH.out ?_
          case yS9x29 => (go_simp; try with_reducible rfl)
          try simp only [List.getElem_toArray, List.getElem_cons_succ, List.getElem_cons_zero, Act.put, List.setIfInBounds_toArray, List.set_cons_zero, List.set_cons_succ]
          refine wpAnyH_ready (rs := [10]) (by kernel_rfl) (by simp) (AllReadyH.cons rfl (fun K hK => ?_) AllReadyH.nil)
          go_simp
          have bw : Below z12.heap.size z12 (z12.alloc (.cells #[.slice none 0 0, .slice none 0 0] 27)) := (Below.refl _ _).alloc (Nat.le_refl _) _
          have hn : Blk (z12.alloc (.cells #[.slice none 0 0, .slice none 0 0] 27)) z12.heap.size #[.slice none 0 0, .slice none 0 0] 27 := heap_alloc_new _ _
          have NF := Lib.hid (show ¬ F12 z12.heap.size from fun hf => by have := (ML (Mu.one pw g1 g2) gG g).lt H12.out.live.at_ _ hf; omega)
          have SB := Lib.hid (show w2.heap.size ≤ z12.heap.size from BB12.out.size)
          obtain ⟨z13, hz13⟩ : ∃ z13, z13 = z12.alloc (.cells #[.slice none 0 0, .slice none 0 0] 27) := ⟨_, rfl⟩
          rw [← hz13] at bw hn
          rw [← hz13]
          have BB13 := Lib.hid (BB12.out.trans (bw.mono BB12.out.size))
          have H13 := Lib.hid (H12.out.below bw)
          obtain ⟨bX, hbX⟩ : ∃ bX, bX = z12.heap.size := ⟨_, rfl⟩
          rw [← hbX] at hn SB NF
          rw [← hbX]
          have X13 := Lib.hid hn
          refine hK.out _ _ BB13.out (fun hh => ?_)
          have HH' := Lib.hid hh
          clear hh hK K HH hn bw hz13 hbX H12
          have HH := Lib.hid HH'.out
          clear HH'
          try simp only [List.getElem_toArray, List.getElem_cons_succ, List.getElem_cons_zero, Act.put, List.setIfInBounds_toArray, List.set_cons_zero, List.set_cons_succ]
          refine wpAnyH_take (i := 11) (v := ?vS11x30) rfl (by kernel_rfl) (by kernel_rfl) (by kernel_rfl) (fun _ _ _ h => h) (Or.inl ⟨by rfl, fun w' _ => ?yS11x30⟩) HH.out ?_
          case yS11x30 => (go_simp; try with_reducible rfl)
          refine wpAnyH_take (i := 12) (v := ?vS12x31) rfl (by kernel_rfl) (by kernel_rfl) (by kernel_rfl) (fun _ _ _ h => h) (Or.inl ⟨by rfl, fun w' _ => ?yS12x31⟩) HH.out ?_
          case yS12x31 => (go_simp; try with_reducible rfl)
          refine wpAnyH_take (i := 13) (v := ?vS13x32) rfl (by kernel_rfl) (by kernel_rfl) (by kernel_rfl) (fun _ _ _ h => h) (Or.inl ⟨by rfl, fun w' _ => ?yS13x32⟩) HH.out ?_
          case yS13x32 => (go_simp; try with_reducible rfl)
          try simp only [List.getElem_toArray, List.getElem_cons_succ, List.getElem_cons_zero, Act.put, List.setIfInBounds_toArray, List.set_cons_zero, List.set_cons_succ]
          refine wpAnyH_ready (rs := [14]) (by kernel_rfl) (by simp) (AllReadyH.cons rfl (fun K hK => ?_) AllReadyH.nil)
          rw [if_pos (by rfl)]
          refine wp_store_row 27 (.tmp 11) (.tmp 38) rfl bX #[.slice U k cu, .slice V k cv] rfl rfl 27 #[.slice none 0 0, .slice none 0 0] X13.out secsAV_info rfl (by simp [Value.oneCell']) ?_
          have hb9 : But (fun y => y = bX) z13 (z13.setRow bX #[.slice U k cu, .slice V k cv]) := (But.refl _).setRow (S := fun y => y = bX) (.inl rfl) _
          have LF := Lib.hid (show Mu.LM pw g1 g2 gG g w2 (z13.setRow bX #[.slice U k cu, .slice V k cv]) s12 F12 (zerosM k) 0 from ⟨⟨(ML (Mu.one pw g1 g2) gG g).but H13.out.live.at_ hb9 (fun q hq e => NF.out (e ▸ hq)), H13.out.live.new, H13.out.live.bel.trans (hb9.below (fun t ht e => by have := SB.out; omega) H13.out.live.bel.size)⟩, H13.out.sees, H13.out.dry⟩)
          refine hK.out _ _ LF.out.live.bel (fun hh => ?_)
          clear hh hK K hb9 HH
          refine wpAnyH_done (by kernel_rfl) ?_ _
          go_wp2_with fail
          go_meet
          exact ⟨pw, g1, g2, g, bX, s12, F12, rfl, rfl, rfl, rfl, LF.out⟩
        · go_simp
          have bw : Below z11.heap.size z11 (z11.alloc (.cells #[.slice none 0 0, .slice none 0 0] 27)) := (Below.refl _ _).alloc (Nat.le_refl _) _
          have hn : Blk (z11.alloc (.cells #[.slice none 0 0, .slice none 0 0] 27)) z11.heap.size #[.slice none 0 0, .slice none 0 0] 27 := heap_alloc_new _ _
          have SB := Lib.hid (show w2.heap.size ≤ z11.heap.size from BB11.out.size)
          obtain ⟨z14, hz14⟩ : ∃ z14, z14 = z11.alloc (.cells #[.slice none 0 0, .slice none 0 0] 27) := ⟨_, rfl⟩
          rw [← hz14] at bw hn
          rw [← hz14]
          have BB14 := Lib.hid (BB11.out.trans (bw.mono BB11.out.size))
          have Q14 := Lib.hid (Q11.out.below bw)
          have P14 := Lib.hid (P11.out.below bw)
          obtain ⟨bX, hbX⟩ : ∃ bX, bX = z11.heap.size := ⟨_, rfl⟩
          rw [← hbX] at hn SB
          rw [← hbX]
          have X14 := Lib.hid hn
          refine hK.out _ _ BB14.out (fun hh => ?_)
          have HH' := Lib.hid hh
          clear hh hK K HH hn bw hz14 hbX Q11 P11
          have HH := Lib.hid HH'.out
          clear HH'
          try simp only [List.getElem_toArray, List.getElem_cons_succ, List.getElem_cons_zero, Act.put, List.setIfInBounds_toArray, List.set_cons_zero, List.set_cons_succ]
          refine wpAnyH_ready (rs := [4]) (by kernel_rfl) (by simp) (AllReadyH.cons rfl (fun K hK => ?_) AllReadyH.nil)
          go_simp
          refine (pair_zeros HK.out.1 P14.out Q14.out).mono ?_
          rintro e z15 ⟨pw, g1, g2, g, s15, F15, U, V, cu, cv, rfl, hlm, _, _⟩
          have BB15 := Lib.hid (BB14.out.trans (hlm.live.bel.mono BB14.out.size))
          have NF := Lib.hid (show ¬ F15 bX from fun hf => by have h1 := hlm.live.new bX hf; have := X14.out.lt; omega)
          have X15 := Lib.hid (X14.out.below hlm.live.bel)
          have H15 := Lib.hid (show Mu.LM pw g1 g2 gG g w2 z15 s15 F15 (zerosM k) 0 from ⟨⟨hlm.live.at_, fun q hq => Nat.le_trans BB14.out.size (hlm.live.new q hq), BB15.out⟩, hlm.sees, hlm.dry⟩)
          go_simp
          refine hK.out _ _ BB15.out (fun hh => ?_)
          have HH' := Lib.hid hh
          clear hh hK K HH hlm X14
          have HH := Lib.hid HH'.out
          clear HH'
          try simp only [List.getElem_toArray, List.getElem_cons_succ, List.getElem_cons_zero, Act.put, List.setIfInBounds_toArray, List.set_cons_zero, List.set_cons_succ]
          refine wpAnyH_take (i := 5) (v := ?vS5x33) rfl (by kernel_rfl) (by kernel_rfl) (by kernel_rfl) (fun _ _ _ h => h) (Or.inl ⟨by rfl, fun w' _ => ?yS5x33⟩) HH.out ?_
          case yS5x33 => (go_simp; try with_reducible rfl)
          refine wpAnyH_take (i := 6) (v := ?vS6x34) rfl (by kernel_rfl) (by kernel_rfl) (by kernel_rfl) (fun _ _ _ h => h) (Or.inl ⟨by rfl, fun w' _ => ?yS6x34⟩) HH.out ?_
          case yS6x34 => (go_simp; try with_reducible rfl)
          refine wpAnyH_take (i := 7) (v := ?vS7x35) rfl (by kernel_rfl) (by kernel_rfl) (by kernel_rfl) (fun _ _ _ h => h) (Or.inl ⟨by rfl, fun w' _ => ?yS7x35⟩) HH.out ?_
          case yS7x35 => (go_simp; try with_reducible rfl)
          refine wpAnyH_take (i := 8) (v := ?vS8x36) rfl (by kernel_rfl) (by kernel_rfl) (by kernel_rfl) (fun _ _ _ h => h) (Or.inl ⟨by rfl, fun w' _ => ?yS8x36⟩) HH.out ?_
          case yS8x36 => (go_simp; try with_reducible rfl)
          refine wpAnyH_take (i := 9) (v := ?vS9x37) rfl (by kernel_rfl) (by kernel_rfl) (by kernel_rfl) (fun _ _ _ h => h) (Or.inl ⟨by rfl, fun w' _ => ?yS9x37⟩) HH.out ?_
          case yS9x37 => (go_simp; try with_reducible rfl)
          try simp only [List.getElem_toArray, List.getElem_cons_succ, List.getElem_cons_zero, Act.put, List.setIfInBounds_toArray, List.set_cons_zero, List.set_cons_succ]
          refine wpAnyH_take (i := 11) (v := ?vS11x38) rfl (by kernel_rfl) (by kernel_rfl) (by kernel_rfl) (fun _ _ _ h => h) (Or.inl ⟨by rfl, fun w' _ => ?yS11x38⟩) HH.out ?_
          case yS11x38 => (go_simp; try with_reducible rfl)
          refine wpAnyH_take (i := 12) (v := ?vS12x39) rfl (by kernel_rfl) (by kernel_rfl) (by kernel_rfl) (fun _ _ _ h => h) (Or.inl ⟨by rfl, fun w' _ => ?yS12x39⟩) HH.out ?_
          case yS12x39 => (go_simp; try with_reducible rfl)
          refine wpAnyH_take (i := 13) (v := ?vS13x40) rfl (by kernel_rfl) (by kernel_rfl) (by kernel_rfl) (fun _ _ _ h => h) (Or.inl ⟨by rfl, fun w' _ => ?yS13x40⟩) HH.out ?_
          case yS13x40 => (go_simp; try with_reducible rfl)
          try simp only [List.getElem_toArray, List.getElem_cons_succ, List.getElem_cons_zero, Act.put, List.setIfInBounds_toArray, List.set_cons_zero, List.set_cons_succ]
          refine wpAnyH_ready (rs := [14]) (by kernel_rfl) (by simp) (AllReadyH.cons rfl (fun K hK => ?_) AllReadyH.nil)
          rw [if_pos (by rfl)]
          refine wp_store_row 27 (.tmp 11) (.tmp 38) rfl bX #[.slice U k cu, .slice V k cv] rfl rfl 27 #[.slice none 0 0, .slice none 0 0] X15.out secsAV_info rfl (by simp [Value.oneCell']) ?_
          have hb9 : But (fun y => y = bX) z15 (z15.setRow bX #[.slice U k cu, .slice V k cv]) := (But.refl _).setRow (S := fun y => y = bX) (.inl rfl) _
          have LF := Lib.hid (show Mu.LM pw g1 g2 gG g w2 (z15.setRow bX #[.slice U k cu, .slice V k cv]) s15 F15 (zerosM k) 0 from ⟨⟨(ML (Mu.one pw g1 g2) gG g).but H15.out.live.at_ hb9 (fun q hq e => NF.out (e ▸ hq)), H15.out.live.new, H15.out.live.bel.trans (hb9.below (fun t ht e => by have := SB.out; omega) H15.out.live.bel.size)⟩, H15.out.sees, H15.out.dry⟩)
          refine hK.out _ _ LF.out.live.bel (fun hh => ?_)
          clear hh hK K hb9 HH
          refine wpAnyH_done (by kernel_rfl) ?_ _
          go_wp2_with fail
          go_meet
          exact ⟨pw, g1, g2, g, bX, s15, F15, rfl, rfl, rfl, rfl, LF.out⟩
      · go_simp
        have bw : Below z10.heap.size z10 (z10.alloc (.cells #[.slice none 0 0, .slice none 0 0] 27)) := (Below.refl _ _).alloc (Nat.le_refl _) _
        have hn : Blk (z10.alloc (.cells #[.slice none 0 0, .slice none 0 0] 27)) z10.heap.size #[.slice none 0 0, .slice none 0 0] 27 := heap_alloc_new _ _
        have SB := Lib.hid (show w2.heap.size ≤ z10.heap.size from BB10.out.size)
        obtain ⟨z16, hz16⟩ : ∃ z16, z16 = z10.alloc (.cells #[.slice none 0 0, .slice none 0 0] 27) := ⟨_, rfl⟩
        rw [← hz16] at bw hn
        rw [← hz16]
        have BB16 := Lib.hid (BB10.out.trans (bw.mono BB10.out.size))
        have Q16 := Lib.hid (Q10.out.below bw)
        obtain ⟨bX, hbX⟩ : ∃ bX, bX = z10.heap.size := ⟨_, rfl⟩
        rw [← hbX] at hn SB
        rw [← hbX]
        have X16 := Lib.hid hn
        refine hK.out _ _ BB16.out (fun hh => ?_)
        have HH' := Lib.hid hh
        clear hh hK K HH hn bw hz16 hbX Q10
        have HH := Lib.hid HH'.out
        clear HH'
        try simp only [List.getElem_toArray, List.getElem_cons_succ, List.getElem_cons_zero, Act.put, List.setIfInBounds_toArray, List.set_cons_zero, List.set_cons_succ]
        refine wpAnyH_ready (rs := [1]) (by kernel_rfl) (by simp) (AllReadyH.cons rfl (fun K hK => ?_) AllReadyH.nil)
        rw [if_pos (by rfl)]
        refine wp_makeS 22 (.tmp 30) (.tmp 30) rfl (make_pairs z16 k HK.out.1) ?_
        change K _ (z16.alloc (.cells (prs (List.replicate k (0, 0))).toArray 54))
        have bw : Below z16.heap.size z16 (z16.alloc (.cells (prs (List.replicate k (0, 0))).toArray 54)) := (Below.refl _ _).alloc (Nat.le_refl _) _
        have hn : Blk (z16.alloc (.cells (prs (List.replicate k (0, 0))).toArray 54)) z16.heap.size (prs (List.replicate k (0, 0))).toArray 54 := heap_alloc_new _ _
        obtain ⟨z17, hz17⟩ : ∃ z17, z17 = z16.alloc (.cells (prs (List.replicate k (0, 0))).toArray 54) := ⟨_, rfl⟩
        rw [← hz17] at bw hn
        rw [← hz17]
        have BB17 := Lib.hid (BB16.out.trans (bw.mono BB16.out.size))
        have Q17 := Lib.hid (Q16.out.below bw)
        have X17 := Lib.hid (X16.out.below bw)
        obtain ⟨bP, hbP⟩ : ∃ bP, bP = z16.heap.size := ⟨_, rfl⟩
        rw [← hbP] at hn
        rw [← hbP]
        have P17 := Lib.hid hn
        refine hK.out _ _ BB17.out (fun hh => ?_)
        have HH' := Lib.hid hh
        clear hh hK K HH hn bw hz17 hbP Q16 X16
        have HH := Lib.hid HH'.out
        clear HH'
        try simp only [List.getElem_toArray, List.getElem_cons_succ, List.getElem_cons_zero, Act.put, List.setIfInBounds_toArray, List.set_cons_zero, List.set_cons_succ]
        refine wpAnyH_ready (rs := [4]) (by kernel_rfl) (by simp) (AllReadyH.cons rfl (fun K hK => ?_) AllReadyH.nil)
        go_simp
        refine (pair_zeros HK.out.1 P17.out Q17.out).mono ?_
        rintro e z18 ⟨pw, g1, g2, g, s18, F18, U, V, cu, cv, rfl, hlm, _, _⟩
        have BB18 := Lib.hid (BB17.out.trans (hlm.live.bel.mono BB17.out.size))
        have NF := Lib.hid (show ¬ F18 bX from fun hf => by have h1 := hlm.live.new bX hf; have := X17.out.lt; omega)
        have X18 := Lib.hid (X17.out.below hlm.live.bel)
        have H18 := Lib.hid (show Mu.LM pw g1 g2 gG g w2 z18 s18 F18 (zerosM k) 0 from ⟨⟨hlm.live.at_, fun q hq => Nat.le_trans BB17.out.size (hlm.live.new q hq), BB18.out⟩, hlm.sees, hlm.dry⟩)
        go_simp
        refine hK.out _ _ BB18.out (fun hh => ?_)
        have HH' := Lib.hid hh
        clear hh hK K HH hlm X17
        have HH := Lib.hid HH'.out
        clear HH'
        try simp only [List.getElem_toArray, List.getElem_cons_succ, List.getElem_cons_zero, Act.put, List.setIfInBounds_toArray, List.set_cons_zero, List.set_cons_succ]
        refine wpAnyH_take (i := 5) (v := ?vS5x41) rfl (by kernel_rfl) (by kernel_rfl) (by kernel_rfl) (fun _ _ _ h => h) (Or.inl ⟨by rfl, fun w' _ => ?yS5x41⟩) HH.out ?_
        case yS5x41 => (go_simp; try with_reducible rfl)
        refine wpAnyH_take (i := 6) (v := ?vS6x42) rfl (by kernel_rfl) (by kernel_rfl) (by kernel_rfl) (fun _ _ _ h => h) (Or.inl ⟨by rfl, fun w' _ => ?yS6x42⟩) HH.out ?_
        case yS6x42 => (go_simp; try with_reducible rfl)
        refine wpAnyH_take (i := 7) (v := ?vS7x43) rfl (by kernel_rfl) (by kernel_rfl) (by kernel_rfl) (fun _ _ _ h => h) (Or.inl ⟨by rfl, fun w' _ => ?yS7x43⟩) HH.out ?_
        case yS7x43 => (go_simp; try with_reducible rfl)
        refine wpAnyH_take (i := 8) (v := ?vS8x44) rfl (by kernel_rfl) (by kernel_rfl) (by kernel_rfl) (fun _ _ _ h => h) (Or.inl ⟨by rfl, fun w' _ => ?yS8x44⟩) HH.out ?_
        case yS8x44 => (go_simp; try with_reducible rfl)
        refine wpAnyH_take (i := 9) (v := ?vS9x45) rfl (by kernel_rfl) (by kernel_rfl) (by kernel_rfl) (fun _ _ _ h => h) (Or.inl ⟨by rfl, fun w' _ => ?yS9x45⟩) HH.out ?_
        case yS9x45 => (go_simp; try with_reducible rfl)
        try simp only [List.getElem_toArray, List.getElem_cons_succ, List.getElem_cons_zero, Act.put, List.setIfInBounds_toArray, List.set_cons_zero, List.set_cons_succ]
        refine wpAnyH_take (i := 11) (v := ?vS11x46) rfl (by kernel_rfl) (by kernel_rfl) (by kernel_rfl) (fun _ _ _ h => h) (Or.inl ⟨by rfl, fun w' _ => ?yS11x46⟩) HH.out ?_
        case yS11x46 => (go_simp; try with_reducible rfl)
        refine wpAnyH_take (i := 12) (v := ?vS12x47) rfl (by kernel_rfl) (by kernel_rfl) (by kernel_rfl) (fun _ _ _ h => h) (Or.inl ⟨by rfl, fun w' _ => ?yS12x47⟩) HH.out ?_
        case yS12x47 => (go_simp; try with_reducible rfl)
        refine wpAnyH_take (i := 13) (v := ?vS13x48) rfl (by kernel_rfl) (by kernel_rfl) (by kernel_rfl) (fun _ _ _ h => h) (Or.inl ⟨by rfl, fun w' _ => ?yS13x48⟩) HH.out ?_
        case yS13x48 => (go_simp; try with_reducible rfl)
        try simp only [List.getElem_toArray, List.getElem_cons_succ, List.getElem_cons_zero, Act.put, List.setIfInBounds_toArray, List.set_cons_zero, List.set_cons_succ]
        refine wpAnyH_ready (rs := [14]) (by kernel_rfl) (by simp) (AllReadyH.cons rfl (fun K hK => ?_) AllReadyH.nil)
        rw [if_pos (by rfl)]
        refine wp_store_row 27 (.tmp 11) (.tmp 38) rfl bX #[.slice U k cu, .slice V k cv] rfl rfl 27 #[.slice none 0 0, .slice none 0 0] X18.out secsAV_info rfl (by simp [Value.oneCell']) ?_
        have hb9 : But (fun y => y = bX) z18 (z18.setRow bX #[.slice U k cu, .slice V k cv]) := (But.refl _).setRow (S := fun y => y = bX) (.inl rfl) _
        have LF := Lib.hid (show Mu.LM pw g1 g2 gG g w2 (z18.setRow bX #[.slice U k cu, .slice V k cv]) s18 F18 (zerosM k) 0 from ⟨⟨(ML (Mu.one pw g1 g2) gG g).but H18.out.live.at_ hb9 (fun q hq e => NF.out (e ▸ hq)), H18.out.live.new, H18.out.live.bel.trans (hb9.below (fun t ht e => by have := SB.out; omega) H18.out.live.bel.size)⟩, H18.out.sees, H18.out.dry⟩)
        refine hK.out _ _ LF.out.live.bel (fun hh => ?_)
        clear hh hK K hb9 HH
        refine wpAnyH_done (by kernel_rfl) ?_ _
        go_wp2_with fail
        go_meet
        exact ⟨pw, g1, g2, g, bX, s18, F18, rfl, rfl, rfl, rfl, LF.out⟩
    · go_simp
      have bw : Below wq.heap.size wq (wq.alloc (.cells #[.slice none 0 0, .slice none 0 0] 27)) := (Below.refl _ _).alloc (Nat.le_refl _) _
      have hn : Blk (wq.alloc (.cells #[.slice none 0 0, .slice none 0 0] 27)) wq.heap.size #[.slice none 0 0, .slice none 0 0] 27 := heap_alloc_new _ _
      have SB := Lib.hid (show w2.heap.size ≤ wq.heap.size from BQ.out.size)
      obtain ⟨z19, hz19⟩ : ∃ z19, z19 = wq.alloc (.cells #[.slice none 0 0, .slice none 0 0] 27) := ⟨_, rfl⟩
      rw [← hz19] at bw hn
      rw [← hz19]
      have BB19 := Lib.hid (BQ.out.trans (bw.mono BQ.out.size))
      obtain ⟨bX, hbX⟩ : ∃ bX, bX = wq.heap.size := ⟨_, rfl⟩
      rw [← hbX] at hn SB
      rw [← hbX]
      have X19 := Lib.hid hn
      refine hK.out _ _ BB19.out (fun hh => ?_)
      have HH' := Lib.hid hh
      clear hh hK K HH hn bw hz19 hbX 
      have HH := Lib.hid HH'.out
      clear HH'
      try simp only [List.getElem_toArray, List.getElem_cons_succ, List.getElem_cons_zero, Act.put, List.setIfInBounds_toArray, List.set_cons_zero, List.set_cons_succ]
      refine wpAnyH_ready (rs := [1, 3]) (by kernel_rfl) (by simp) (AllReadyH.cons rfl (fun K hK => ?_) (AllReadyH.cons rfl (fun K hK => ?_) AllReadyH.nil))
      · rw [if_pos (by rfl)]
        refine wp_makeS 22 (.tmp 30) (.tmp 30) rfl (make_pairs z19 k HK.out.1) ?_
        change K _ (z19.alloc (.cells (prs (List.replicate k (0, 0))).toArray 54))
        have bw : Below z19.heap.size z19 (z19.alloc (.cells (prs (List.replicate k (0, 0))).toArray 54)) := (Below.refl _ _).alloc (Nat.le_refl _) _
        have hn : Blk (z19.alloc (.cells (prs (List.replicate k (0, 0))).toArray 54)) z19.heap.size (prs (List.replicate k (0, 0))).toArray 54 := heap_alloc_new _ _
        obtain ⟨z20, hz20⟩ : ∃ z20, z20 = z19.alloc (.cells (prs (List.replicate k (0, 0))).toArray 54) := ⟨_, rfl⟩
        rw [← hz20] at bw hn
        rw [← hz20]
        have BB20 := Lib.hid (BB19.out.trans (bw.mono BB19.out.size))
        have X20 := Lib.hid (X19.out.below bw)
        obtain ⟨bP, hbP⟩ : ∃ bP, bP = z19.heap.size := ⟨_, rfl⟩
        rw [← hbP] at hn
        rw [← hbP]
        have P20 := Lib.hid hn
        refine hK.out _ _ BB20.out (fun hh => ?_)
        have HH' := Lib.hid hh
        clear hh hK K HH hn bw hz20 hbP X19
        have HH := Lib.hid HH'.out
        clear HH'
        try simp only [List.getElem_toArray, List.getElem_cons_succ, List.getElem_cons_zero, Act.put, List.setIfInBounds_toArray, List.set_cons_zero, List.set_cons_succ]
        refine wpAnyH_ready (rs := [3]) (by kernel_rfl) (by simp) (AllReadyH.cons rfl (fun K hK => ?_) AllReadyH.nil)
        rw [if_pos (by rfl)]
        refine wp_makeS 22 (.tmp 32) (.tmp 32) rfl (make_pairs z20 k HK.out.1) ?_
        change K _ (z20.alloc (.cells (prs (List.replicate k (0, 0))).toArray 54))
        have bw : Below z20.heap.size z20 (z20.alloc (.cells (prs (List.replicate k (0, 0))).toArray 54)) := (Below.refl _ _).alloc (Nat.le_refl _) _
        have hn : Blk (z20.alloc (.cells (prs (List.replicate k (0, 0))).toArray 54)) z20.heap.size (prs (List.replicate k (0, 0))).toArray 54 := heap_alloc_new _ _
        obtain ⟨z21, hz21⟩ : ∃ z21, z21 = z20.alloc (.cells (prs (List.replicate k (0, 0))).toArray 54) := ⟨_, rfl⟩
        rw [← hz21] at bw hn
        rw [← hz21]
        have BB21 := Lib.hid (BB20.out.trans (bw.mono BB20.out.size))
        have X21 := Lib.hid (X20.out.below bw)
        have P21 := Lib.hid (P20.out.below bw)
        obtain ⟨bQ, hbQ⟩ : ∃ bQ, bQ = z20.heap.size := ⟨_, rfl⟩
        rw [← hbQ] at hn
        rw [← hbQ]
        have Q21 := Lib.hid hn
        refine hK.out _ _ BB21.out (fun hh => ?_)
        have HH' := Lib.hid hh
        clear hh hK K HH hn bw hz21 hbQ X20 P20
        have HH := Lib.hid HH'.out
        clear HH'
        try simp only [List.getElem_toArray, List.getElem_cons_succ, List.getElem_cons_zero, Act.put, List.setIfInBounds_toArray, List.set_cons_zero, List.set_cons_succ]
        refine wpAnyH_ready (rs := [4]) (by kernel_rfl) (by simp) (AllReadyH.cons rfl (fun K hK => ?_) AllReadyH.nil)
        go_simp
        refine (pair_zeros HK.out.1 P21.out Q21.out).mono ?_
        rintro e z22 ⟨pw, g1, g2, g, s22, F22, U, V, cu, cv, rfl, hlm, _, _⟩
        have BB22 := Lib.hid (BB21.out.trans (hlm.live.bel.mono BB21.out.size))
        have NF := Lib.hid (show ¬ F22 bX from fun hf => by have h1 := hlm.live.new bX hf; have := X21.out.lt; omega)
        have X22 := Lib.hid (X21.out.below hlm.live.bel)
        have H22 := Lib.hid (show Mu.LM pw g1 g2 gG g w2 z22 s22 F22 (zerosM k) 0 from ⟨⟨hlm.live.at_, fun q hq => Nat.le_trans BB21.out.size (hlm.live.new q hq), BB22.out⟩, hlm.sees, hlm.dry⟩)
        go_simp
        refine hK.out _ _ BB22.out (fun hh => ?_)
        have HH' := Lib.hid hh
        clear hh hK K HH hlm X21
        have HH := Lib.hid HH'.out
        clear HH'
        try simp only [List.getElem_toArray, List.getElem_cons_succ, List.getElem_cons_zero, Act.put, List.setIfInBounds_toArray, List.set_cons_zero, List.set_cons_succ]
        refine wpAnyH_take (i := 5) (v := ?vS5x49) rfl (by kernel_rfl) (by kernel_rfl) (by kernel_rfl) (fun _ _ _ h => h) (Or.inl ⟨by rfl, fun w' _ => ?yS5x49⟩) HH.out ?_
        case yS5x49 => (go_simp; try with_reducible rfl)
        refine wpAnyH_take (i := 6) (v := ?vS6x50) rfl (by kernel_rfl) (by kernel_rfl) (by kernel_rfl) (fun _ _ _ h => h) (Or.inl ⟨by rfl, fun w' _ => ?yS6x50⟩) HH.out ?_
        case yS6x50 => (go_simp; try with_reducible rfl)
        refine wpAnyH_take (i := 7) (v := ?vS7x51) rfl (by kernel_rfl) (by kernel_rfl) (by kernel_rfl) (fun _ _ _ h => h) (Or.inl ⟨by rfl, fun w' _ => ?yS7x51⟩) HH.out ?_
        case yS7x51 => (go_simp; try with_reducible rfl)
        refine wpAnyH_take (i := 8) (v := ?vS8x52) rfl (by kernel_rfl) (by kernel_rfl) (by kernel_rfl) (fun _ _ _ h => h) (Or.inl ⟨by rfl, fun w' _ => ?yS8x52⟩) HH.out ?_
        case yS8x52 => (go_simp; try with_reducible rfl)
        refine wpAnyH_take (i := 9) (v := ?vS9x53) rfl (by kernel_rfl) (by kernel_rfl) (by kernel_rfl) (fun _ _ _ h => h) (Or.inl ⟨by rfl, fun w' _ => ?yS9x53⟩) HH.out ?_
        case yS9x53 => (go_simp; try with_reducible rfl)
        try simp only [List.getElem_toArray, List.getElem_cons_succ, List.getElem_cons_zero, Act.put, List.setIfInBounds_toArray, List.set_cons_zero, List.set_cons_succ]
        refine wpAnyH_take (i := 11) (v := ?vS11x54) rfl (by kernel_rfl) (by kernel_rfl) (by kernel_rfl) (fun _ _ _ h => h) (Or.inl ⟨by rfl, fun w' _ => ?yS11x54⟩) HH.out ?_
        case yS11x54 => (go_simp; try with_reducible rfl)
        refine wpAnyH_take (i := 12) (v := ?vS12x55) rfl (by kernel_rfl) (by kernel_rfl) (by kernel_rfl) (fun _ _ _ h => h) (Or.inl ⟨by rfl, fun w' _ => ?yS12x55⟩) HH.out ?_
        case yS12x55 => (go_simp; try with_reducible rfl)
        refine wpAnyH_take (i := 13) (v := ?vS13x56) rfl (by kernel_rfl) (by kernel_rfl) (by kernel_rfl) (fun _ _ _ h => h) (Or.inl ⟨by rfl, fun w' _ => ?yS13x56⟩) HH.out ?_
        case yS13x56 => (go_simp; try with_reducible rfl)
        try simp only [List.getElem_toArray, List.getElem_cons_succ, List.getElem_cons_zero, Act.put, List.setIfInBounds_toArray, List.set_cons_zero, List.set_cons_succ]
        refine wpAnyH_ready (rs := [14]) (by kernel_rfl) (by simp) (AllReadyH.cons rfl (fun K hK => ?_) AllReadyH.nil)
        rw [if_pos (by rfl)]
        refine wp_store_row 27 (.tmp 11) (.tmp 38) rfl bX #[.slice U k cu, .slice V k cv] rfl rfl 27 #[.slice none 0 0, .slice none 0 0] X22.out secsAV_info rfl (by simp [Value.oneCell']) ?_
        have hb9 : But (fun y => y = bX) z22 (z22.setRow bX #[.slice U k cu, .slice V k cv]) := (But.refl _).setRow (S := fun y => y = bX) (.inl rfl) _
        have LF := Lib.hid (show Mu.LM pw g1 g2 gG g w2 (z22.setRow bX #[.slice U k cu, .slice V k cv]) s22 F22 (zerosM k) 0 from ⟨⟨(ML (Mu.one pw g1 g2) gG g).but H22.out.live.at_ hb9 (fun q hq e => NF.out (e ▸ hq)), H22.out.live.new, H22.out.live.bel.trans (hb9.below (fun t ht e => by have := SB.out; omega) H22.out.live.bel.size)⟩, H22.out.sees, H22.out.dry⟩)
        refine hK.out _ _ LF.out.live.bel (fun hh => ?_)
        clear hh hK K hb9 HH
        refine wpAnyH_done (by kernel_rfl) ?_ _
        go_wp2_with fail
        go_meet
        exact ⟨pw, g1, g2, g, bX, s22, F22, rfl, rfl, rfl, rfl, LF.out⟩
      · rw [if_pos (by rfl)]
        refine wp_makeS 22 (.tmp 32) (.tmp 32) rfl (make_pairs z19 k HK.out.1) ?_
        change K _ (z19.alloc (.cells (prs (List.replicate k (0, 0))).toArray 54))
        have bw : Below z19.heap.size z19 (z19.alloc (.cells (prs (List.replicate k (0, 0))).toArray 54)) := (Below.refl _ _).alloc (Nat.le_refl _) _
        have hn : Blk (z19.alloc (.cells (prs (List.replicate k (0, 0))).toArray 54)) z19.heap.size (prs (List.replicate k (0, 0))).toArray 54 := heap_alloc_new _ _
        obtain ⟨z23, hz23⟩ : ∃ z23, z23 = z19.alloc (.cells (prs (List.replicate k (0, 0))).toArray 54) := ⟨_, rfl⟩
        rw [← hz23] at bw hn
        rw [← hz23]
        have BB23 := Lib.hid (BB19.out.trans (bw.mono BB19.out.size))
        have X23 := Lib.hid (X19.out.below bw)
        obtain ⟨bQ, hbQ⟩ : ∃ bQ, bQ = z19.heap.size := ⟨_, rfl⟩
        rw [← hbQ] at hn
        rw [← hbQ]
        have Q23 := Lib.hid hn
        refine hK.out _ _ BB23.out (fun hh => ?_)
        have HH' := Lib.hid hh
        clear hh hK K HH hn bw hz23 hbQ X19
        have HH := Lib.hid HH'.out
        clear HH'
        try simp only [List.getElem_toArray, List.getElem_cons_succ, List.getElem_cons_zero, Act.put, List.setIfInBounds_toArray, List.set_cons_zero, List.set_cons_succ]
        refine wpAnyH_ready (rs := [1]) (by kernel_rfl) (by simp) (AllReadyH.cons rfl (fun K hK => ?_) AllReadyH.nil)
        rw [if_pos (by rfl)]
        refine wp_makeS 22 (.tmp 30) (.tmp 30) rfl (make_pairs z23 k HK.out.1) ?_
        change K _ (z23.alloc (.cells (prs (List.replicate k (0, 0))).toArray 54))
        have bw : Below z23.heap.size z23 (z23.alloc (.cells (prs (List.replicate k (0, 0))).toArray 54)) := (Below.refl _ _).alloc (Nat.le_refl _) _
        have hn : Blk (z23.alloc (.cells (prs (List.replicate k (0, 0))).toArray 54)) z23.heap.size (prs (List.replicate k (0, 0))).toArray 54 := heap_alloc_new _ _
        obtain ⟨z24, hz24⟩ : ∃ z24, z24 = z23.alloc (.cells (prs (List.replicate k (0, 0))).toArray 54) := ⟨_, rfl⟩
        rw [← hz24] at bw hn
        rw [← hz24]
        have BB24 := Lib.hid (BB23.out.trans (bw.mono BB23.out.size))
        have X24 := Lib.hid (X23.out.below bw)
        have Q24 := Lib.hid (Q23.out.below bw)
        obtain ⟨bP, hbP⟩ : ∃ bP, bP = z23.heap.size := ⟨_, rfl⟩
        rw [← hbP] at hn
        rw [← hbP]
        have P24 := Lib.hid hn
        refine hK.out _ _ BB24.out (fun hh => ?_)
        have HH' := Lib.hid hh
        clear hh hK K HH hn bw hz24 hbP X23 Q23
        have HH := Lib.hid HH'.out
        clear HH'
        try simp only [List.getElem_toArray, List.getElem_cons_succ, List.getElem_cons_zero, Act.put, List.setIfInBounds_toArray, List.set_cons_zero, List.set_cons_succ]
        refine wpAnyH_ready (rs := [4]) (by kernel_rfl) (by simp) (AllReadyH.cons rfl (fun K hK => ?_) AllReadyH.nil)
        go_simp
        refine (pair_zeros HK.out.1 P24.out Q24.out).mono ?_
        rintro e z25 ⟨pw, g1, g2, g, s25, F25, U, V, cu, cv, rfl, hlm, _, _⟩
        have BB25 := Lib.hid (BB24.out.trans (hlm.live.bel.mono BB24.out.size))
        have NF := Lib.hid (show ¬ F25 bX from fun hf => by have h1 := hlm.live.new bX hf; have := X24.out.lt; omega)
        have X25 := Lib.hid (X24.out.below hlm.live.bel)
        have H25 := Lib.hid (show Mu.LM pw g1 g2 gG g w2 z25 s25 F25 (zerosM k) 0 from ⟨⟨hlm.live.at_, fun q hq => Nat.le_trans BB24.out.size (hlm.live.new q hq), BB25.out⟩, hlm.sees, hlm.dry⟩)
        go_simp
        refine hK.out _ _ BB25.out (fun hh => ?_)
        have HH' := Lib.hid hh
        clear hh hK K HH hlm X24
        have HH := Lib.hid HH'.out
        clear HH'
        try simp only [List.getElem_toArray, List.getElem_cons_succ, List.getElem_cons_zero, Act.put, List.setIfInBounds_toArray, List.set_cons_zero, List.set_cons_succ]
        refine wpAnyH_take (i := 5) (v := ?vS5x57) rfl (by kernel_rfl) (by kernel_rfl) (by kernel_rfl) (fun _ _ _ h => h) (Or.inl ⟨by rfl, fun w' _ => ?yS5x57⟩) HH.out ?_
        case yS5x57 => (go_simp; try with_reducible rfl)
        refine wpAnyH_take (i := 6) (v := ?vS6x58) rfl (by kernel_rfl) (by kernel_rfl) (by kernel_rfl) (fun _ _ _ h => h) (Or.inl ⟨by rfl, fun w' _ => ?yS6x58⟩) HH.out ?_
        case yS6x58 => (go_simp; try with_reducible rfl)
        refine wpAnyH_take (i := 7) (v := ?vS7x59) rfl (by kernel_rfl) (by kernel_rfl) (by kernel_rfl) (fun _ _ _ h => h) (Or.inl ⟨by rfl, fun w' _ => ?yS7x59⟩) HH.out ?_
        case yS7x59 => (go_simp; try with_reducible rfl)
        refine wpAnyH_take (i := 8) (v := ?vS8x60) rfl (by kernel_rfl) (by kernel_rfl) (by kernel_rfl) (fun _ _ _ h => h) (Or.inl ⟨by rfl, fun w' _ => ?yS8x60⟩) HH.out ?_
        case yS8x60 => (go_simp; try with_reducible rfl)
        refine wpAnyH_take (i := 9) (v := ?vS9x61) rfl (by kernel_rfl) (by kernel_rfl) (by kernel_rfl) (fun _ _ _ h => h) (Or.inl ⟨by rfl, fun w' _ => ?yS9x61⟩) HH.out ?_
        case yS9x61 => (go_simp; try with_reducible rfl)
        try simp only [List.getElem_toArray, List.getElem_cons_succ, List.getElem_cons_zero, Act.put, List.setIfInBounds_toArray, List.set_cons_zero, List.set_cons_succ]
        refine wpAnyH_take (i := 11) (v := ?vS11x62) rfl (by kernel_rfl) (by kernel_rfl) (by kernel_rfl) (fun _ _ _ h => h) (Or.inl ⟨by rfl, fun w' _ => ?yS11x62⟩) HH.out ?_
        case yS11x62 => (go_simp; try with_reducible rfl)
        refine wpAnyH_take (i := 12) (v := ?vS12x63) rfl (by kernel_rfl) (by kernel_rfl) (by kernel_rfl) (fun _ _ _ h => h) (Or.inl ⟨by rfl, fun w' _ => ?yS12x63⟩) HH.out ?_
        case yS12x63 => (go_simp; try with_reducible rfl)
        refine wpAnyH_take (i := 13) (v := ?vS13x64) rfl (by kernel_rfl) (by kernel_rfl) (by kernel_rfl) (fun _ _ _ h => h) (Or.inl ⟨by rfl, fun w' _ => ?yS13x64⟩) HH.out ?_
        case yS13x64 => (go_simp; try with_reducible rfl)
        try simp only [List.getElem_toArray, List.getElem_cons_succ, List.getElem_cons_zero, Act.put, List.setIfInBounds_toArray, List.set_cons_zero, List.set_cons_succ]
        refine wpAnyH_ready (rs := [14]) (by kernel_rfl) (by simp) (AllReadyH.cons rfl (fun K hK => ?_) AllReadyH.nil)
        rw [if_pos (by rfl)]
        refine wp_store_row 27 (.tmp 11) (.tmp 38) rfl bX #[.slice U k cu, .slice V k cv] rfl rfl 27 #[.slice none 0 0, .slice none 0 0] X25.out secsAV_info rfl (by simp [Value.oneCell']) ?_
        have hb9 : But (fun y => y = bX) z25 (z25.setRow bX #[.slice U k cu, .slice V k cv]) := (But.refl _).setRow (S := fun y => y = bX) (.inl rfl) _
        have LF := Lib.hid (show Mu.LM pw g1 g2 gG g w2 (z25.setRow bX #[.slice U k cu, .slice V k cv]) s25 F25 (zerosM k) 0 from ⟨⟨(ML (Mu.one pw g1 g2) gG g).but H25.out.live.at_ hb9 (fun q hq e => NF.out (e ▸ hq)), H25.out.live.new, H25.out.live.bel.trans (hb9.below (fun t ht e => by have := SB.out; omega) H25.out.live.bel.size)⟩, H25.out.sees, H25.out.dry⟩)
        refine hK.out _ _ LF.out.live.bel (fun hh => ?_)
        clear hh hK K hb9 HH
        refine wpAnyH_done (by kernel_rfl) ?_ _
        go_wp2_with fail
        go_meet
        exact ⟨pw, g1, g2, g, bX, s25, F25, rfl, rfl, rfl, rfl, LF.out⟩
  case rest =>
    obtain ⟨pw, g1, g2, g, b, s0, F0, rfl, rfl, rfl, rfl, hlm⟩ := hcut
    have H0 := Lib.hid hlm
    clear hlm
    skip
    obtain ⟨r1, hr1⟩ : ∃ r1, r1 = (cntK goodN (List.replicate k zeroS) (List.replicate k zeroS) k).r := ⟨_, rfl⟩
    obtain ⟨l1, hl1⟩ : ∃ l1, l1 = (cntK goodN (List.replicate k zeroS) (List.replicate k zeroS) k).l := ⟨_, rfl⟩
    have HRP := Lib.hid (show (cntK gG.f (zerosM k).l0 (zerosM k).l1 k).rep = #[.int .i64 r1, .int .i64 0, .int .i64 l1] by
      show (cntK goodN (List.replicate k zeroS) (List.replicate k zeroS) k).rep = _
      rw [rep_form, cnt_same, hr1, hl1]; rfl)
    clear hr1 hl1
    go_wp2_with fail
    have hc := lm_all_still H0.out (zeros_fresh k) (by have := HK.out; omega) (fun i _ => ck_same _ _ _)
    rw [HRP.out] at hc
    refine hc.mono ?_
    clear hc
    rintro e w11 ⟨rfl, s11, F11, h, hm11⟩
    have H11 := Lib.hid (show Mu.LM pw g1 g2 gG g w2 w11 s11 F11 (zerosM k) 0 from h)
    clear h hm11 H0
    go_wp2_with (show wpList _ _ _ ({ dst := none, op := .store 32 (.tmp 12) (.tmp 40), type := _, pos := _, after := _, guard := _ } :: _) _ _; apply Classical.byContradiction; intro hneg)
    refine hneg ?_
    clear hneg
    refine wpList_store_row rfl 32 (.tmp 12) (.tmp 40) rfl w11.heap.size #[.int .i64 r1, .int .i64 0, .int .i64 l1] rfl rfl 32 #[.int .i64 0, .int .i64 0, .int .i64 0] (heap_alloc_new _ _) wk_info rfl (by simp [Value.oneCell']) ?_
    obtain ⟨w12, hw12⟩ : ∃ w12, w12 = (w11.alloc (.cells #[.int .i64 0, .int .i64 0, .int .i64 0] 32)).setRow w11.heap.size #[.int .i64 r1, .int .i64 0, .int .i64 l1] := ⟨_, rfl⟩
    have bw : Below w11.heap.size w11 w12 := by rw [hw12]; exact below_setRow ((Below.refl _ _).alloc (Nat.le_refl _) _) (Nat.le_refl _) _
    have hbx : Blk w12 w11.heap.size #[.int .i64 r1, .int .i64 0, .int .i64 l1] 32 := by rw [hw12]; exact setRow_heap _ _ _ _ _ _ (heap_alloc_new _ _)
    rw [← hw12]
    clear hw12
    obtain ⟨b12, hb12⟩ : ∃ b12, b12 = w11.heap.size := ⟨_, rfl⟩
    rw [← hb12] at hbx
    rw [← hb12]
    have BA12 := Lib.hid (show Bx w2 w12 F11 b12 #[.int .i64 r1, .int .i64 0, .int .i64 l1] 32 from ⟨hbx, by rw [hb12]; exact H11.out.live.bel.size, fun hf => by have := (ML (Mu.one pw g1 g2) gG g).lt H11.out.live.at_ _ hf; omega⟩)
    clear hb12 hbx
    have H12 := Lib.hid (H11.out.below bw)
    clear bw H11
    have a1 : w12.cell? ⟨b12, 1, none⟩ = some (.int .i64 0) := BA12.out.1.cell 1
    have x0 : w12.cell? ⟨q, 0, none⟩ = some (.int .u8 (e0.toNat : Int)) := (X2.out.below H12.out.live.bel).cell 0
    have x1 : w12.cell? ⟨q, 1, none⟩ = some (.int .u8 (e1.toNat : Int)) := (X2.out.below H12.out.live.bel).cell 1
    go_wp2_with (show wpList _ _ _ ({ dst := some 52, op := .build 37 #[(0, .tmp 49), (1, .tmp 51), (2, .const (.int .u8 7))], type := _, pos := _, after := _, guard := _ } :: _) _ _; apply Classical.byContradiction; intro hneg)
    refine hneg ?_
    clear hneg
    refine wpList_build rfl 37 #[(0, .tmp 49), (1, .tmp 51), (2, .const (.int .u8 7))] rfl (v := .agg (bva y)) ?hbld ?_
    case hbld => (simp only [List.map_toArray, List.map_cons, List.map_nil]; exact HBY.out _)
    clear a1 x0 x1
    go_wp2_with (show wpList _ _ _ ({ dst := none, op := .store 37 (.tmp 14) (.tmp 52), type := _, pos := _, after := _, guard := _ } :: _) _ _; apply Classical.byContradiction; intro hneg)
    refine hneg ?_
    clear hneg
    refine wpList_store_row rfl 37 (.tmp 14) (.tmp 52) rfl w12.heap.size (bva y) rfl rfl 37 (bva z) (heap_alloc_new _ _) HIY.out (by rw [bva_size, bva_size, HY3.out, HZ3.out]) (bva_one _) ?_
    obtain ⟨w13, hw13⟩ : ∃ w13, w13 = (w12.alloc (.cells (bva z) 37)).setRow w12.heap.size (bva y) := ⟨_, rfl⟩
    have bw : Below w12.heap.size w12 w13 := by rw [hw13]; exact below_setRow ((Below.refl _ _).alloc (Nat.le_refl _) _) (Nat.le_refl _) _
    have hbx : Blk w13 w12.heap.size (bva y) 37 := by rw [hw13]; exact setRow_heap _ _ _ _ _ _ (heap_alloc_new _ _)
    rw [← hw13]
    clear hw13
    obtain ⟨b13, hb13⟩ : ∃ b13, b13 = w12.heap.size := ⟨_, rfl⟩
    rw [← hb13] at hbx
    rw [← hb13]
    have BY13 := Lib.hid (show Bx w2 w13 F11 b13 (bva y) 37 from ⟨hbx, by rw [hb13]; exact H12.out.live.bel.size, fun hf => by have := (ML (Mu.one pw g1 g2) gG g).lt H12.out.live.at_ _ hf; omega⟩)
    clear hb13 hbx
    have H13 := Lib.hid (H12.out.below bw)
    have BA13 := Lib.hid (BA12.out.below bw)
    clear bw H12 BA12
    go_wp2_with fail
    have hc := Mu.lm_out0 H13.out true
    refine hc.mono ?_
    clear hc
    rintro e w14 ⟨rfl, s14, F14, h, hm14⟩
    have H14 := Lib.hid (show Mu.LM pw g1 g2 gG g w2 w14 s14 F14 ((zerosM k).out 0 true) 0 from h)
    have BA14 := Lib.hid (bx_dev BA13.out hm14.new hm14.but)
    have BY14 := Lib.hid (bx_dev BY13.out hm14.new hm14.but)
    clear h hm14 H13 BA13 BY13
    have HMW := Lib.hid (miss_write HJ.out y)
    obtain ⟨xm, hxm⟩ : ∃ xm, xm = (((zerosM k).out 0 true).write j y).2 := ⟨_, rfl⟩
    have HMX := Lib.hid (show xm.out 0 false = missM k j y by rw [hxm]; exact HMW.out.2)
    go_wp2_with (first
      | (refine wpList_load_row rfl 37 (.tmp 14) rfl _ rfl 37 (bva y) (0, 0) _ BY14.out.1 Try.underlying37 rfl HIY.out ?_))
    have hc := Mu.lm_write H14.out j y HY3.out (by omega)
    rw [HMW.out.1, ← hxm] at hc
    refine hc.mono ?_
    clear hc
    rintro e w15 ⟨rfl, s15, F15, h, hm15⟩
    have H15 := Lib.hid (show Mu.LM pw g1 g2 gG g w2 w15 s15 F15 xm (0 + 2) from h)
    have BA15 := Lib.hid (bx_dev BA14.out hm15.new hm15.but)
    have BY15 := Lib.hid (bx_dev BY14.out hm15.new hm15.but)
    clear h hm15 H14 BA14 BY14
    clear hxm HMW
    go_wp2_with fail
    have hc := lm_out0_off H15.out
    rw [HMX.out] at hc
    refine hc.mono ?_
    clear hc
    rintro e w16 ⟨rfl, s16, F16, h, hm16⟩
    have H16 := Lib.hid (show Mu.LM pw g1 g2 gG g w2 w16 s16 F16 (missM k j y) (0 + 2) from h)
    have BA16 := Lib.hid (bx_dev BA15.out hm16.new hm16.but)
    have BY16 := Lib.hid (bx_dev BY15.out hm16.new hm16.but)
    clear h hm16 H15 BA15 BY15
    obtain ⟨wr, hwn, hrun, hwh, hwl⟩ := miss_run (f := goodN) (y := y) HJ.out k (Nat.le_refl _)
    have HLM := Lib.hid (show (missM k j y).a.length = k by simp [missM])
    obtain ⟨ct1, ct2, ct3⟩ := cnt_one k HK.out.1 j HJ.out
    have HGD := Lib.hid (fun W : World => good_any W j y HY3.out)
    obtain ⟨gd, hgd⟩ : ∃ gd, gd = goodN j y := ⟨_, rfl⟩
    rw [← hgd] at HGD hrun hwh hwl
    obtain ⟨r2, hr2⟩ : ∃ r2, r2 = wr.r := ⟨_, rfl⟩
    obtain ⟨l2, hl2⟩ : ∃ l2, l2 = wr.l := ⟨_, rfl⟩
    have jk := HJ.out
    clear hgd
    cases gd
    case false =>
      have HRX := Lib.hid (show mdRun gG.f (missM k j y, Wk.zero) (missM k j y).a.length = (missM k j y, wr) by rw [HLM.out]; exact hrun.trans (by simp [jk]))
      have HRR := Lib.hid (show wr.rep = #[.int .i64 r2, .int .i64 0, .int .i64 l2] by rw [rep_form, hr2, hl2, hwh]; simp [jk])
      have HL2 := Lib.hid (show 1 ≤ l2 from by rw [hl2]; exact hwl jk rfl)
      have HCA := Lib.hid (show cnt (missM k j y).a = 1 from ct1)
      have HP0 := Lib.hid (show (if (missM k j y).o0 = false ∧ (0 : Int) ≤ (j : Int) ∧ (j : Int) < ((missM k j y).a.length : Int) then (missM k j y).l0.getD (j : Int).toNat zeroS else zeroS) = zeroS by
        rw [if_pos ⟨rfl, by omega, by simp [missM]; omega⟩, Int.toNat_natCast]
        exact zero_getD k j)
      have HP1 := Lib.hid (show (if (missM k j y).o1 = false ∧ (0 : Int) ≤ (j : Int) ∧ (j : Int) < ((missM k j y).a.length : Int) then (missM k j y).l1.getD (j : Int).toNat zeroS else zeroS) = y by
        rw [if_pos ⟨rfl, by omega, by simp [missM]; omega⟩, Int.toNat_natCast]
        show ((List.replicate k zeroS).set j y).getD j zeroS = y; rw [set_getD _ _ _ _ (by rw [List.length_replicate]; exact jk), if_pos rfl])
      have HE0 := Lib.hid (show (if (missM k j y).o0 = true then (13 : Int) else if (j : Int) < 0 ∨ ((missM k j y).a.length : Int) ≤ (j : Int) then 2 else 0) = 0 by rw [if_neg (by simp [missM]), if_neg (by simp [missM]; omega)])
      have HE1 := Lib.hid (show (if (missM k j y).o1 = true then (13 : Int) else if (j : Int) < 0 ∨ ((missM k j y).a.length : Int) ≤ (j : Int) then 2 else 0) = 0 by rw [if_neg (by simp [missM]), if_neg (by simp [missM]; omega)])
      obtain ⟨cb, hcb⟩ : ∃ cb, cb = cnt (missM k j y).b := ⟨_, rfl⟩
      obtain ⟨p0, hp0⟩ : ∃ p0, p0 = zeroS := ⟨_, rfl⟩
      have HP0 := Lib.hid (HP0.out.trans hp0.symm)
      have HP3 := Lib.hid (show p0.length = 128 by rw [hp0]; exact zeroS_length)
      have HPE := Lib.hid hp0
      have HIP : Hid ((Try.prog.info? 37).map (·.size) = some (bva p0).size) := by rw [bva_size, HP3.out]; exact info_sec
      clear hwn hrun hwh hwl ct1 ct2 ct3 hr2 hl2 hp0 jk
      go_wp2_with fail
      have hc := lm_all H16.out (by rw [HLM.out]; have := HK.out; omega) (by omega)
      rw [HRX.out] at hc
      refine hc.mono ?_
      clear hc
      rintro e w17 ⟨rfl, s17, F17, h, hm17⟩
      have H17 := Lib.hid (show Mu.LM pw g1 g2 gG g w2 w17 s17 F17 (missM k j y) (0 + 2 + (missM k j y).a.length) from h)
      have BA17 := Lib.hid (bx_dev BA16.out hm17.new hm17.but)
      have BY17 := Lib.hid (bx_dev BY16.out hm17.new hm17.but)
      clear h hm17 H16 BA16 BY16
      rw [HRR.out]
      go_wp2_with (show wpList _ _ _ ({ dst := none, op := .store 32 (.tmp 16) (.tmp 62), type := _, pos := _, after := _, guard := _ } :: _) _ _; apply Classical.byContradiction; intro hneg)
      refine hneg ?_
      clear hneg
      refine wpList_store_row rfl 32 (.tmp 16) (.tmp 62) rfl w17.heap.size #[.int .i64 r2, .int .i64 0, .int .i64 l2] rfl rfl 32 #[.int .i64 0, .int .i64 0, .int .i64 0] (heap_alloc_new _ _) wk_info rfl (by simp [Value.oneCell']) ?_
      obtain ⟨w18, hw18⟩ : ∃ w18, w18 = (w17.alloc (.cells #[.int .i64 0, .int .i64 0, .int .i64 0] 32)).setRow w17.heap.size #[.int .i64 r2, .int .i64 0, .int .i64 l2] := ⟨_, rfl⟩
      have bw : Below w17.heap.size w17 w18 := by rw [hw18]; exact below_setRow ((Below.refl _ _).alloc (Nat.le_refl _) _) (Nat.le_refl _) _
      have hbx : Blk w18 w17.heap.size #[.int .i64 r2, .int .i64 0, .int .i64 l2] 32 := by rw [hw18]; exact setRow_heap _ _ _ _ _ _ (heap_alloc_new _ _)
      rw [← hw18]
      clear hw18
      obtain ⟨b18, hb18⟩ : ∃ b18, b18 = w17.heap.size := ⟨_, rfl⟩
      rw [← hb18] at hbx
      rw [← hb18]
      have BR18 := Lib.hid (show Bx w2 w18 F17 b18 #[.int .i64 r2, .int .i64 0, .int .i64 l2] 32 from ⟨hbx, by rw [hb18]; exact H17.out.live.bel.size, fun hf => by have := (ML (Mu.one pw g1 g2) gG g).lt H17.out.live.at_ _ hf; omega⟩)
      clear hb18 hbx
      have H18 := Lib.hid (H17.out.below bw)
      have BA18 := Lib.hid (BA17.out.below bw)
      have BY18 := Lib.hid (BY17.out.below bw)
      clear bw H17 BA17 BY17
      go_wp2_with fail
      have hc := Mu.lm_stale H18.out
      rw [HCA.out, ← hcb] at hc
      refine hc.mono ?_
      clear hc
      rintro e w19 ⟨rfl, bw⟩
      have H19 := Lib.hid (H18.out.below bw)
      have BA19 := Lib.hid (BA18.out.below bw)
      have BY19 := Lib.hid (BY18.out.below bw)
      have BR19 := Lib.hid (BR18.out.below bw)
      clear bw H18 BA18 BY18 BR18
      clear hcb
      go_wp2_with fail
      have hc := Mu.lm_dread0 H19.out (j : Int)
      rw [HP0.out, HE0.out] at hc
      refine hc.mono ?_
      clear hc
      rintro e w20 ⟨rfl, bw⟩
      have H20 := Lib.hid (H19.out.below bw)
      have BA20 := Lib.hid (BA19.out.below bw)
      have BY20 := Lib.hid (BY19.out.below bw)
      have BR20 := Lib.hid (BR19.out.below bw)
      clear bw H19 BA19 BY19 BR19
      go_wp2_with (show wpList _ _ _ ({ dst := none, op := .store 37 (.tmp 19) (.tmp 72), type := _, pos := _, after := _, guard := _ } :: _) _ _; apply Classical.byContradiction; intro hneg)
      refine hneg ?_
      clear hneg
      refine wpList_store_row rfl 37 (.tmp 19) (.tmp 72) rfl w20.heap.size (bva p0) rfl rfl 37 (bva z) (heap_alloc_new _ _) HIP.out (by rw [bva_size, bva_size, HP3.out, HZ3.out]) (bva_one _) ?_
      obtain ⟨w21, hw21⟩ : ∃ w21, w21 = (w20.alloc (.cells (bva z) 37)).setRow w20.heap.size (bva p0) := ⟨_, rfl⟩
      have bw : Below w20.heap.size w20 w21 := by rw [hw21]; exact below_setRow ((Below.refl _ _).alloc (Nat.le_refl _) _) (Nat.le_refl _) _
      have hbx : Blk w21 w20.heap.size (bva p0) 37 := by rw [hw21]; exact setRow_heap _ _ _ _ _ _ (heap_alloc_new _ _)
      rw [← hw21]
      clear hw21
      obtain ⟨b21, hb21⟩ : ∃ b21, b21 = w20.heap.size := ⟨_, rfl⟩
      rw [← hb21] at hbx
      rw [← hb21]
      have BP21 := Lib.hid (show Bx w2 w21 F17 b21 (bva p0) 37 from ⟨hbx, by rw [hb21]; exact H20.out.live.bel.size, fun hf => by have := (ML (Mu.one pw g1 g2) gG g).lt H20.out.live.at_ _ hf; omega⟩)
      clear hb21 hbx
      have H21 := Lib.hid (H20.out.below bw)
      have BA21 := Lib.hid (BA20.out.below bw)
      have BY21 := Lib.hid (BY20.out.below bw)
      have BR21 := Lib.hid (BR20.out.below bw)
      clear bw H20 BA20 BY20 BR20
      go_wp2_with fail
      have hc := Mu.lm_dread1 H21.out (j : Int)
      rw [HP1.out, HE1.out] at hc
      refine hc.mono ?_
      clear hc
      rintro e w22 ⟨rfl, bw⟩
      have H22 := Lib.hid (H21.out.below bw)
      have BA22 := Lib.hid (BA21.out.below bw)
      have BY22 := Lib.hid (BY21.out.below bw)
      have BR22 := Lib.hid (BR21.out.below bw)
      have BP22 := Lib.hid (BP21.out.below bw)
      clear bw H21 BA21 BY21 BR21 BP21
      go_wp2_with (show wpList _ _ _ ({ dst := none, op := .store 37 (.tmp 21) (.tmp 78), type := _, pos := _, after := _, guard := _ } :: _) _ _; apply Classical.byContradiction; intro hneg)
      refine hneg ?_
      clear hneg
      refine wpList_store_row rfl 37 (.tmp 21) (.tmp 78) rfl w22.heap.size (bva y) rfl rfl 37 (bva z) (heap_alloc_new _ _) HIY.out (by rw [bva_size, bva_size, HY3.out, HZ3.out]) (bva_one _) ?_
      obtain ⟨w23, hw23⟩ : ∃ w23, w23 = (w22.alloc (.cells (bva z) 37)).setRow w22.heap.size (bva y) := ⟨_, rfl⟩
      have bw : Below w22.heap.size w22 w23 := by rw [hw23]; exact below_setRow ((Below.refl _ _).alloc (Nat.le_refl _) _) (Nat.le_refl _) _
      have hbx : Blk w23 w22.heap.size (bva y) 37 := by rw [hw23]; exact setRow_heap _ _ _ _ _ _ (heap_alloc_new _ _)
      rw [← hw23]
      clear hw23
      obtain ⟨b23, hb23⟩ : ∃ b23, b23 = w22.heap.size := ⟨_, rfl⟩
      rw [← hb23] at hbx
      rw [← hb23]
      have BQ23 := Lib.hid (show Bx w2 w23 F17 b23 (bva y) 37 from ⟨hbx, by rw [hb23]; exact H22.out.live.bel.size, fun hf => by have := (ML (Mu.one pw g1 g2) gG g).lt H22.out.live.at_ _ hf; omega⟩)
      clear hb23 hbx
      have H23 := Lib.hid (H22.out.below bw)
      have BA23 := Lib.hid (BA22.out.below bw)
      have BY23 := Lib.hid (BY22.out.below bw)
      have BR23 := Lib.hid (BR22.out.below bw)
      have BP23 := Lib.hid (BP22.out.below bw)
      clear bw H22 BA22 BY22 BR22 BP22
      go_wp2_with (first
        | (refine wpList_load_row rfl 37 (.tmp 14) rfl _ rfl 37 (bva y) (0, 0) _ BY23.out.1 Try.underlying37 rfl HIY.out ?_))
      have hc := HGD.out w23
      refine hc.mono ?_
      clear hc
      rintro e w24 ⟨rfl, bw⟩
      have H24 := Lib.hid (H23.out.below bw)
      have BA24 := Lib.hid (BA23.out.below bw)
      have BY24 := Lib.hid (BY23.out.below bw)
      have BR24 := Lib.hid (BR23.out.below bw)
      have BP24 := Lib.hid (BP23.out.below bw)
      have BQ24 := Lib.hid (BQ23.out.below bw)
      clear bw H23 BA23 BY23 BR23 BP23 BQ23
      have c1 : w24.cell? ⟨b18, 2, none⟩ = some (.int .i64 l2) := BR24.out.1.cell 2
      have g1 : (l2 : Int) ≥ 1 := by have := HL2.out; omega
      go_wp2_with fail
      go_ret
      exact ⟨rfl, B2.out.trans (H24.out.live.bel.mono B2.out.size)⟩
    case true =>
      have HRX := Lib.hid (show mdRun gG.f (missM k j y, Wk.zero) (missM k j y).a.length = (healM k j y, wr) by rw [HLM.out]; exact hrun.trans (by simp [jk]))
      have HRR := Lib.hid (show wr.rep = #[.int .i64 r2, .int .i64 1, .int .i64 l2] by rw [rep_form, hr2, hl2, hwh]; simp [jk])
      have HL2 := Lib.hid (show True from trivial)
      have HCA := Lib.hid (show cnt (healM k j y).a = 0 from ct2)
      have HP0 := Lib.hid (show (if (healM k j y).o0 = false ∧ (0 : Int) ≤ (j : Int) ∧ (j : Int) < ((healM k j y).a.length : Int) then (healM k j y).l0.getD (j : Int).toNat zeroS else zeroS) = y by
        rw [if_pos ⟨rfl, by omega, by simp [healM]; omega⟩, Int.toNat_natCast]
        show ((List.replicate k zeroS).set j y).getD j zeroS = y; rw [set_getD _ _ _ _ (by rw [List.length_replicate]; exact jk), if_pos rfl])
      have HP1 := Lib.hid (show (if (healM k j y).o1 = false ∧ (0 : Int) ≤ (j : Int) ∧ (j : Int) < ((healM k j y).a.length : Int) then (healM k j y).l1.getD (j : Int).toNat zeroS else zeroS) = y by
        rw [if_pos ⟨rfl, by omega, by simp [healM]; omega⟩, Int.toNat_natCast]
        show ((List.replicate k zeroS).set j y).getD j zeroS = y; rw [set_getD _ _ _ _ (by rw [List.length_replicate]; exact jk), if_pos rfl])
      have HE0 := Lib.hid (show (if (healM k j y).o0 = true then (13 : Int) else if (j : Int) < 0 ∨ ((healM k j y).a.length : Int) ≤ (j : Int) then 2 else 0) = 0 by rw [if_neg (by simp [healM]), if_neg (by simp [healM]; omega)])
      have HE1 := Lib.hid (show (if (healM k j y).o1 = true then (13 : Int) else if (j : Int) < 0 ∨ ((healM k j y).a.length : Int) ≤ (j : Int) then 2 else 0) = 0 by rw [if_neg (by simp [healM]), if_neg (by simp [healM]; omega)])
      obtain ⟨cb, hcb⟩ : ∃ cb, cb = cnt (healM k j y).b := ⟨_, rfl⟩
      obtain ⟨p0, hp0⟩ : ∃ p0, p0 = y := ⟨_, rfl⟩
      have HP0 := Lib.hid (HP0.out.trans hp0.symm)
      have HP3 := Lib.hid (show p0.length = 128 by rw [hp0]; exact HY3.out)
      have HPE := Lib.hid hp0
      have HIP : Hid ((Try.prog.info? 37).map (·.size) = some (bva p0).size) := by rw [bva_size, HP3.out]; exact info_sec
      clear hwn hrun hwh hwl ct1 ct2 ct3 hr2 hl2 hp0 jk
      go_wp2_with fail
      have hc := lm_all H16.out (by rw [HLM.out]; have := HK.out; omega) (by omega)
      rw [HRX.out] at hc
      refine hc.mono ?_
      clear hc
      rintro e w17 ⟨rfl, s17, F17, h, hm17⟩
      have H17 := Lib.hid (show Mu.LM pw g1 g2 gG g w2 w17 s17 F17 (healM k j y) (0 + 2 + (missM k j y).a.length) from h)
      have BA17 := Lib.hid (bx_dev BA16.out hm17.new hm17.but)
      have BY17 := Lib.hid (bx_dev BY16.out hm17.new hm17.but)
      clear h hm17 H16 BA16 BY16
      rw [HRR.out]
      go_wp2_with (show wpList _ _ _ ({ dst := none, op := .store 32 (.tmp 16) (.tmp 62), type := _, pos := _, after := _, guard := _ } :: _) _ _; apply Classical.byContradiction; intro hneg)
      refine hneg ?_
      clear hneg
      refine wpList_store_row rfl 32 (.tmp 16) (.tmp 62) rfl w17.heap.size #[.int .i64 r2, .int .i64 1, .int .i64 l2] rfl rfl 32 #[.int .i64 0, .int .i64 0, .int .i64 0] (heap_alloc_new _ _) wk_info rfl (by simp [Value.oneCell']) ?_
      obtain ⟨w18, hw18⟩ : ∃ w18, w18 = (w17.alloc (.cells #[.int .i64 0, .int .i64 0, .int .i64 0] 32)).setRow w17.heap.size #[.int .i64 r2, .int .i64 1, .int .i64 l2] := ⟨_, rfl⟩
      have bw : Below w17.heap.size w17 w18 := by rw [hw18]; exact below_setRow ((Below.refl _ _).alloc (Nat.le_refl _) _) (Nat.le_refl _) _
      have hbx : Blk w18 w17.heap.size #[.int .i64 r2, .int .i64 1, .int .i64 l2] 32 := by rw [hw18]; exact setRow_heap _ _ _ _ _ _ (heap_alloc_new _ _)
      rw [← hw18]
      clear hw18
      obtain ⟨b18, hb18⟩ : ∃ b18, b18 = w17.heap.size := ⟨_, rfl⟩
      rw [← hb18] at hbx
      rw [← hb18]
      have BR18 := Lib.hid (show Bx w2 w18 F17 b18 #[.int .i64 r2, .int .i64 1, .int .i64 l2] 32 from ⟨hbx, by rw [hb18]; exact H17.out.live.bel.size, fun hf => by have := (ML (Mu.one pw g1 g2) gG g).lt H17.out.live.at_ _ hf; omega⟩)
      clear hb18 hbx
      have H18 := Lib.hid (H17.out.below bw)
      have BA18 := Lib.hid (BA17.out.below bw)
      have BY18 := Lib.hid (BY17.out.below bw)
      clear bw H17 BA17 BY17
      go_wp2_with fail
      have hc := Mu.lm_stale H18.out
      rw [HCA.out, ← hcb] at hc
      refine hc.mono ?_
      clear hc
      rintro e w19 ⟨rfl, bw⟩
      have H19 := Lib.hid (H18.out.below bw)
      have BA19 := Lib.hid (BA18.out.below bw)
      have BY19 := Lib.hid (BY18.out.below bw)
      have BR19 := Lib.hid (BR18.out.below bw)
      clear bw H18 BA18 BY18 BR18
      clear hcb
      go_wp2_with fail
      have hc := Mu.lm_dread0 H19.out (j : Int)
      rw [HP0.out, HE0.out] at hc
      refine hc.mono ?_
      clear hc
      rintro e w20 ⟨rfl, bw⟩
      have H20 := Lib.hid (H19.out.below bw)
      have BA20 := Lib.hid (BA19.out.below bw)
      have BY20 := Lib.hid (BY19.out.below bw)
      have BR20 := Lib.hid (BR19.out.below bw)
      clear bw H19 BA19 BY19 BR19
      go_wp2_with (show wpList _ _ _ ({ dst := none, op := .store 37 (.tmp 19) (.tmp 72), type := _, pos := _, after := _, guard := _ } :: _) _ _; apply Classical.byContradiction; intro hneg)
      refine hneg ?_
      clear hneg
      refine wpList_store_row rfl 37 (.tmp 19) (.tmp 72) rfl w20.heap.size (bva p0) rfl rfl 37 (bva z) (heap_alloc_new _ _) HIP.out (by rw [bva_size, bva_size, HP3.out, HZ3.out]) (bva_one _) ?_
      obtain ⟨w21, hw21⟩ : ∃ w21, w21 = (w20.alloc (.cells (bva z) 37)).setRow w20.heap.size (bva p0) := ⟨_, rfl⟩
      have bw : Below w20.heap.size w20 w21 := by rw [hw21]; exact below_setRow ((Below.refl _ _).alloc (Nat.le_refl _) _) (Nat.le_refl _) _
      have hbx : Blk w21 w20.heap.size (bva p0) 37 := by rw [hw21]; exact setRow_heap _ _ _ _ _ _ (heap_alloc_new _ _)
      rw [← hw21]
      clear hw21
      obtain ⟨b21, hb21⟩ : ∃ b21, b21 = w20.heap.size := ⟨_, rfl⟩
      rw [← hb21] at hbx
      rw [← hb21]
      have BP21 := Lib.hid (show Bx w2 w21 F17 b21 (bva p0) 37 from ⟨hbx, by rw [hb21]; exact H20.out.live.bel.size, fun hf => by have := (ML (Mu.one pw g1 g2) gG g).lt H20.out.live.at_ _ hf; omega⟩)
      clear hb21 hbx
      have H21 := Lib.hid (H20.out.below bw)
      have BA21 := Lib.hid (BA20.out.below bw)
      have BY21 := Lib.hid (BY20.out.below bw)
      have BR21 := Lib.hid (BR20.out.below bw)
      clear bw H20 BA20 BY20 BR20
      go_wp2_with fail
      have hc := Mu.lm_dread1 H21.out (j : Int)
      rw [HP1.out, HE1.out] at hc
      refine hc.mono ?_
      clear hc
      rintro e w22 ⟨rfl, bw⟩
      have H22 := Lib.hid (H21.out.below bw)
      have BA22 := Lib.hid (BA21.out.below bw)
      have BY22 := Lib.hid (BY21.out.below bw)
      have BR22 := Lib.hid (BR21.out.below bw)
      have BP22 := Lib.hid (BP21.out.below bw)
      clear bw H21 BA21 BY21 BR21 BP21
      go_wp2_with (show wpList _ _ _ ({ dst := none, op := .store 37 (.tmp 21) (.tmp 78), type := _, pos := _, after := _, guard := _ } :: _) _ _; apply Classical.byContradiction; intro hneg)
      refine hneg ?_
      clear hneg
      refine wpList_store_row rfl 37 (.tmp 21) (.tmp 78) rfl w22.heap.size (bva y) rfl rfl 37 (bva z) (heap_alloc_new _ _) HIY.out (by rw [bva_size, bva_size, HY3.out, HZ3.out]) (bva_one _) ?_
      obtain ⟨w23, hw23⟩ : ∃ w23, w23 = (w22.alloc (.cells (bva z) 37)).setRow w22.heap.size (bva y) := ⟨_, rfl⟩
      have bw : Below w22.heap.size w22 w23 := by rw [hw23]; exact below_setRow ((Below.refl _ _).alloc (Nat.le_refl _) _) (Nat.le_refl _) _
      have hbx : Blk w23 w22.heap.size (bva y) 37 := by rw [hw23]; exact setRow_heap _ _ _ _ _ _ (heap_alloc_new _ _)
      rw [← hw23]
      clear hw23
      obtain ⟨b23, hb23⟩ : ∃ b23, b23 = w22.heap.size := ⟨_, rfl⟩
      rw [← hb23] at hbx
      rw [← hb23]
      have BQ23 := Lib.hid (show Bx w2 w23 F17 b23 (bva y) 37 from ⟨hbx, by rw [hb23]; exact H22.out.live.bel.size, fun hf => by have := (ML (Mu.one pw g1 g2) gG g).lt H22.out.live.at_ _ hf; omega⟩)
      clear hb23 hbx
      have H23 := Lib.hid (H22.out.below bw)
      have BA23 := Lib.hid (BA22.out.below bw)
      have BY23 := Lib.hid (BY22.out.below bw)
      have BR23 := Lib.hid (BR22.out.below bw)
      have BP23 := Lib.hid (BP22.out.below bw)
      clear bw H22 BA22 BY22 BR22 BP22
      go_wp2_with (first
        | (refine wpList_load_row rfl 37 (.tmp 14) rfl _ rfl 37 (bva y) (0, 0) _ BY23.out.1 Try.underlying37 rfl HIY.out ?_))
      have hc := HGD.out w23
      refine hc.mono ?_
      clear hc
      rintro e w24 ⟨rfl, bw⟩
      have H24 := Lib.hid (H23.out.below bw)
      have BA24 := Lib.hid (BA23.out.below bw)
      have BY24 := Lib.hid (BY23.out.below bw)
      have BR24 := Lib.hid (BR23.out.below bw)
      have BP24 := Lib.hid (BP23.out.below bw)
      have BQ24 := Lib.hid (BQ23.out.below bw)
      clear bw H23 BA23 BY23 BR23 BP23 BQ23
      have c1 : w24.cell? ⟨b18, 1, none⟩ = some (.int .i64 1) := BR24.out.1.cell 1
      have HQ := Lib.hid (show ∀ W, (Op.equalIn 10000 37 (.agg (bva p0)) (.agg (bva y))).run Try.prog W = .ok true W from fun W => by rw [eq_sec p0 y HP3.out HY3.out, decide_eq_true HPE.out])
      have HQ2 := Lib.hid (show ∀ W, (Op.equalIn 10000 37 (.agg (bva y)) (.agg (bva y))).run Try.prog W = .ok true W from fun W => by rw [eq_sec y y HY3.out HY3.out, decide_eq_true rfl])
      have hq := HQ.out
      have hq2 := HQ2.out
      go_wp2_with (first
        | (refine wpList_load_if (by rfl) 37 (.tmp 19) rfl rfl BP24.out.1 Try.underlying37 rfl HIP.out ?_)
        | (refine wpList_load_if (by rfl) 37 (.tmp 14) rfl rfl BY24.out.1 Try.underlying37 rfl HIY.out ?_)
        | (refine wpList_load_if (by rfl) 37 (.tmp 21) rfl rfl BQ24.out.1 Try.underlying37 rfl HIY.out ?_))
      go_ret
      exact ⟨rfl, B2.out.trans (H24.out.live.bel.mono B2.out.size)⟩
theorem scrubStale_own : ownKnob Try.prog.godebug = none := by kernel_rfl
theorem scrubStale_laid : laidOutB Try.prog = true := by kernel_rfl

set_option maxRecDepth 100000 in
theorem scrubStale_lifted (os : Os) (started : os.Started) (H : Type) (enc : TypeId × Value → H) :
    ReturnsInHanded {} Try.checked os 8 .any (Rows.scrubStaleSpec.pre6 enc Try.prog Try.f8 Rows.scrubStaleRow.domain false) (Rows.scrubStaleSpec.post enc Try.prog Try.f8 false true false false) := by
  refine returnsInHanded_of_change (C := Try.checked) scrubStale_own started (by kernel_rfl) Try.func8
    (ChangeSpec.witness6 (enc := enc) (C := Try.checked) false ⟨#[], #[.int .u8 0, .int .u8 0, .agg #[.int .u8 0, .int .u8 0]], []⟩ 8 (by kernel_rfl) (by kernel_rfl) (by kernel_rfl) (by kernel_rfl)) ?_
  intro W base args ds gs before hval0 hW _ _
  have hval : ∀ (j : Nat) t v, Try.f8.params[j]? = some t → args[j]? = some v → Value.okWide Try.prog W .any base t v := hval0
  have hW' := hW
  obtain ⟨p, q, hA0, hV, rfl, hfz, hnd⟩ := hW
  have hA : DataW.TrodAll enc Try.prog W 0 (fun _ => true) true Try.f8.params.toList args.toList ds p := hA0
  rw [Try.params8] at hA hval
  obtain ⟨v0, vs0, d0, ds0, p0, q0, hargs, rfl, rfl, h0, r0⟩ := trodAll_cons hA
  obtain ⟨v1, vs1, d1, ds1, p1, q1, rfl, rfl, rfl, h1, r1⟩ := trodAll_cons r0
  obtain ⟨v2, vs2, d2, ds2, p2, q2, rfl, rfl, rfl, h2, r2⟩ := trodAll_cons r1
  obtain ⟨rfl, rfl, rfl⟩ := trodAll_nil r2
  obtain rfl : args = #[v0, v1, v2] := by cases args; simp_all
  obtain ⟨rfl, rfl⟩ := trodVars_none hV
  obtain ⟨a0, rfl, rfl, rfl, w0⟩ := open_int Try.underlying5 (hval 0 5 v0 rfl rfl) h0
  have b0 := bounds_u8 w0
  obtain ⟨a1, rfl, rfl, rfl, w1⟩ := open_int Try.underlying5 (hval 1 5 v1 rfl rfl) h1
  have b1 := bounds_u8 w1
  have lt2 : ∀ x ∈ p2, x.block < W.heap.size := by obtain ⟨m, hm⟩ := h2; exact DataW.trod_lt m _ _ _ hm
  obtain ⟨l2, hl2, rfl⟩ := open_u8s Try.underlying54 Try.underlying5 (by kernel_rfl) (by kernel_rfl) (hval 2 54 v2 rfl rfl) h2
  clear hA0 hval0
  refine (scrubStale_any W a0 b0 a1 b1 l2 hl2).mono fun e W' ⟨he, bel⟩ => ?_
  subst he
  exact ⟨_, rfl, _, _, _, [], _, [], hW', trodAll_mk1 (shut_bool Try.underlying4 _), (trodAll_cons_mk (shut_int Try.underlying5 w0) (trodAll_cons_mk (shut_int Try.underlying5 w1) (trodAll_cons_mk (Below.trod scrubStale_laid (by kernel_rfl) (of_decide_eq_true (by kernel_rfl)) h2 bel lt2) trodAll_mk0))), rfl, bel.frame _, fun h => by cases h⟩

theorem scrubStale_holds : Rows.ScrubStaleSaid :=
  OpenClaim.holds_of_wide 8 Try.f8 rfl rfl rfl rfl rfl rfl rfl ⟨rfl, rfl, rfl, rfl, rfl⟩ rfl rfl rfl rfl rfl (by kernel_rfl) Try.func8 (by kernel_rfl)
    (of_decide_eq_true (by kernel_rfl)) (by unfold Func.isWrapper; rw [if_neg (of_decide_eq_false (by kernel_rfl))]; exact ⟨rfl, rfl⟩)
    (fun os started H enc _ => scrubStale_lifted os started H enc)

#print axioms scrubStale_holds

end Go.Proofs.Ytniamllcoemikaa
