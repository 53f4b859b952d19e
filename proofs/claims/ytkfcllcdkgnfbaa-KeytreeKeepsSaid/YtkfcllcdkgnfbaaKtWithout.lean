/-
  The contract of the reference's without: what is held of a node without a leaf.
-/
import Derived.Test.YtkfcllcdkgnfbaaKtBuild
import Derived.Test.YtkfcllcdkgnfbaaKtSplit
namespace Go.Proofs.Ytkfcllcdkgnfbaa.Kt
open Go.RowKit
attribute [local go_sem ↓] Go.wp_at_zero Go.wp_at_succ
/-- The two below a node. -/
def ndL (x : Nd) : Nd := ⟨x.d + 1, x.a, leftK x.s⟩
def ndR (x : Nd) : Nd := ⟨x.d + 1, IntKind.u64.wrap (x.a + manyI (x.d + 1)), rightK x.s⟩
/-- What is held of a node without a leaf, as far as so many levels below it. -/
def woL : Nat → Nd → Int → List Nd
  | 0, x, m => if inI x m then [] else [x]
  | f + 1, x, m => if inI x m then woL f (ndL x) m ++ woL f (ndR x) m else [x]
theorem woL_len : ∀ (f : Nat) (x : Nd) (m : Int), x.s.length = 32 → ∀ y ∈ woL f x m, y.s.length = 32
  | 0, x, m, h, y, hy => by
    unfold woL at hy; split at hy
    · simp at hy
    · simp at hy; rw [hy]; exact h
  | f + 1, x, m, h, y, hy => by
    unfold woL at hy; split at hy
    · rcases List.mem_append.1 hy with hy | hy
      · exact woL_len f _ m (leftK_length _) y hy
      · exact woL_len f _ m (rightK_length _) y hy
    · simp at hy; rw [hy]; exact h
theorem woL_count : ∀ (f : Nat) (x : Nd) (m : Int), (woL f x m).length ≤ 2 ^ f
  | 0, x, m => by unfold woL; split <;> simp
  | f + 1, x, m => by
    unfold woL; split
    · have h1 := woL_count f (ndL x) m
      have h2 := woL_count f (ndR x) m
      rw [List.length_append, Nat.pow_succ]; omega
    · exact Nat.one_le_two_pow
theorem u64_pos (z : Int) : 0 ≤ IntKind.u64.wrap z := by
  have h : IntKind.u64.wrap z = z % 18446744073709551616 := by simp [IntKind.wrap, IntKind.signed, IntKind.bits]
  rw [h]; omega
theorem own_moreN {w : World} {base base' n size : Nat} {e : TypeId} {v : Value} {xs : List Value} (h : w.ownsRow base e size v n xs) (hb : base' ≤ base) : w.ownsRow base' e size v n xs := by
  refine ⟨h.1, ?_⟩
  rcases h.2 with h0 | ⟨g, cap, cur, h1, h2, h3⟩
  · exact .inl h0
  · exact .inr ⟨g, cap, cur, h1, Nat.le_trans hb h2, h3⟩
theorem blk_old1 {w : World} {g : Nat} {cs : Array Value} {t : TypeId} {A : Obj} (h : Blk w g cs t) : Blk (w.alloc A) g cs t := (heap_alloc_old _ _ h.lt).trans h
set_option maxRecDepth 100000 in
set_option maxHeartbeats 3200000 in
theorem without_any : ∀ (f : Nat) (x : Nd) (_hf : f ≤ 17) (_hd : x.d = 17 - (f : Int)) (_hs : x.s.length = 32) (_ha : 0 ≤ x.a) (m : Int) (_hm : m < 18446744073709551616) (w : World),
    Calls Try.prog 31 #[.agg (ndC x), .int .u64 m] w (RetRowN 32 34 (nvs (woL f x m)) w)
  | f, x, hf, hd, hs, ha, m, hm, w => by
    have b1 : Blk (w.alloc (.cells (ndC x) 32)) w.heap.size (ndC x) 32 := heap_alloc_new _ _
    have hb : Below w.heap.size w (w.alloc (.cells (ndC x) 32)) := (Below.refl _ _).alloc (Nat.le_refl _) _
    have HI : Hid ((Try.prog.info? 32).map (·.size) = some (ndC x).size) := by rw [ndC_size hs]; exact info_node
    have hd0 : -9223372036854775808 ≤ x.d := by omega
    have hd9 : x.d ≤ 17 := by omega
    have B1 := Lib.hid b1
    have BB := Lib.hid hb
    have HA := Lib.hid ha
    have HM := Lib.hid hm
    have HS := Lib.hid hs
    have HD0 := Lib.hid hd0
    have HD := Lib.hid hd
    clear b1 hb ha hm hs
    by_cases hin : inI x m = true
    · rcases Nat.eq_zero_or_pos f with h0 | h0
      · subst h0
        have h17 : (x.d == 17) = true := by simp; omega
        go_enter Try.func31, Try.ntmps31
        go_wp2_with (refine wpList_load_row rfl 32 (.tmp 2) rfl w.heap.size rfl 32 (ndC x) (0, 0) _ ?hg Try.underlying32 rfl HI.out ?_; case hg => exact B1.out)
        refine (in_any x HD0.out HA.out m HM.out _).mono ?_
        rintro e w1 ⟨rfl, bw⟩
        rw [hin]
        have c0 := nd_d (B1.out.below bw)
        have CB := Lib.hid (BB.out.trans (bw.mono BB.out.size))
        clear bw B1 BB
        go_wp2_with fail
        go_ret
        refine ⟨none, 0, 0, rfl, ?_, CB.out⟩
        rw [woL, if_pos hin]
        exact World.ownsRow_nil _ _ _ _
      · obtain ⟨f', rfl⟩ : ∃ f', f = f' + 1 := ⟨f - 1, by omega⟩
        have h17 : (x.d == 17) = false := by simp; omega
        have hf' : f' ≤ 17 := by omega
        have hf17 : f' ≤ 17 := hf'
        have hdl : (ndL x).d = 17 - (f' : Int) := by show x.d + 1 = _; omega
        have hdr : (ndR x).d = 17 - (f' : Int) := by show x.d + 1 = _; omega
        have hw1 : IntKind.i64.wrap (x.d + 1) = x.d + 1 := IntWalk.i64_in _ (by omega)
        have hD1 : -9223372036854775808 ≤ x.d + 1 := by omega
        obtain ⟨z, hz0⟩ : ∃ z : List UInt8, z = List.replicate 32 0 := ⟨_, rfl⟩
        have hz : ∀ W, (zeroValue 22).run Try.prog W = .ok (.agg (bva z)) W := fun _ => by rw [hz0]; kernel_rfl
        have Z3 : Hid (z.length = 32) := by show _ = _; rw [hz0]; rfl
        obtain ⟨p, hp⟩ : ∃ p, p = leftK x.s := ⟨_, rfl⟩
        obtain ⟨q, hq⟩ : ∃ q, q = rightK x.s := ⟨_, rfl⟩
        obtain ⟨M, hM⟩ : ∃ M, M = manyI (x.d + 1) := ⟨_, rfl⟩
        have P3 : Hid (p.length = 32) := by show _ = _; rw [hp, leftK_length]
        have Q3 : Hid (q.length = 32) := by show _ = _; rw [hq, rightK_length]
        have HIP : Hid ((Try.prog.info? 22).map (·.size) = some (bva p).size) := by rw [bva_size, P3.out]; exact info_b32
        have HIQ : Hid ((Try.prog.info? 22).map (·.size) = some (bva q).size) := by rw [bva_size, Q3.out]; exact info_b32
        have HIX : Hid ((Try.prog.info? 22).map (·.size) = some (bv x.s).length) := by rw [bv_length, HS.out]; exact info_b32
        have eL : ndL x = ⟨x.d + 1, x.a, p⟩ := by rw [ndL, hp]
        have eR : ndR x = ⟨x.d + 1, IntKind.u64.wrap (x.a + M), q⟩ := by rw [ndR, hq, hM]
        have HMQ := Lib.hid (show ∀ W, Calls Try.prog 30 #[.int .i64 (x.d + 1)] W (RetQ (.int .u64 M) W) from fun W => by rw [hM]; exact many_q _ hD1 W)
        have IHL := Lib.hid (show ∀ W, Calls Try.prog 31 #[.agg (ndC ⟨x.d + 1, x.a, p⟩), .int .u64 m] W (RetRowN 32 34 (nvs (woL f' (ndL x) m)) W) from fun W => by
          rw [← eL]; exact without_any f' (ndL x) hf' hdl (leftK_length _) HA.out m HM.out W)
        have IHR := Lib.hid (show ∀ W, Calls Try.prog 31 #[.agg (ndC ⟨x.d + 1, IntKind.u64.wrap (x.a + M), q⟩), .int .u64 m] W (RetRowN 32 34 (nvs (woL f' (ndR x) m)) W) from fun W => by
          rw [← eR]; exact without_any f' (ndR x) hf' hdr (rightK_length _) (u64_pos _) m HM.out W)
        have HBL := Lib.hid (show ∀ W, (Instr.build 32 #[(0, .int .i64 (x.d + 1)), (1, .int .u64 x.a), (2, .agg (bva p))]).run Try.prog W = .ok (.agg (ndC ⟨x.d + 1, x.a, p⟩)) W from fun W => build_node ⟨x.d + 1, x.a, p⟩ P3.out W)
        obtain ⟨RA, hRA⟩ : ∃ RA, RA = IntKind.u64.wrap (x.a + M) := ⟨_, rfl⟩
        rw [← hRA] at IHR
        have HBR := Lib.hid (show ∀ W, (Instr.build 32 #[(0, .int .i64 (x.d + 1)), (1, .int .u64 RA), (2, .agg (bva q))]).run Try.prog W = .ok (.agg (ndC ⟨x.d + 1, RA, q⟩)) W from fun W => build_node ⟨x.d + 1, RA, q⟩ Q3.out W)
        have hRA' : IntKind.u64.wrap (x.a + M) = RA := hRA.symm
        clear hRA
        have HP := Lib.hid hp
        have HQ := Lib.hid hq
        clear hz0 hp hq hM hdl hdr eL eR hf' hf hd0 hd9 hD1 hd HD
        go_enter Try.func31, Try.ntmps31
        go_wp2_with (refine wpList_load_row rfl 32 (.tmp 2) rfl w.heap.size rfl 32 (ndC x) (0, 0) _ ?hg Try.underlying32 rfl HI.out ?_; case hg => exact B1.out)
        refine (in_any x HD0.out HA.out m HM.out _).mono ?_
        rintro e w1 ⟨rfl, bw⟩
        rw [hin]
        have c0 := nd_d (B1.out.below bw)
        have C1 := Lib.hid (B1.out.below bw)
        have CB := Lib.hid (BB.out.trans (bw.mono BB.out.size))
        clear bw B1 BB
        go_wp2_with (refine wpList_load_mid rfl 22 (.tmp 18) rfl w.heap.size 2 rfl (bv x.s) _ (nd_s C1.out) Try.underlying22 rfl HIX.out ?_
                     change wpList _ _ _ _ (Act.put _ _ (.agg (bva x.s))) _)
        refine (split_any x.s HS.out _).mono ?_
        rintro e w2 ⟨rfl, bw⟩
        rw [← HP.out, ← HQ.out]
        have D1 := Lib.hid (C1.out.below bw)
        have DB := Lib.hid (CB.out.trans (bw.mono CB.out.size))
        have hw2 : w.heap.size < w2.heap.size := D1.out.lt
        clear bw C1 CB c0
        go_wp2_with (first
          | (refine wpList_store_row rfl 22 (.tmp 5) (.tmp 21) rfl w2.heap.size (bva p) rfl rfl 22 (bva z) (heap_alloc2_old _ _ _) HIP.out (by simp only [bva_size, P3.out, Z3.out]) (bva_one _) ?_
             generalize hwx : World.setRow _ _ _ = wx
             have e1 : Blk wx w.heap.size (ndC x) 32 := by rw [← hwx]; exact blk_row (blk_old1 (blk_old1 D1.out)) (by omega)
             have e2 : Blk wx w2.heap.size (bva p) 22 := by rw [← hwx]; exact setRow_heap _ _ _ _ _ _ (heap_alloc2_old _ _ _)
             have e3 : Blk wx (w2.heap.size + 1) (bva z) 22 := by rw [← hwx]; exact blk_row (heap_alloc2_new _ _ _) (by omega)
             have eb : Below w.heap.size w wx := by rw [← hwx]; exact below_setRow ((DB.out.alloc DB.out.size _).alloc (by have := DB.out.size; simp; omega) _) DB.out.size _
             have E1 := Lib.hid e1
             have E2 := Lib.hid e2
             have E3 := Lib.hid e3
             have EB := Lib.hid eb
             clear hwx e1 e2 e3 eb D1 DB)
          | (refine wpList_store_row rfl 22 (.tmp 6) (.tmp 22) rfl (w2.heap.size + 1) (bva q) rfl rfl 22 (bva z) E3.out HIQ.out (by simp only [bva_size, Q3.out, Z3.out]) (bva_one _) ?_
             generalize hwy : World.setRow _ _ _ = wy
             have e1 : Blk wy w.heap.size (ndC x) 32 := by rw [← hwy]; exact blk_row E1.out (by omega)
             have e2 : Blk wy w2.heap.size (bva p) 22 := by rw [← hwy]; exact blk_row E2.out (by omega)
             have e3 : Blk wy (w2.heap.size + 1) (bva q) 22 := by rw [← hwy]; exact setRow_heap _ _ _ _ _ _ E3.out
             have eb : Below w.heap.size w wy := by rw [← hwy]; exact below_setRow EB.out (by omega) _
             have c0 := nd_d e1
             have c1 := nd_a e1
             have F1 := Lib.hid e1
             have F2 := Lib.hid e2
             have F3 := Lib.hid e3
             have FB := Lib.hid eb
             clear hwy e1 e2 e3 eb E1 E2 E3 EB)
          | (refine wpList_load_row rfl 22 (.tmp 5) rfl w2.heap.size rfl 22 (bva p) (0, 0) _ F2.out Try.underlying22 rfl HIP.out ?_)
          | (refine wpList_build (v := .agg (ndC ⟨x.d + 1, x.a, p⟩)) rfl 32 #[(0, .tmp 25), (1, .tmp 27), (2, .tmp 28)] rfl ?hbb ?_
             case hbb => (simp only [List.map_toArray, List.map_cons, List.map_nil]
                          show (Instr.build 32 #[(0, .int .i64 (x.d + 1)), (1, .int .u64 x.a), (2, .agg (bva p))]).run Try.prog _ = _
                          exact HBL.out _)))
        refine (IHL.out _).mono ?_
        rintro e w5 ⟨A7, n7, c7, rfl, ho7, bw⟩
        have G1 := Lib.hid (F1.out.below bw)
        have G3 := Lib.hid (F3.out.below bw)
        have GB := Lib.hid (FB.out.trans (bw.mono FB.out.size))
        have O7 := Lib.hid ho7
        have hy1 : w2.heap.size + 1 < wy.heap.size := F3.out.lt
        have hyB : w.heap.size ≤ wy.heap.size := FB.out.size
        have hs5 : wy.heap.size ≤ w5.heap.size := bw.size
        have hn7 : n7 ≤ 131072 := by
          have h1 := ho7.1
          rw [nvs_length (woL_len f' (ndL x) m (leftK_length _))] at h1
          have h2 := woL_count f' (ndL x) m
          have h3 : 2 ^ f' ≤ 2 ^ 17 := Nat.pow_le_pow_right (by omega) hf17
          omega
        clear ho7 bw F1 F2 F3 FB c0 c1
        go_wp2_with fail
        refine wp_region_held_drew (S := fun w' => Blk w' w.heap.size (ndC x) 32 ∧ Blk w' (w2.heap.size + 1) (bva q) 22 ∧ Below w.heap.size w w') (by kernel_rfl) ⟨G1.out, G3.out, GB.out.drew⟩ (fun hh => ?_)
        have HH := Lib.hid hh
        clear hh
        refine wpAnyH_take (i := 0) (v := ?vr0) rfl (by kernel_rfl) (by kernel_rfl) (by kernel_rfl) (fun _ _ _ h => h) (Or.inl ⟨by rfl, fun w' _ => ?yr0⟩) HH.out ?_
        case yr0 => (go_simp; try with_reducible rfl)
        refine wpAnyH_take (i := 1) (v := ?vr1) rfl (by kernel_rfl) (by kernel_rfl) (by kernel_rfl) (fun _ _ _ h => h) (Or.inl ⟨by rfl, fun w' _ => ?yr1⟩) HH.out ?_
        case yr1 => (go_simp; try with_reducible rfl)
        try simp only [List.getElem_toArray, List.getElem_cons_succ, List.getElem_cons_zero, Act.put, List.setIfInBounds_toArray, List.set_cons_zero, List.set_cons_succ]
        refine wpAnyH_take (i := 2) (v := ?vr2) rfl (by kernel_rfl) (by kernel_rfl) (by kernel_rfl) (fun _ _ _ h => h) (Or.inl ⟨by rfl, fun w' hw' => ?yr2⟩) HH.out ?_
        case yr2 => (have cc := nd_d hw'.1; go_simp; try with_reducible rfl)
        refine wpAnyH_take (i := 3) (v := ?vr3) rfl (by kernel_rfl) (by kernel_rfl) (by kernel_rfl) (fun _ _ _ h => h) (Or.inl ⟨by rfl, fun w' _ => ?yr3⟩) HH.out ?_
        case yr3 => (go_simp; try with_reducible rfl)
        refine wpAnyH_take (i := 4) (v := ?vr4) rfl (by kernel_rfl) (by kernel_rfl) (by kernel_rfl) (fun _ _ _ h => h) (Or.inl ⟨by rfl, fun w' _ => ?yr4⟩) HH.out ?_
        case yr4 => (go_simp; try with_reducible rfl)
        try simp only [List.getElem_toArray, List.getElem_cons_succ, List.getElem_cons_zero, Act.put, List.setIfInBounds_toArray, List.set_cons_zero, List.set_cons_succ]
        refine wpAnyH_take (i := 5) (v := ?vr5) rfl (by kernel_rfl) (by kernel_rfl) (by kernel_rfl) (fun _ _ _ h => h) (Or.inl ⟨by rfl, fun w' hw' => ?yr5⟩) HH.out ?_
        case yr5 => (have cc := nd_a hw'.1; go_simp; try with_reducible rfl)
        refine wpAnyH_take (i := 6) (v := ?vr6) rfl (by kernel_rfl) (by kernel_rfl) (by kernel_rfl) (fun _ _ _ h => h) (Or.inl ⟨by rfl, fun w' _ => ?yr6⟩) HH.out ?_
        case yr6 => (go_simp; try with_reducible rfl)
        refine wpAnyH_take (i := 7) (v := ?vr7) rfl (by kernel_rfl) (by kernel_rfl) (by kernel_rfl) (fun _ _ _ h => h) (Or.inl ⟨by rfl, fun w' hw' => ?yr7⟩) HH.out ?_
        case yr7 => (have cc := nd_d hw'.1; go_simp; try with_reducible rfl)
        try simp only [List.getElem_toArray, List.getElem_cons_succ, List.getElem_cons_zero, Act.put, List.setIfInBounds_toArray, List.set_cons_zero, List.set_cons_succ]
        refine wpAnyH_take (i := 8) (v := ?vr8) rfl (by kernel_rfl) (by kernel_rfl) (by kernel_rfl) (fun _ _ _ h => h) (Or.inl ⟨by rfl, fun w' _ => ?yr8⟩) HH.out ?_
        case yr8 => (go_simp; try with_reducible rfl)
        refine wpAnyH_take (i := 11) (v := .agg (bva q)) rfl (by kernel_rfl) (by kernel_rfl) (by kernel_rfl) (fun _ _ _ h => h) (Or.inl ⟨by rfl, fun w' hw' => ?yr11⟩) HH.out ?_
        case yr11 => exact exec_load 22 (.tmp 6) rfl rfl hw'.2.1 Try.underlying22 rfl HIQ.out
        refine wpAnyH_take (i := 13) (v := ?vr13) rfl (by kernel_rfl) (by kernel_rfl) (by kernel_rfl) (fun _ _ _ h => h) (Or.inl ⟨by rfl, fun w' _ => ?yr13⟩) HH.out ?_
        case yr13 => (go_simp; try with_reducible rfl)
        try simp only [List.getElem_toArray, List.getElem_cons_succ, List.getElem_cons_zero, Act.put, List.setIfInBounds_toArray, List.set_cons_zero, List.set_cons_succ]
        refine wpAnyH_ready (rs := [9]) (by kernel_rfl) (by simp) (AllReadyH.cons rfl (fun K hK => ?_) AllReadyH.nil)
        go_simp
        refine (HMQ.out _).mono ?_
        rintro e w6 ⟨rfl, nq, rfl⟩
        go_simp
        refine hK.out _ _ ⟨HH.out.1, HH.out.2.1, below_drewN' GB.out _⟩ (fun hh => ?_)
        have HH' := Lib.hid hh
        clear hh hK K HH 
        have HH := Lib.hid HH'.out
        clear HH'
        refine wpAnyH_take (i := 10) (v := ?vr10) rfl (by kernel_rfl) (by kernel_rfl) (by kernel_rfl) (fun _ _ _ h => h) (Or.inl ⟨by rfl, fun w' _ => ?yr10⟩) HH.out ?_
        case yr10 => (go_simp; try with_reducible rfl)
        refine wpAnyH_take (i := 12) (v := .agg (ndC ⟨x.d + 1, RA, q⟩)) rfl (by kernel_rfl) (by kernel_rfl) (by kernel_rfl) (fun _ _ _ h => h) (Or.inl ⟨by rfl, fun w' _ => ?yr12⟩) HH.out ?_
        case yr12 =>
          refine exec_build 32 #[(0, .tmp 35), (1, .tmp 42), (2, .tmp 43)] rfl ?_
          simp only [List.map_toArray, List.map_cons, List.map_nil]
          show (Instr.build 32 #[(0, .int .i64 (x.d + 1)), (1, .int .u64 RA), (2, .agg (bva q))]).run Try.prog _ = _
          exact HBR.out _
        try simp only [List.getElem_toArray, List.getElem_cons_succ, List.getElem_cons_zero, Act.put, List.setIfInBounds_toArray, List.set_cons_zero, List.set_cons_succ]
        refine wpAnyH_ready (rs := [14]) (by kernel_rfl) (by simp) (AllReadyH.cons rfl (fun K hK => ?_) AllReadyH.nil)
        go_simp
        refine (IHR.out _).mono ?_
        rintro e w7 ⟨A8, n8, c8, rfl, ho8, bw⟩
        have O8 := Lib.hid ho8
        have hs7 : wy.heap.size ≤ w7.heap.size := Nat.le_trans hs5 bw.size
        have hn8 : n8 ≤ 131072 := by
          have h1 := ho8.1
          rw [nvs_length (woL_len f' (ndR x) m (rightK_length _))] at h1
          have h2 := woL_count f' (ndR x) m
          have h3 : 2 ^ f' ≤ 2 ^ 17 := Nat.pow_le_pow_right (by omega) hf17
          omega
        have P7 := Lib.hid (own_belowN (show World.ownsRow (w5.drewN (1 + nq)) wy.heap.size 32 34 (.slice A7 n7 c7) n7 _ from O7.out) bw)
        clear ho8 O7
        go_simp
        refine hK.out _ _ ⟨HH.out.1.below bw, HH.out.2.1.below bw, HH.out.2.2.trans (bw.mono HH.out.2.2.size)⟩ (fun hh => ?_)
        have HH' := Lib.hid hh
        clear hh hK K HH bw
        have HH := Lib.hid HH'.out
        clear HH'
        try simp only [List.getElem_toArray, List.getElem_cons_succ, List.getElem_cons_zero, Act.put, List.setIfInBounds_toArray, List.set_cons_zero, List.set_cons_succ]
        refine wpAnyH_ready (rs := [15]) (by kernel_rfl) (by simp) (AllReadyH.cons rfl (fun K hK => ?_) AllReadyH.nil)
        refine step_appN _ (by rfl) (.tmp 32) (.tmp 46) 33 rfl nodesElt (base := wy.heap.size) (v := .slice A7 n7 c7) rfl P7.out (m := n8) rfl (Rd.ownN O8.out) O8.out.1 (nvs_one _) (by omega) hs7 ?_
        intro A9 c9 w9 ho9 hg9 _
        have hb9 : Below wy.heap.size w7 w9 := app_belowN (Below.refl _ _) P7.out hg9 (Nat.le_refl _) hs7
        have g1 : Blk w9 w.heap.size (ndC x) 32 := (hb9.block _ (by omega)).trans HH.out.1
        have g3 : Blk w9 (w2.heap.size + 1) (bva q) 22 := (hb9.block _ (by omega)).trans HH.out.2.1
        have gb : Below w.heap.size w w9 := HH.out.2.2.trans (hb9.mono hyB)
        have O9 := Lib.hid ho9
        refine hK.out _ _ ⟨g1, g3, gb⟩ (fun hh => ?_)
        have HH' := Lib.hid hh
        clear hh hK K HH g1 g3 gb hb9 hg9 ho9
        have HH := Lib.hid HH'.out
        clear HH'
        refine wpAnyH_take (i := 16) (v := ?vs16) rfl (by kernel_rfl) (by kernel_rfl) (by kernel_rfl) (fun _ _ _ h => h) (Or.inl ⟨by rfl, fun w' _ => ?ys16⟩) HH.out ?_
        case ys16 => (go_simp; try with_reducible rfl)
        try simp only [List.getElem_toArray, List.getElem_cons_succ, List.getElem_cons_zero, Act.put, List.setIfInBounds_toArray, List.set_cons_zero, List.set_cons_succ]
        refine wpAnyH_done (by kernel_rfl) ?_ _
        go_wp2_with fail
        go_ret
        have hwo : woL (f' + 1) x m = woL f' (ndL x) m ++ woL f' (ndR x) m := by rw [woL, if_pos hin]
        rw [hwo, nvs_append]
        exact ⟨A9, n7 + n8, c9, rfl, own_moreN O9.out hyB, HH.out.2.2⟩
    · have hin' : inI x m = false := by simpa using hin
      go_enter Try.func31, Try.ntmps31
      go_wp2_with (refine wpList_load_row rfl 32 (.tmp 2) rfl w.heap.size rfl 32 (ndC x) (0, 0) _ ?hg Try.underlying32 rfl HI.out ?_; case hg => exact B1.out)
      refine (in_any x HD0.out HA.out m HM.out _).mono ?_
      rintro e w1 ⟨rfl, bw⟩
      rw [hin']
      have C1 := Lib.hid (B1.out.below bw)
      have CB := Lib.hid (BB.out.trans (bw.mono BB.out.size))
      clear bw B1 BB
      obtain ⟨ie, hie, hz0, hz1, hz2⟩ := info_parts info_nodeW
      go_wp2_with (first
        | (refine wpList_load_row rfl 32 (.tmp 2) rfl w.heap.size rfl 32 (ndC x) (0, 0) _ C1.out Try.underlying32 rfl HI.out ?_)
        | (refine wpList_buildSlice rfl 33 32 1 #[(0, .tmp 12)] rfl (ndC x) ie _ Try.underlying33 hie hz0 (by rw [hz1]; omega) (by rw [hz1]; omega) (by rw [hz1]; simp only [List.map_toArray, List.map_cons, List.map_nil]; exact one_fill x HS.out) ?_))
      go_ret
      refine ⟨_, 1, 1, rfl, ?_, CB.out.alloc CB.out.size _⟩
      have hw : woL f x m = [x] := by cases f <;> (unfold woL; rw [if_neg hin])
      rw [hw, nvs, nvs, List.append_nil]
      exact World.ownsRow_lit (base := w.heap.size) (size := 34) (e := 32) w1 (ndC x) 1 CB.out.size (by unfold maxLen; omega) (by rw [ndC_size HS.out])
end Go.Proofs.Ytkfcllcdkgnfbaa.Kt
