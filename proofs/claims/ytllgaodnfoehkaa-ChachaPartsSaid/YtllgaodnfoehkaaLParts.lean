/-
  ChachaParts holds: of every key, counter and nonce the law returns true, and its arguments read as they did.
-/
import Derived.Test.YtllgaodnfoehkaaAwake
import Derived.Test.YtllgaodnfoehkaaRBlock
import Derived.Test.YtllgaodnfoehkaaRStream
import Derived.Test.YtllgaodnfoehkaaEqArr
import Derived.Test.YtllgaodnfoehkaaBytes4
import Derived.Deep.DeepCutAuto
import Derived.Deep.QuietTactic
import Derived.BigQuiet
import Derived.Deep.DrawnRows
import Derived.Test.YtllgaodnfoehkaaOpenA
import Derived.ProofKit
import Derived.OpenShut
import Derived.ShutString
import Derived.ChangeOld
namespace Go.Proofs.Ytllgaodnfoehkaa
open Go.RowKit Go.ChangeShapes Go.WideShapes Go.ChangeAt
theorem Blk.setRow {w : World} {g g' : Nat} {cs : Array Value} {A : TypeId} (h : Blk w g cs A) (hne : g ≠ g') (cs' : Array Value) : Blk (w.setRow g' cs') g cs A := by
  unfold Blk; rw [setRow_other _ _ _ _ hne]; exact h
attribute [local go_sem ↓] Go.wp_at_zero Go.wp_at_succ
set_option maxHeartbeats 20000000 in
theorem chachaParts_any (w : World) (k : List UInt8) (hk : k.length = 32) (c : Int) (hc : 0 ≤ c ∧ c ≤ 4294967295) (n : Int) (hn : 0 ≤ n ∧ n ≤ 18446744073709551615) :
    Calls Try.prog 8 #[.agg (bva k), .int .u32 c, .int .u64 n] w (RetB (.bool true) w) := by
  obtain ⟨C, hC⟩ : ∃ C : UInt32, c = (C.toNat : Int) := ⟨UInt32.ofNat c.toNat, by rw [UInt32.toNat_ofNat']; omega⟩
  obtain ⟨N, rfl⟩ := Int.eq_ofNat_of_zero_le hn.1
  subst hC
  clear hc hn
  have HI : Hid ((Try.prog.info? 36).map (·.size) = some (bva k).size) := by rw [bva_size, hk]; exact info36
  go_enter Try.func8, Try.ntmps8
  go_wp2_with fail
  refine (awake_any _).mono ?_
  rintro e w1 ⟨rfl, bw1⟩
  have B1 : Blk w1 w.heap.size (bva k) 36 := Blk.below (heap_alloc_new _ _) bw1
  have B2 : Below w.heap.size w w1 := ((Below.refl _ _).alloc (Nat.le_refl _) _).trans (bw1.mono (by simp))
  have G1 := Lib.hid B1
  have G2 := Lib.hid B2
  clear B1 B2 bw1
  go_upto_region 3 with fail
  go_cut [7, 8] (fun s7 s8 wx => ∃ g h : Nat, s7 = .pointer (some ⟨g, 0, none⟩) ∧ s8 = .pointer (some ⟨h, 0, none⟩) ∧ Blk wx g (bva (blockL k C N)) 38 ∧ Blk wx h (uv (keyL k C N)) 30 ∧ Below w.heap.size w wx)
  case first =>
    refine wp_region_held_drew (S := fun w' => Blk w' w.heap.size (bva k) 36 ∧ Below w.heap.size w w') (by kernel_rfl) ⟨G1.out, G2.out.drew⟩ (fun hh => ?_)
    generalize World.drew w1 = v0 at hh ⊢
    have HH := Lib.hid hh
    clear hh
    refine wpAnyH_take (i := 0) (v := .agg (bva k)) rfl (by kernel_rfl) (by kernel_rfl) (by kernel_rfl) (fun _ _ _ h => h) (Or.inl ⟨by rfl, fun w' hw' => ?y0⟩) HH.out ?_
    case y0 => exact exec_load 36 (.tmp 3) rfl rfl hw'.1 Try.underlying36 rfl HI.out
    refine wpAnyH_take (i := 1) (v := ?v1) rfl (by kernel_rfl) (by kernel_rfl) (by kernel_rfl) (fun _ _ _ h => h) (Or.inl ⟨by rfl, fun w' _ => ?y1⟩) HH.out ?_
    case y1 => (go_simp; try with_reducible rfl)
    refine wpAnyH_take (i := 2) (v := ?v2) rfl (by kernel_rfl) (by kernel_rfl) (by kernel_rfl) (fun _ _ _ h => h) (Or.inl ⟨by rfl, fun w' _ => ?y2⟩) HH.out ?_
    case y2 => (go_simp; try with_reducible rfl)
    refine wpAnyH_take (i := 4) (v := .agg (bva k)) rfl (by kernel_rfl) (by kernel_rfl) (by kernel_rfl) (fun _ _ _ h => h) (Or.inl ⟨by rfl, fun w' hw' => ?y4⟩) HH.out ?_
    case y4 => exact exec_load 36 (.tmp 3) rfl rfl hw'.1 Try.underlying36 rfl HI.out
    refine wpAnyH_take (i := 5) (v := ?v5) rfl (by kernel_rfl) (by kernel_rfl) (by kernel_rfl) (fun _ _ _ h => h) (Or.inl ⟨by rfl, fun w' _ => ?y5⟩) HH.out ?_
    case y5 => (go_simp; try with_reducible rfl)
    refine wpAnyH_take (i := 6) (v := ?v6) rfl (by kernel_rfl) (by kernel_rfl) (by kernel_rfl) (fun _ _ _ h => h) (Or.inl ⟨by rfl, fun w' _ => ?y6⟩) HH.out ?_
    case y6 => (go_simp; try with_reducible rfl)
    simp only [List.getElem_toArray, List.getElem_cons_succ, List.getElem_cons_zero, Act.put, List.setIfInBounds_toArray, List.set_cons_zero, List.set_cons_succ]
    change wpAnyH _ _ _ _ _ 6 #[true, true, true, false, true, true, true, false, false, false, false, false] _ _
    refine wpAnyH_ready (rs := [3, 8, 9]) (by kernel_rfl) (by simp) ?_
    refine AllReadyH.cons rfl (fun K hK => ?_) ?_
    · go_simp
      refine (block_any k hk C N _).mono ?_
      rintro e v1 ⟨rfl, bv1⟩
      go_simp
      have sv1 : Blk v1 w.heap.size (bva k) 36 ∧ Below w.heap.size w v1 := ⟨HH.out.1.below bv1, HH.out.2.trans (bv1.mono HH.out.2.size)⟩
      refine hK.out _ _ sv1 (fun _ => ?_)
      clear hK K HH
      have HH := Lib.hid sv1
      clear sv1
      change wpAnyH _ _ _ _ _ 5 #[true, true, true, true, true, true, true, false, false, false, false, false] _ _
      refine wpAnyH_ready (rs := [7, 8, 9]) (by kernel_rfl) (by simp) ?_
      refine AllReadyH.cons rfl (fun K hK => ?_) ?_
      · go_simp
        refine (rkeyState_any k hk C N _).mono ?_
        rintro e v2 ⟨rfl, bv2⟩
        go_simp
        have sv2 : Blk v2 w.heap.size (bva k) 36 ∧ Below w.heap.size w v2 := ⟨HH.out.1.below bv2, HH.out.2.trans (bv2.mono HH.out.2.size)⟩
        refine hK.out _ _ sv2 (fun _ => ?_)
        clear hK K HH
        have HH := Lib.hid sv2
        clear sv2
        change wpAnyH _ _ _ _ _ 4 #[true, true, true, true, true, true, true, true, false, false, false, false] _ _
        refine wpAnyH_ready (rs := [8, 9]) (by kernel_rfl) (by simp) ?_
        refine AllReadyH.cons rfl (fun K hK => ?_) ?_
        · go_simp
          generalize hw : World.alloc _ _ = v3
          have sv3 : Blk v3 w.heap.size (bva k) 36 ∧ Below w.heap.size w v3 := by rw [← hw]; exact ⟨blk_alloc HH.out.1 _, HH.out.2.alloc HH.out.2.size _⟩
          have f8v3 : Hid (Blk v3 (World.heap v2).size (bva (List.replicate 64 0)) 38) := by rw [← hw]; exact heap_alloc_new _ _
          have lt8 : w.heap.size < (World.heap v2).size := HH.out.1.lt
          clear hw
          refine hK.out _ _ sv3 (fun _ => ?_)
          clear hK K HH
          have HH := Lib.hid sv3
          clear sv3
          change wpAnyH _ _ _ _ _ 3 #[true, true, true, true, true, true, true, true, true, false, false, false] _ _
          refine wpAnyH_ready (rs := [9]) (by kernel_rfl) (by simp) ?_
          refine AllReadyH.cons rfl (fun K hK => ?_) AllReadyH.nil
          go_simp
          generalize hw : World.alloc _ _ = v4
          have sv4 : Blk v4 w.heap.size (bva k) 36 ∧ Below w.heap.size w v4 := by rw [← hw]; exact ⟨blk_alloc HH.out.1 _, HH.out.2.alloc HH.out.2.size _⟩
          have f9v4 : Hid (Blk v4 (World.heap v3).size (uv (List.replicate 16 0)) 30) := by rw [← hw]; exact heap_alloc_new _ _
          have lt9 : w.heap.size < (World.heap v3).size := HH.out.1.lt
          have hne : (World.heap v2).size ≠ (World.heap v3).size := Nat.ne_of_lt f8v3.out.lt
          have f8v4 : Hid (Blk v4 (World.heap v2).size (bva (List.replicate 64 0)) 38) := by rw [← hw]; exact blk_alloc f8v3.out _
          clear hw
          refine hK.out _ _ sv4 (fun _ => ?_)
          clear hK K HH
          have HH := Lib.hid sv4
          clear sv4
          change wpAnyH _ _ _ _ _ 2 #[true, true, true, true, true, true, true, true, true, true, false, false] _ _
          refine wpAnyH_ready (rs := [10]) (by kernel_rfl) (by simp) ?_
          refine AllReadyH.cons rfl (fun K hK => ?_) AllReadyH.nil
          rw [if_pos (by rfl)]
          simp only [List.getElem_toArray, List.getElem_cons_succ, List.getElem_cons_zero]
          refine wp_store_row 38 (.tmp 7) (.tmp 16) rfl (World.heap v2).size (bva (blockL k C N)) rfl rfl 38 (bva (List.replicate 64 0)) f8v4.out (by rw [bva_size, blockL_length]; exact info38) (by rw [bva_size, bva_size, blockL_length]; rfl) (bva_one _) ?_
          generalize hw : World.setRow _ _ _ = v5
          have sv5 : Blk v5 w.heap.size (bva k) 36 ∧ Below w.heap.size w v5 := by rw [← hw]; exact ⟨HH.out.1.setRow (Nat.ne_of_lt lt8) _, below_setRow HH.out.2 (Nat.le_of_lt lt8) _⟩
          have f8v5 : Hid (Blk v5 (World.heap v2).size (bva (blockL k C N)) 38) := by rw [← hw]; exact setRow_heap _ _ _ _ _ _ f8v4.out
          have f9v5 : Hid (Blk v5 (World.heap v3).size (uv (List.replicate 16 0)) 30) := by rw [← hw]; exact f9v4.out.setRow (Ne.symm hne) _
          clear hw
          refine hK.out _ _ sv5 (fun _ => ?_)
          clear hK K HH
          have HH := Lib.hid sv5
          clear sv5
          simp only [Act.put]
          change wpAnyH _ _ _ _ _ 1 #[true, true, true, true, true, true, true, true, true, true, true, false] _ _
          refine wpAnyH_ready (rs := [11]) (by kernel_rfl) (by simp) ?_
          refine AllReadyH.cons rfl (fun K hK => ?_) AllReadyH.nil
          rw [if_pos (by rfl)]
          simp only [List.getElem_toArray, List.getElem_cons_succ, List.getElem_cons_zero]
          refine wp_store_row 30 (.tmp 8) (.tmp 20) rfl (World.heap v3).size (uv (keyL k C N)) rfl rfl 30 (uv (List.replicate 16 0)) f9v5.out (by rw [uv_size, keyL_length]; exact info30) (by rw [uv_size, uv_size, keyL_length]; rfl) (uv_one _) ?_
          generalize hw : World.setRow _ _ _ = v6
          have sv6 : Blk v6 w.heap.size (bva k) 36 ∧ Below w.heap.size w v6 := by rw [← hw]; exact ⟨HH.out.1.setRow (Nat.ne_of_lt lt9) _, below_setRow HH.out.2 (Nat.le_of_lt lt9) _⟩
          have f8v6 : Hid (Blk v6 (World.heap v2).size (bva (blockL k C N)) 38) := by rw [← hw]; exact f8v5.out.setRow hne _
          have f9v6 : Hid (Blk v6 (World.heap v3).size (uv (keyL k C N)) 30) := by rw [← hw]; exact setRow_heap _ _ _ _ _ _ f9v5.out
          clear hw
          refine hK.out _ _ sv6 (fun _ => ?_)
          clear hK K HH
          have HH := Lib.hid sv6
          clear sv6
          simp only [Act.put]
          change wpAnyH _ _ _ _ _ 0 #[true, true, true, true, true, true, true, true, true, true, true, true] _ _
          refine wpAnyH_done (by kernel_rfl) ?_ _
          go_wp2_with fail
          go_meet
          exact ⟨(World.heap v2).size, (World.heap v3).size, rfl, rfl, f8v6.out, f9v6.out, HH.out.2⟩
        · refine AllReadyH.cons rfl (fun K hK => ?_) AllReadyH.nil
          go_simp
          generalize hw : World.alloc _ _ = v7
          have sv7 : Blk v7 w.heap.size (bva k) 36 ∧ Below w.heap.size w v7 := by rw [← hw]; exact ⟨blk_alloc HH.out.1 _, HH.out.2.alloc HH.out.2.size _⟩
          have f9v7 : Hid (Blk v7 (World.heap v2).size (uv (List.replicate 16 0)) 30) := by rw [← hw]; exact heap_alloc_new _ _
          have lt9 : w.heap.size < (World.heap v2).size := HH.out.1.lt
          clear hw
          refine hK.out _ _ sv7 (fun _ => ?_)
          clear hK K HH
          have HH := Lib.hid sv7
          clear sv7
          change wpAnyH _ _ _ _ _ 3 #[true, true, true, true, true, true, true, true, false, true, false, false] _ _
          refine wpAnyH_ready (rs := [8]) (by kernel_rfl) (by simp) ?_
          refine AllReadyH.cons rfl (fun K hK => ?_) AllReadyH.nil
          go_simp
          generalize hw : World.alloc _ _ = v8
          have sv8 : Blk v8 w.heap.size (bva k) 36 ∧ Below w.heap.size w v8 := by rw [← hw]; exact ⟨blk_alloc HH.out.1 _, HH.out.2.alloc HH.out.2.size _⟩
          have f8v8 : Hid (Blk v8 (World.heap v7).size (bva (List.replicate 64 0)) 38) := by rw [← hw]; exact heap_alloc_new _ _
          have lt8 : w.heap.size < (World.heap v7).size := HH.out.1.lt
          have hne : (World.heap v7).size ≠ (World.heap v2).size := Nat.ne_of_gt f9v7.out.lt
          have f9v8 : Hid (Blk v8 (World.heap v2).size (uv (List.replicate 16 0)) 30) := by rw [← hw]; exact blk_alloc f9v7.out _
          clear hw
          refine hK.out _ _ sv8 (fun _ => ?_)
          clear hK K HH
          have HH := Lib.hid sv8
          clear sv8
          change wpAnyH _ _ _ _ _ 2 #[true, true, true, true, true, true, true, true, true, true, false, false] _ _
          refine wpAnyH_ready (rs := [10]) (by kernel_rfl) (by simp) ?_
          refine AllReadyH.cons rfl (fun K hK => ?_) AllReadyH.nil
          rw [if_pos (by rfl)]
          simp only [List.getElem_toArray, List.getElem_cons_succ, List.getElem_cons_zero]
          refine wp_store_row 38 (.tmp 7) (.tmp 16) rfl (World.heap v7).size (bva (blockL k C N)) rfl rfl 38 (bva (List.replicate 64 0)) f8v8.out (by rw [bva_size, blockL_length]; exact info38) (by rw [bva_size, bva_size, blockL_length]; rfl) (bva_one _) ?_
          generalize hw : World.setRow _ _ _ = v9
          have sv9 : Blk v9 w.heap.size (bva k) 36 ∧ Below w.heap.size w v9 := by rw [← hw]; exact ⟨HH.out.1.setRow (Nat.ne_of_lt lt8) _, below_setRow HH.out.2 (Nat.le_of_lt lt8) _⟩
          have f8v9 : Hid (Blk v9 (World.heap v7).size (bva (blockL k C N)) 38) := by rw [← hw]; exact setRow_heap _ _ _ _ _ _ f8v8.out
          have f9v9 : Hid (Blk v9 (World.heap v2).size (uv (List.replicate 16 0)) 30) := by rw [← hw]; exact f9v8.out.setRow (Ne.symm hne) _
          clear hw
          refine hK.out _ _ sv9 (fun _ => ?_)
          clear hK K HH
          have HH := Lib.hid sv9
          clear sv9
          simp only [Act.put]
          change wpAnyH _ _ _ _ _ 1 #[true, true, true, true, true, true, true, true, true, true, true, false] _ _
          refine wpAnyH_ready (rs := [11]) (by kernel_rfl) (by simp) ?_
          refine AllReadyH.cons rfl (fun K hK => ?_) AllReadyH.nil
          rw [if_pos (by rfl)]
          simp only [List.getElem_toArray, List.getElem_cons_succ, List.getElem_cons_zero]
          refine wp_store_row 30 (.tmp 8) (.tmp 20) rfl (World.heap v2).size (uv (keyL k C N)) rfl rfl 30 (uv (List.replicate 16 0)) f9v9.out (by rw [uv_size, keyL_length]; exact info30) (by rw [uv_size, uv_size, keyL_length]; rfl) (uv_one _) ?_
          generalize hw : World.setRow _ _ _ = v10
          have sv10 : Blk v10 w.heap.size (bva k) 36 ∧ Below w.heap.size w v10 := by rw [← hw]; exact ⟨HH.out.1.setRow (Nat.ne_of_lt lt9) _, below_setRow HH.out.2 (Nat.le_of_lt lt9) _⟩
          have f8v10 : Hid (Blk v10 (World.heap v7).size (bva (blockL k C N)) 38) := by rw [← hw]; exact f8v9.out.setRow hne _
          have f9v10 : Hid (Blk v10 (World.heap v2).size (uv (keyL k C N)) 30) := by rw [← hw]; exact setRow_heap _ _ _ _ _ _ f9v9.out
          clear hw
          refine hK.out _ _ sv10 (fun _ => ?_)
          clear hK K HH
          have HH := Lib.hid sv10
          clear sv10
          simp only [Act.put]
          change wpAnyH _ _ _ _ _ 0 #[true, true, true, true, true, true, true, true, true, true, true, true] _ _
          refine wpAnyH_done (by kernel_rfl) ?_ _
          go_wp2_with fail
          go_meet
          exact ⟨(World.heap v7).size, (World.heap v2).size, rfl, rfl, f8v10.out, f9v10.out, HH.out.2⟩
      · refine AllReadyH.cons rfl (fun K hK => ?_) ?_
        · go_simp
          generalize hw : World.alloc _ _ = v11
          have sv11 : Blk v11 w.heap.size (bva k) 36 ∧ Below w.heap.size w v11 := by rw [← hw]; exact ⟨blk_alloc HH.out.1 _, HH.out.2.alloc HH.out.2.size _⟩
          have f8v11 : Hid (Blk v11 (World.heap v1).size (bva (List.replicate 64 0)) 38) := by rw [← hw]; exact heap_alloc_new _ _
          have lt8 : w.heap.size < (World.heap v1).size := HH.out.1.lt
          clear hw
          refine hK.out _ _ sv11 (fun _ => ?_)
          clear hK K HH
          have HH := Lib.hid sv11
          clear sv11
          change wpAnyH _ _ _ _ _ 4 #[true, true, true, true, true, true, true, false, true, false, false, false] _ _
          refine wpAnyH_ready (rs := [7, 9]) (by kernel_rfl) (by simp) ?_
          refine AllReadyH.cons rfl (fun K hK => ?_) ?_
          · go_simp
            refine (rkeyState_any k hk C N _).mono ?_
            rintro e v12 ⟨rfl, bv12⟩
            go_simp
            have sv12 : Blk v12 w.heap.size (bva k) 36 ∧ Below w.heap.size w v12 := ⟨HH.out.1.below bv12, HH.out.2.trans (bv12.mono HH.out.2.size)⟩
            have f8v12 := Lib.hid (f8v11.out.below bv12)
            refine hK.out _ _ sv12 (fun _ => ?_)
            clear hK K HH
            have HH := Lib.hid sv12
            clear sv12
            change wpAnyH _ _ _ _ _ 3 #[true, true, true, true, true, true, true, true, true, false, false, false] _ _
            refine wpAnyH_ready (rs := [9]) (by kernel_rfl) (by simp) ?_
            refine AllReadyH.cons rfl (fun K hK => ?_) AllReadyH.nil
            go_simp
            generalize hw : World.alloc _ _ = v13
            have sv13 : Blk v13 w.heap.size (bva k) 36 ∧ Below w.heap.size w v13 := by rw [← hw]; exact ⟨blk_alloc HH.out.1 _, HH.out.2.alloc HH.out.2.size _⟩
            have f9v13 : Hid (Blk v13 (World.heap v12).size (uv (List.replicate 16 0)) 30) := by rw [← hw]; exact heap_alloc_new _ _
            have lt9 : w.heap.size < (World.heap v12).size := HH.out.1.lt
            have hne : (World.heap v1).size ≠ (World.heap v12).size := Nat.ne_of_lt f8v12.out.lt
            have f8v13 : Hid (Blk v13 (World.heap v1).size (bva (List.replicate 64 0)) 38) := by rw [← hw]; exact blk_alloc f8v12.out _
            clear hw
            refine hK.out _ _ sv13 (fun _ => ?_)
            clear hK K HH
            have HH := Lib.hid sv13
            clear sv13
            change wpAnyH _ _ _ _ _ 2 #[true, true, true, true, true, true, true, true, true, true, false, false] _ _
            refine wpAnyH_ready (rs := [10]) (by kernel_rfl) (by simp) ?_
            refine AllReadyH.cons rfl (fun K hK => ?_) AllReadyH.nil
            rw [if_pos (by rfl)]
            simp only [List.getElem_toArray, List.getElem_cons_succ, List.getElem_cons_zero]
            refine wp_store_row 38 (.tmp 7) (.tmp 16) rfl (World.heap v1).size (bva (blockL k C N)) rfl rfl 38 (bva (List.replicate 64 0)) f8v13.out (by rw [bva_size, blockL_length]; exact info38) (by rw [bva_size, bva_size, blockL_length]; rfl) (bva_one _) ?_
            generalize hw : World.setRow _ _ _ = v14
            have sv14 : Blk v14 w.heap.size (bva k) 36 ∧ Below w.heap.size w v14 := by rw [← hw]; exact ⟨HH.out.1.setRow (Nat.ne_of_lt lt8) _, below_setRow HH.out.2 (Nat.le_of_lt lt8) _⟩
            have f8v14 : Hid (Blk v14 (World.heap v1).size (bva (blockL k C N)) 38) := by rw [← hw]; exact setRow_heap _ _ _ _ _ _ f8v13.out
            have f9v14 : Hid (Blk v14 (World.heap v12).size (uv (List.replicate 16 0)) 30) := by rw [← hw]; exact f9v13.out.setRow (Ne.symm hne) _
            clear hw
            refine hK.out _ _ sv14 (fun _ => ?_)
            clear hK K HH
            have HH := Lib.hid sv14
            clear sv14
            simp only [Act.put]
            change wpAnyH _ _ _ _ _ 1 #[true, true, true, true, true, true, true, true, true, true, true, false] _ _
            refine wpAnyH_ready (rs := [11]) (by kernel_rfl) (by simp) ?_
            refine AllReadyH.cons rfl (fun K hK => ?_) AllReadyH.nil
            rw [if_pos (by rfl)]
            simp only [List.getElem_toArray, List.getElem_cons_succ, List.getElem_cons_zero]
            refine wp_store_row 30 (.tmp 8) (.tmp 20) rfl (World.heap v12).size (uv (keyL k C N)) rfl rfl 30 (uv (List.replicate 16 0)) f9v14.out (by rw [uv_size, keyL_length]; exact info30) (by rw [uv_size, uv_size, keyL_length]; rfl) (uv_one _) ?_
            generalize hw : World.setRow _ _ _ = v15
            have sv15 : Blk v15 w.heap.size (bva k) 36 ∧ Below w.heap.size w v15 := by rw [← hw]; exact ⟨HH.out.1.setRow (Nat.ne_of_lt lt9) _, below_setRow HH.out.2 (Nat.le_of_lt lt9) _⟩
            have f8v15 : Hid (Blk v15 (World.heap v1).size (bva (blockL k C N)) 38) := by rw [← hw]; exact f8v14.out.setRow hne _
            have f9v15 : Hid (Blk v15 (World.heap v12).size (uv (keyL k C N)) 30) := by rw [← hw]; exact setRow_heap _ _ _ _ _ _ f9v14.out
            clear hw
            refine hK.out _ _ sv15 (fun _ => ?_)
            clear hK K HH
            have HH := Lib.hid sv15
            clear sv15
            simp only [Act.put]
            change wpAnyH _ _ _ _ _ 0 #[true, true, true, true, true, true, true, true, true, true, true, true] _ _
            refine wpAnyH_done (by kernel_rfl) ?_ _
            go_wp2_with fail
            go_meet
            exact ⟨(World.heap v1).size, (World.heap v12).size, rfl, rfl, f8v15.out, f9v15.out, HH.out.2⟩
          · refine AllReadyH.cons rfl (fun K hK => ?_) AllReadyH.nil
            go_simp
            generalize hw : World.alloc _ _ = v16
            have sv16 : Blk v16 w.heap.size (bva k) 36 ∧ Below w.heap.size w v16 := by rw [← hw]; exact ⟨blk_alloc HH.out.1 _, HH.out.2.alloc HH.out.2.size _⟩
            have f9v16 : Hid (Blk v16 (World.heap v11).size (uv (List.replicate 16 0)) 30) := by rw [← hw]; exact heap_alloc_new _ _
            have lt9 : w.heap.size < (World.heap v11).size := HH.out.1.lt
            have hne : (World.heap v1).size ≠ (World.heap v11).size := Nat.ne_of_lt f8v11.out.lt
            have f8v16 : Hid (Blk v16 (World.heap v1).size (bva (List.replicate 64 0)) 38) := by rw [← hw]; exact blk_alloc f8v11.out _
            clear hw
            refine hK.out _ _ sv16 (fun _ => ?_)
            clear hK K HH
            have HH := Lib.hid sv16
            clear sv16
            change wpAnyH _ _ _ _ _ 3 #[true, true, true, true, true, true, true, false, true, true, false, false] _ _
            refine wpAnyH_ready (rs := [7]) (by kernel_rfl) (by simp) ?_
            refine AllReadyH.cons rfl (fun K hK => ?_) AllReadyH.nil
            go_simp
            refine (rkeyState_any k hk C N _).mono ?_
            rintro e v17 ⟨rfl, bv17⟩
            go_simp
            have sv17 : Blk v17 w.heap.size (bva k) 36 ∧ Below w.heap.size w v17 := ⟨HH.out.1.below bv17, HH.out.2.trans (bv17.mono HH.out.2.size)⟩
            have f8v17 := Lib.hid (f8v16.out.below bv17)
            have f9v17 := Lib.hid (f9v16.out.below bv17)
            refine hK.out _ _ sv17 (fun _ => ?_)
            clear hK K HH
            have HH := Lib.hid sv17
            clear sv17
            change wpAnyH _ _ _ _ _ 2 #[true, true, true, true, true, true, true, true, true, true, false, false] _ _
            refine wpAnyH_ready (rs := [10]) (by kernel_rfl) (by simp) ?_
            refine AllReadyH.cons rfl (fun K hK => ?_) AllReadyH.nil
            rw [if_pos (by rfl)]
            simp only [List.getElem_toArray, List.getElem_cons_succ, List.getElem_cons_zero]
            refine wp_store_row 38 (.tmp 7) (.tmp 16) rfl (World.heap v1).size (bva (blockL k C N)) rfl rfl 38 (bva (List.replicate 64 0)) f8v17.out (by rw [bva_size, blockL_length]; exact info38) (by rw [bva_size, bva_size, blockL_length]; rfl) (bva_one _) ?_
            generalize hw : World.setRow _ _ _ = v18
            have sv18 : Blk v18 w.heap.size (bva k) 36 ∧ Below w.heap.size w v18 := by rw [← hw]; exact ⟨HH.out.1.setRow (Nat.ne_of_lt lt8) _, below_setRow HH.out.2 (Nat.le_of_lt lt8) _⟩
            have f8v18 : Hid (Blk v18 (World.heap v1).size (bva (blockL k C N)) 38) := by rw [← hw]; exact setRow_heap _ _ _ _ _ _ f8v17.out
            have f9v18 : Hid (Blk v18 (World.heap v11).size (uv (List.replicate 16 0)) 30) := by rw [← hw]; exact f9v17.out.setRow (Ne.symm hne) _
            clear hw
            refine hK.out _ _ sv18 (fun _ => ?_)
            clear hK K HH
            have HH := Lib.hid sv18
            clear sv18
            simp only [Act.put]
            change wpAnyH _ _ _ _ _ 1 #[true, true, true, true, true, true, true, true, true, true, true, false] _ _
            refine wpAnyH_ready (rs := [11]) (by kernel_rfl) (by simp) ?_
            refine AllReadyH.cons rfl (fun K hK => ?_) AllReadyH.nil
            rw [if_pos (by rfl)]
            simp only [List.getElem_toArray, List.getElem_cons_succ, List.getElem_cons_zero]
            refine wp_store_row 30 (.tmp 8) (.tmp 20) rfl (World.heap v11).size (uv (keyL k C N)) rfl rfl 30 (uv (List.replicate 16 0)) f9v18.out (by rw [uv_size, keyL_length]; exact info30) (by rw [uv_size, uv_size, keyL_length]; rfl) (uv_one _) ?_
            generalize hw : World.setRow _ _ _ = v19
            have sv19 : Blk v19 w.heap.size (bva k) 36 ∧ Below w.heap.size w v19 := by rw [← hw]; exact ⟨HH.out.1.setRow (Nat.ne_of_lt lt9) _, below_setRow HH.out.2 (Nat.le_of_lt lt9) _⟩
            have f8v19 : Hid (Blk v19 (World.heap v1).size (bva (blockL k C N)) 38) := by rw [← hw]; exact f8v18.out.setRow hne _
            have f9v19 : Hid (Blk v19 (World.heap v11).size (uv (keyL k C N)) 30) := by rw [← hw]; exact setRow_heap _ _ _ _ _ _ f9v18.out
            clear hw
            refine hK.out _ _ sv19 (fun _ => ?_)
            clear hK K HH
            have HH := Lib.hid sv19
            clear sv19
            simp only [Act.put]
            change wpAnyH _ _ _ _ _ 0 #[true, true, true, true, true, true, true, true, true, true, true, true] _ _
            refine wpAnyH_done (by kernel_rfl) ?_ _
            go_wp2_with fail
            go_meet
            exact ⟨(World.heap v1).size, (World.heap v11).size, rfl, rfl, f8v19.out, f9v19.out, HH.out.2⟩
        · refine AllReadyH.cons rfl (fun K hK => ?_) AllReadyH.nil
          go_simp
          generalize hw : World.alloc _ _ = v20
          have sv20 : Blk v20 w.heap.size (bva k) 36 ∧ Below w.heap.size w v20 := by rw [← hw]; exact ⟨blk_alloc HH.out.1 _, HH.out.2.alloc HH.out.2.size _⟩
          have f9v20 : Hid (Blk v20 (World.heap v1).size (uv (List.replicate 16 0)) 30) := by rw [← hw]; exact heap_alloc_new _ _
          have lt9 : w.heap.size < (World.heap v1).size := HH.out.1.lt
          clear hw
          refine hK.out _ _ sv20 (fun _ => ?_)
          clear hK K HH
          have HH := Lib.hid sv20
          clear sv20
          change wpAnyH _ _ _ _ _ 4 #[true, true, true, true, true, true, true, false, false, true, false, false] _ _
          refine wpAnyH_ready (rs := [7, 8]) (by kernel_rfl) (by simp) ?_
          refine AllReadyH.cons rfl (fun K hK => ?_) ?_
          · go_simp
            refine (rkeyState_any k hk C N _).mono ?_
            rintro e v21 ⟨rfl, bv21⟩
            go_simp
            have sv21 : Blk v21 w.heap.size (bva k) 36 ∧ Below w.heap.size w v21 := ⟨HH.out.1.below bv21, HH.out.2.trans (bv21.mono HH.out.2.size)⟩
            have f9v21 := Lib.hid (f9v20.out.below bv21)
            refine hK.out _ _ sv21 (fun _ => ?_)
            clear hK K HH
            have HH := Lib.hid sv21
            clear sv21
            change wpAnyH _ _ _ _ _ 3 #[true, true, true, true, true, true, true, true, false, true, false, false] _ _
            refine wpAnyH_ready (rs := [8]) (by kernel_rfl) (by simp) ?_
            refine AllReadyH.cons rfl (fun K hK => ?_) AllReadyH.nil
            go_simp
            generalize hw : World.alloc _ _ = v22
            have sv22 : Blk v22 w.heap.size (bva k) 36 ∧ Below w.heap.size w v22 := by rw [← hw]; exact ⟨blk_alloc HH.out.1 _, HH.out.2.alloc HH.out.2.size _⟩
            have f8v22 : Hid (Blk v22 (World.heap v21).size (bva (List.replicate 64 0)) 38) := by rw [← hw]; exact heap_alloc_new _ _
            have lt8 : w.heap.size < (World.heap v21).size := HH.out.1.lt
            have hne : (World.heap v21).size ≠ (World.heap v1).size := Nat.ne_of_gt f9v21.out.lt
            have f9v22 : Hid (Blk v22 (World.heap v1).size (uv (List.replicate 16 0)) 30) := by rw [← hw]; exact blk_alloc f9v21.out _
            clear hw
            refine hK.out _ _ sv22 (fun _ => ?_)
            clear hK K HH
            have HH := Lib.hid sv22
            clear sv22
            change wpAnyH _ _ _ _ _ 2 #[true, true, true, true, true, true, true, true, true, true, false, false] _ _
            refine wpAnyH_ready (rs := [10]) (by kernel_rfl) (by simp) ?_
            refine AllReadyH.cons rfl (fun K hK => ?_) AllReadyH.nil
            rw [if_pos (by rfl)]
            simp only [List.getElem_toArray, List.getElem_cons_succ, List.getElem_cons_zero]
            refine wp_store_row 38 (.tmp 7) (.tmp 16) rfl (World.heap v21).size (bva (blockL k C N)) rfl rfl 38 (bva (List.replicate 64 0)) f8v22.out (by rw [bva_size, blockL_length]; exact info38) (by rw [bva_size, bva_size, blockL_length]; rfl) (bva_one _) ?_
            generalize hw : World.setRow _ _ _ = v23
            have sv23 : Blk v23 w.heap.size (bva k) 36 ∧ Below w.heap.size w v23 := by rw [← hw]; exact ⟨HH.out.1.setRow (Nat.ne_of_lt lt8) _, below_setRow HH.out.2 (Nat.le_of_lt lt8) _⟩
            have f8v23 : Hid (Blk v23 (World.heap v21).size (bva (blockL k C N)) 38) := by rw [← hw]; exact setRow_heap _ _ _ _ _ _ f8v22.out
            have f9v23 : Hid (Blk v23 (World.heap v1).size (uv (List.replicate 16 0)) 30) := by rw [← hw]; exact f9v22.out.setRow (Ne.symm hne) _
            clear hw
            refine hK.out _ _ sv23 (fun _ => ?_)
            clear hK K HH
            have HH := Lib.hid sv23
            clear sv23
            simp only [Act.put]
            change wpAnyH _ _ _ _ _ 1 #[true, true, true, true, true, true, true, true, true, true, true, false] _ _
            refine wpAnyH_ready (rs := [11]) (by kernel_rfl) (by simp) ?_
            refine AllReadyH.cons rfl (fun K hK => ?_) AllReadyH.nil
            rw [if_pos (by rfl)]
            simp only [List.getElem_toArray, List.getElem_cons_succ, List.getElem_cons_zero]
            refine wp_store_row 30 (.tmp 8) (.tmp 20) rfl (World.heap v1).size (uv (keyL k C N)) rfl rfl 30 (uv (List.replicate 16 0)) f9v23.out (by rw [uv_size, keyL_length]; exact info30) (by rw [uv_size, uv_size, keyL_length]; rfl) (uv_one _) ?_
            generalize hw : World.setRow _ _ _ = v24
            have sv24 : Blk v24 w.heap.size (bva k) 36 ∧ Below w.heap.size w v24 := by rw [← hw]; exact ⟨HH.out.1.setRow (Nat.ne_of_lt lt9) _, below_setRow HH.out.2 (Nat.le_of_lt lt9) _⟩
            have f8v24 : Hid (Blk v24 (World.heap v21).size (bva (blockL k C N)) 38) := by rw [← hw]; exact f8v23.out.setRow hne _
            have f9v24 : Hid (Blk v24 (World.heap v1).size (uv (keyL k C N)) 30) := by rw [← hw]; exact setRow_heap _ _ _ _ _ _ f9v23.out
            clear hw
            refine hK.out _ _ sv24 (fun _ => ?_)
            clear hK K HH
            have HH := Lib.hid sv24
            clear sv24
            simp only [Act.put]
            change wpAnyH _ _ _ _ _ 0 #[true, true, true, true, true, true, true, true, true, true, true, true] _ _
            refine wpAnyH_done (by kernel_rfl) ?_ _
            go_wp2_with fail
            go_meet
            exact ⟨(World.heap v21).size, (World.heap v1).size, rfl, rfl, f8v24.out, f9v24.out, HH.out.2⟩
          · refine AllReadyH.cons rfl (fun K hK => ?_) AllReadyH.nil
            go_simp
            generalize hw : World.alloc _ _ = v25
            have sv25 : Blk v25 w.heap.size (bva k) 36 ∧ Below w.heap.size w v25 := by rw [← hw]; exact ⟨blk_alloc HH.out.1 _, HH.out.2.alloc HH.out.2.size _⟩
            have f8v25 : Hid (Blk v25 (World.heap v20).size (bva (List.replicate 64 0)) 38) := by rw [← hw]; exact heap_alloc_new _ _
            have lt8 : w.heap.size < (World.heap v20).size := HH.out.1.lt
            have hne : (World.heap v20).size ≠ (World.heap v1).size := Nat.ne_of_gt f9v20.out.lt
            have f9v25 : Hid (Blk v25 (World.heap v1).size (uv (List.replicate 16 0)) 30) := by rw [← hw]; exact blk_alloc f9v20.out _
            clear hw
            refine hK.out _ _ sv25 (fun _ => ?_)
            clear hK K HH
            have HH := Lib.hid sv25
            clear sv25
            change wpAnyH _ _ _ _ _ 3 #[true, true, true, true, true, true, true, false, true, true, false, false] _ _
            refine wpAnyH_ready (rs := [7]) (by kernel_rfl) (by simp) ?_
            refine AllReadyH.cons rfl (fun K hK => ?_) AllReadyH.nil
            go_simp
            refine (rkeyState_any k hk C N _).mono ?_
            rintro e v26 ⟨rfl, bv26⟩
            go_simp
            have sv26 : Blk v26 w.heap.size (bva k) 36 ∧ Below w.heap.size w v26 := ⟨HH.out.1.below bv26, HH.out.2.trans (bv26.mono HH.out.2.size)⟩
            have f8v26 := Lib.hid (f8v25.out.below bv26)
            have f9v26 := Lib.hid (f9v25.out.below bv26)
            refine hK.out _ _ sv26 (fun _ => ?_)
            clear hK K HH
            have HH := Lib.hid sv26
            clear sv26
            change wpAnyH _ _ _ _ _ 2 #[true, true, true, true, true, true, true, true, true, true, false, false] _ _
            refine wpAnyH_ready (rs := [10]) (by kernel_rfl) (by simp) ?_
            refine AllReadyH.cons rfl (fun K hK => ?_) AllReadyH.nil
            rw [if_pos (by rfl)]
            simp only [List.getElem_toArray, List.getElem_cons_succ, List.getElem_cons_zero]
            refine wp_store_row 38 (.tmp 7) (.tmp 16) rfl (World.heap v20).size (bva (blockL k C N)) rfl rfl 38 (bva (List.replicate 64 0)) f8v26.out (by rw [bva_size, blockL_length]; exact info38) (by rw [bva_size, bva_size, blockL_length]; rfl) (bva_one _) ?_
            generalize hw : World.setRow _ _ _ = v27
            have sv27 : Blk v27 w.heap.size (bva k) 36 ∧ Below w.heap.size w v27 := by rw [← hw]; exact ⟨HH.out.1.setRow (Nat.ne_of_lt lt8) _, below_setRow HH.out.2 (Nat.le_of_lt lt8) _⟩
            have f8v27 : Hid (Blk v27 (World.heap v20).size (bva (blockL k C N)) 38) := by rw [← hw]; exact setRow_heap _ _ _ _ _ _ f8v26.out
            have f9v27 : Hid (Blk v27 (World.heap v1).size (uv (List.replicate 16 0)) 30) := by rw [← hw]; exact f9v26.out.setRow (Ne.symm hne) _
            clear hw
            refine hK.out _ _ sv27 (fun _ => ?_)
            clear hK K HH
            have HH := Lib.hid sv27
            clear sv27
            simp only [Act.put]
            change wpAnyH _ _ _ _ _ 1 #[true, true, true, true, true, true, true, true, true, true, true, false] _ _
            refine wpAnyH_ready (rs := [11]) (by kernel_rfl) (by simp) ?_
            refine AllReadyH.cons rfl (fun K hK => ?_) AllReadyH.nil
            rw [if_pos (by rfl)]
            simp only [List.getElem_toArray, List.getElem_cons_succ, List.getElem_cons_zero]
            refine wp_store_row 30 (.tmp 8) (.tmp 20) rfl (World.heap v1).size (uv (keyL k C N)) rfl rfl 30 (uv (List.replicate 16 0)) f9v27.out (by rw [uv_size, keyL_length]; exact info30) (by rw [uv_size, uv_size, keyL_length]; rfl) (uv_one _) ?_
            generalize hw : World.setRow _ _ _ = v28
            have sv28 : Blk v28 w.heap.size (bva k) 36 ∧ Below w.heap.size w v28 := by rw [← hw]; exact ⟨HH.out.1.setRow (Nat.ne_of_lt lt9) _, below_setRow HH.out.2 (Nat.le_of_lt lt9) _⟩
            have f8v28 : Hid (Blk v28 (World.heap v20).size (bva (blockL k C N)) 38) := by rw [← hw]; exact f8v27.out.setRow hne _
            have f9v28 : Hid (Blk v28 (World.heap v1).size (uv (keyL k C N)) 30) := by rw [← hw]; exact setRow_heap _ _ _ _ _ _ f9v27.out
            clear hw
            refine hK.out _ _ sv28 (fun _ => ?_)
            clear hK K HH
            have HH := Lib.hid sv28
            clear sv28
            simp only [Act.put]
            change wpAnyH _ _ _ _ _ 0 #[true, true, true, true, true, true, true, true, true, true, true, true] _ _
            refine wpAnyH_done (by kernel_rfl) ?_ _
            go_wp2_with fail
            go_meet
            exact ⟨(World.heap v20).size, (World.heap v1).size, rfl, rfl, f8v28.out, f9v28.out, HH.out.2⟩
    · refine AllReadyH.cons rfl (fun K hK => ?_) ?_
      · go_simp
        generalize hw : World.alloc _ _ = v29
        have sv29 : Blk v29 w.heap.size (bva k) 36 ∧ Below w.heap.size w v29 := by rw [← hw]; exact ⟨blk_alloc HH.out.1 _, HH.out.2.alloc HH.out.2.size _⟩
        have f8v29 : Hid (Blk v29 (World.heap v0).size (bva (List.replicate 64 0)) 38) := by rw [← hw]; exact heap_alloc_new _ _
        have lt8 : w.heap.size < (World.heap v0).size := HH.out.1.lt
        clear hw
        refine hK.out _ _ sv29 (fun _ => ?_)
        clear hK K HH
        have HH := Lib.hid sv29
        clear sv29
        change wpAnyH _ _ _ _ _ 5 #[true, true, true, false, true, true, true, false, true, false, false, false] _ _
        refine wpAnyH_ready (rs := [3, 9]) (by kernel_rfl) (by simp) ?_
        refine AllReadyH.cons rfl (fun K hK => ?_) ?_
        · go_simp
          refine (block_any k hk C N _).mono ?_
          rintro e v30 ⟨rfl, bv30⟩
          go_simp
          have sv30 : Blk v30 w.heap.size (bva k) 36 ∧ Below w.heap.size w v30 := ⟨HH.out.1.below bv30, HH.out.2.trans (bv30.mono HH.out.2.size)⟩
          have f8v30 := Lib.hid (f8v29.out.below bv30)
          refine hK.out _ _ sv30 (fun _ => ?_)
          clear hK K HH
          have HH := Lib.hid sv30
          clear sv30
          change wpAnyH _ _ _ _ _ 4 #[true, true, true, true, true, true, true, false, true, false, false, false] _ _
          refine wpAnyH_ready (rs := [7, 9]) (by kernel_rfl) (by simp) ?_
          refine AllReadyH.cons rfl (fun K hK => ?_) ?_
          · go_simp
            refine (rkeyState_any k hk C N _).mono ?_
            rintro e v31 ⟨rfl, bv31⟩
            go_simp
            have sv31 : Blk v31 w.heap.size (bva k) 36 ∧ Below w.heap.size w v31 := ⟨HH.out.1.below bv31, HH.out.2.trans (bv31.mono HH.out.2.size)⟩
            have f8v31 := Lib.hid (f8v30.out.below bv31)
            refine hK.out _ _ sv31 (fun _ => ?_)
            clear hK K HH
            have HH := Lib.hid sv31
            clear sv31
            change wpAnyH _ _ _ _ _ 3 #[true, true, true, true, true, true, true, true, true, false, false, false] _ _
            refine wpAnyH_ready (rs := [9]) (by kernel_rfl) (by simp) ?_
            refine AllReadyH.cons rfl (fun K hK => ?_) AllReadyH.nil
            go_simp
            generalize hw : World.alloc _ _ = v32
            have sv32 : Blk v32 w.heap.size (bva k) 36 ∧ Below w.heap.size w v32 := by rw [← hw]; exact ⟨blk_alloc HH.out.1 _, HH.out.2.alloc HH.out.2.size _⟩
            have f9v32 : Hid (Blk v32 (World.heap v31).size (uv (List.replicate 16 0)) 30) := by rw [← hw]; exact heap_alloc_new _ _
            have lt9 : w.heap.size < (World.heap v31).size := HH.out.1.lt
            have hne : (World.heap v0).size ≠ (World.heap v31).size := Nat.ne_of_lt f8v31.out.lt
            have f8v32 : Hid (Blk v32 (World.heap v0).size (bva (List.replicate 64 0)) 38) := by rw [← hw]; exact blk_alloc f8v31.out _
            clear hw
            refine hK.out _ _ sv32 (fun _ => ?_)
            clear hK K HH
            have HH := Lib.hid sv32
            clear sv32
            change wpAnyH _ _ _ _ _ 2 #[true, true, true, true, true, true, true, true, true, true, false, false] _ _
            refine wpAnyH_ready (rs := [10]) (by kernel_rfl) (by simp) ?_
            refine AllReadyH.cons rfl (fun K hK => ?_) AllReadyH.nil
            rw [if_pos (by rfl)]
            simp only [List.getElem_toArray, List.getElem_cons_succ, List.getElem_cons_zero]
            refine wp_store_row 38 (.tmp 7) (.tmp 16) rfl (World.heap v0).size (bva (blockL k C N)) rfl rfl 38 (bva (List.replicate 64 0)) f8v32.out (by rw [bva_size, blockL_length]; exact info38) (by rw [bva_size, bva_size, blockL_length]; rfl) (bva_one _) ?_
            generalize hw : World.setRow _ _ _ = v33
            have sv33 : Blk v33 w.heap.size (bva k) 36 ∧ Below w.heap.size w v33 := by rw [← hw]; exact ⟨HH.out.1.setRow (Nat.ne_of_lt lt8) _, below_setRow HH.out.2 (Nat.le_of_lt lt8) _⟩
            have f8v33 : Hid (Blk v33 (World.heap v0).size (bva (blockL k C N)) 38) := by rw [← hw]; exact setRow_heap _ _ _ _ _ _ f8v32.out
            have f9v33 : Hid (Blk v33 (World.heap v31).size (uv (List.replicate 16 0)) 30) := by rw [← hw]; exact f9v32.out.setRow (Ne.symm hne) _
            clear hw
            refine hK.out _ _ sv33 (fun _ => ?_)
            clear hK K HH
            have HH := Lib.hid sv33
            clear sv33
            simp only [Act.put]
            change wpAnyH _ _ _ _ _ 1 #[true, true, true, true, true, true, true, true, true, true, true, false] _ _
            refine wpAnyH_ready (rs := [11]) (by kernel_rfl) (by simp) ?_
            refine AllReadyH.cons rfl (fun K hK => ?_) AllReadyH.nil
            rw [if_pos (by rfl)]
            simp only [List.getElem_toArray, List.getElem_cons_succ, List.getElem_cons_zero]
            refine wp_store_row 30 (.tmp 8) (.tmp 20) rfl (World.heap v31).size (uv (keyL k C N)) rfl rfl 30 (uv (List.replicate 16 0)) f9v33.out (by rw [uv_size, keyL_length]; exact info30) (by rw [uv_size, uv_size, keyL_length]; rfl) (uv_one _) ?_
            generalize hw : World.setRow _ _ _ = v34
            have sv34 : Blk v34 w.heap.size (bva k) 36 ∧ Below w.heap.size w v34 := by rw [← hw]; exact ⟨HH.out.1.setRow (Nat.ne_of_lt lt9) _, below_setRow HH.out.2 (Nat.le_of_lt lt9) _⟩
            have f8v34 : Hid (Blk v34 (World.heap v0).size (bva (blockL k C N)) 38) := by rw [← hw]; exact f8v33.out.setRow hne _
            have f9v34 : Hid (Blk v34 (World.heap v31).size (uv (keyL k C N)) 30) := by rw [← hw]; exact setRow_heap _ _ _ _ _ _ f9v33.out
            clear hw
            refine hK.out _ _ sv34 (fun _ => ?_)
            clear hK K HH
            have HH := Lib.hid sv34
            clear sv34
            simp only [Act.put]
            change wpAnyH _ _ _ _ _ 0 #[true, true, true, true, true, true, true, true, true, true, true, true] _ _
            refine wpAnyH_done (by kernel_rfl) ?_ _
            go_wp2_with fail
            go_meet
            exact ⟨(World.heap v0).size, (World.heap v31).size, rfl, rfl, f8v34.out, f9v34.out, HH.out.2⟩
          · refine AllReadyH.cons rfl (fun K hK => ?_) AllReadyH.nil
            go_simp
            generalize hw : World.alloc _ _ = v35
            have sv35 : Blk v35 w.heap.size (bva k) 36 ∧ Below w.heap.size w v35 := by rw [← hw]; exact ⟨blk_alloc HH.out.1 _, HH.out.2.alloc HH.out.2.size _⟩
            have f9v35 : Hid (Blk v35 (World.heap v30).size (uv (List.replicate 16 0)) 30) := by rw [← hw]; exact heap_alloc_new _ _
            have lt9 : w.heap.size < (World.heap v30).size := HH.out.1.lt
            have hne : (World.heap v0).size ≠ (World.heap v30).size := Nat.ne_of_lt f8v30.out.lt
            have f8v35 : Hid (Blk v35 (World.heap v0).size (bva (List.replicate 64 0)) 38) := by rw [← hw]; exact blk_alloc f8v30.out _
            clear hw
            refine hK.out _ _ sv35 (fun _ => ?_)
            clear hK K HH
            have HH := Lib.hid sv35
            clear sv35
            change wpAnyH _ _ _ _ _ 3 #[true, true, true, true, true, true, true, false, true, true, false, false] _ _
            refine wpAnyH_ready (rs := [7]) (by kernel_rfl) (by simp) ?_
            refine AllReadyH.cons rfl (fun K hK => ?_) AllReadyH.nil
            go_simp
            refine (rkeyState_any k hk C N _).mono ?_
            rintro e v36 ⟨rfl, bv36⟩
            go_simp
            have sv36 : Blk v36 w.heap.size (bva k) 36 ∧ Below w.heap.size w v36 := ⟨HH.out.1.below bv36, HH.out.2.trans (bv36.mono HH.out.2.size)⟩
            have f8v36 := Lib.hid (f8v35.out.below bv36)
            have f9v36 := Lib.hid (f9v35.out.below bv36)
            refine hK.out _ _ sv36 (fun _ => ?_)
            clear hK K HH
            have HH := Lib.hid sv36
            clear sv36
            change wpAnyH _ _ _ _ _ 2 #[true, true, true, true, true, true, true, true, true, true, false, false] _ _
            refine wpAnyH_ready (rs := [10]) (by kernel_rfl) (by simp) ?_
            refine AllReadyH.cons rfl (fun K hK => ?_) AllReadyH.nil
            rw [if_pos (by rfl)]
            simp only [List.getElem_toArray, List.getElem_cons_succ, List.getElem_cons_zero]
            refine wp_store_row 38 (.tmp 7) (.tmp 16) rfl (World.heap v0).size (bva (blockL k C N)) rfl rfl 38 (bva (List.replicate 64 0)) f8v36.out (by rw [bva_size, blockL_length]; exact info38) (by rw [bva_size, bva_size, blockL_length]; rfl) (bva_one _) ?_
            generalize hw : World.setRow _ _ _ = v37
            have sv37 : Blk v37 w.heap.size (bva k) 36 ∧ Below w.heap.size w v37 := by rw [← hw]; exact ⟨HH.out.1.setRow (Nat.ne_of_lt lt8) _, below_setRow HH.out.2 (Nat.le_of_lt lt8) _⟩
            have f8v37 : Hid (Blk v37 (World.heap v0).size (bva (blockL k C N)) 38) := by rw [← hw]; exact setRow_heap _ _ _ _ _ _ f8v36.out
            have f9v37 : Hid (Blk v37 (World.heap v30).size (uv (List.replicate 16 0)) 30) := by rw [← hw]; exact f9v36.out.setRow (Ne.symm hne) _
            clear hw
            refine hK.out _ _ sv37 (fun _ => ?_)
            clear hK K HH
            have HH := Lib.hid sv37
            clear sv37
            simp only [Act.put]
            change wpAnyH _ _ _ _ _ 1 #[true, true, true, true, true, true, true, true, true, true, true, false] _ _
            refine wpAnyH_ready (rs := [11]) (by kernel_rfl) (by simp) ?_
            refine AllReadyH.cons rfl (fun K hK => ?_) AllReadyH.nil
            rw [if_pos (by rfl)]
            simp only [List.getElem_toArray, List.getElem_cons_succ, List.getElem_cons_zero]
            refine wp_store_row 30 (.tmp 8) (.tmp 20) rfl (World.heap v30).size (uv (keyL k C N)) rfl rfl 30 (uv (List.replicate 16 0)) f9v37.out (by rw [uv_size, keyL_length]; exact info30) (by rw [uv_size, uv_size, keyL_length]; rfl) (uv_one _) ?_
            generalize hw : World.setRow _ _ _ = v38
            have sv38 : Blk v38 w.heap.size (bva k) 36 ∧ Below w.heap.size w v38 := by rw [← hw]; exact ⟨HH.out.1.setRow (Nat.ne_of_lt lt9) _, below_setRow HH.out.2 (Nat.le_of_lt lt9) _⟩
            have f8v38 : Hid (Blk v38 (World.heap v0).size (bva (blockL k C N)) 38) := by rw [← hw]; exact f8v37.out.setRow hne _
            have f9v38 : Hid (Blk v38 (World.heap v30).size (uv (keyL k C N)) 30) := by rw [← hw]; exact setRow_heap _ _ _ _ _ _ f9v37.out
            clear hw
            refine hK.out _ _ sv38 (fun _ => ?_)
            clear hK K HH
            have HH := Lib.hid sv38
            clear sv38
            simp only [Act.put]
            change wpAnyH _ _ _ _ _ 0 #[true, true, true, true, true, true, true, true, true, true, true, true] _ _
            refine wpAnyH_done (by kernel_rfl) ?_ _
            go_wp2_with fail
            go_meet
            exact ⟨(World.heap v0).size, (World.heap v30).size, rfl, rfl, f8v38.out, f9v38.out, HH.out.2⟩
        · refine AllReadyH.cons rfl (fun K hK => ?_) AllReadyH.nil
          go_simp
          generalize hw : World.alloc _ _ = v39
          have sv39 : Blk v39 w.heap.size (bva k) 36 ∧ Below w.heap.size w v39 := by rw [← hw]; exact ⟨blk_alloc HH.out.1 _, HH.out.2.alloc HH.out.2.size _⟩
          have f9v39 : Hid (Blk v39 (World.heap v29).size (uv (List.replicate 16 0)) 30) := by rw [← hw]; exact heap_alloc_new _ _
          have lt9 : w.heap.size < (World.heap v29).size := HH.out.1.lt
          have hne : (World.heap v0).size ≠ (World.heap v29).size := Nat.ne_of_lt f8v29.out.lt
          have f8v39 : Hid (Blk v39 (World.heap v0).size (bva (List.replicate 64 0)) 38) := by rw [← hw]; exact blk_alloc f8v29.out _
          clear hw
          refine hK.out _ _ sv39 (fun _ => ?_)
          clear hK K HH
          have HH := Lib.hid sv39
          clear sv39
          change wpAnyH _ _ _ _ _ 4 #[true, true, true, false, true, true, true, false, true, true, false, false] _ _
          refine wpAnyH_ready (rs := [3]) (by kernel_rfl) (by simp) ?_
          refine AllReadyH.cons rfl (fun K hK => ?_) AllReadyH.nil
          go_simp
          refine (block_any k hk C N _).mono ?_
          rintro e v40 ⟨rfl, bv40⟩
          go_simp
          have sv40 : Blk v40 w.heap.size (bva k) 36 ∧ Below w.heap.size w v40 := ⟨HH.out.1.below bv40, HH.out.2.trans (bv40.mono HH.out.2.size)⟩
          have f8v40 := Lib.hid (f8v39.out.below bv40)
          have f9v40 := Lib.hid (f9v39.out.below bv40)
          refine hK.out _ _ sv40 (fun _ => ?_)
          clear hK K HH
          have HH := Lib.hid sv40
          clear sv40
          change wpAnyH _ _ _ _ _ 3 #[true, true, true, true, true, true, true, false, true, true, false, false] _ _
          refine wpAnyH_ready (rs := [7]) (by kernel_rfl) (by simp) ?_
          refine AllReadyH.cons rfl (fun K hK => ?_) AllReadyH.nil
          go_simp
          refine (rkeyState_any k hk C N _).mono ?_
          rintro e v41 ⟨rfl, bv41⟩
          go_simp
          have sv41 : Blk v41 w.heap.size (bva k) 36 ∧ Below w.heap.size w v41 := ⟨HH.out.1.below bv41, HH.out.2.trans (bv41.mono HH.out.2.size)⟩
          have f8v41 := Lib.hid (f8v40.out.below bv41)
          have f9v41 := Lib.hid (f9v40.out.below bv41)
          refine hK.out _ _ sv41 (fun _ => ?_)
          clear hK K HH
          have HH := Lib.hid sv41
          clear sv41
          change wpAnyH _ _ _ _ _ 2 #[true, true, true, true, true, true, true, true, true, true, false, false] _ _
          refine wpAnyH_ready (rs := [10]) (by kernel_rfl) (by simp) ?_
          refine AllReadyH.cons rfl (fun K hK => ?_) AllReadyH.nil
          rw [if_pos (by rfl)]
          simp only [List.getElem_toArray, List.getElem_cons_succ, List.getElem_cons_zero]
          refine wp_store_row 38 (.tmp 7) (.tmp 16) rfl (World.heap v0).size (bva (blockL k C N)) rfl rfl 38 (bva (List.replicate 64 0)) f8v41.out (by rw [bva_size, blockL_length]; exact info38) (by rw [bva_size, bva_size, blockL_length]; rfl) (bva_one _) ?_
          generalize hw : World.setRow _ _ _ = v42
          have sv42 : Blk v42 w.heap.size (bva k) 36 ∧ Below w.heap.size w v42 := by rw [← hw]; exact ⟨HH.out.1.setRow (Nat.ne_of_lt lt8) _, below_setRow HH.out.2 (Nat.le_of_lt lt8) _⟩
          have f8v42 : Hid (Blk v42 (World.heap v0).size (bva (blockL k C N)) 38) := by rw [← hw]; exact setRow_heap _ _ _ _ _ _ f8v41.out
          have f9v42 : Hid (Blk v42 (World.heap v29).size (uv (List.replicate 16 0)) 30) := by rw [← hw]; exact f9v41.out.setRow (Ne.symm hne) _
          clear hw
          refine hK.out _ _ sv42 (fun _ => ?_)
          clear hK K HH
          have HH := Lib.hid sv42
          clear sv42
          simp only [Act.put]
          change wpAnyH _ _ _ _ _ 1 #[true, true, true, true, true, true, true, true, true, true, true, false] _ _
          refine wpAnyH_ready (rs := [11]) (by kernel_rfl) (by simp) ?_
          refine AllReadyH.cons rfl (fun K hK => ?_) AllReadyH.nil
          rw [if_pos (by rfl)]
          simp only [List.getElem_toArray, List.getElem_cons_succ, List.getElem_cons_zero]
          refine wp_store_row 30 (.tmp 8) (.tmp 20) rfl (World.heap v29).size (uv (keyL k C N)) rfl rfl 30 (uv (List.replicate 16 0)) f9v42.out (by rw [uv_size, keyL_length]; exact info30) (by rw [uv_size, uv_size, keyL_length]; rfl) (uv_one _) ?_
          generalize hw : World.setRow _ _ _ = v43
          have sv43 : Blk v43 w.heap.size (bva k) 36 ∧ Below w.heap.size w v43 := by rw [← hw]; exact ⟨HH.out.1.setRow (Nat.ne_of_lt lt9) _, below_setRow HH.out.2 (Nat.le_of_lt lt9) _⟩
          have f8v43 : Hid (Blk v43 (World.heap v0).size (bva (blockL k C N)) 38) := by rw [← hw]; exact f8v42.out.setRow hne _
          have f9v43 : Hid (Blk v43 (World.heap v29).size (uv (keyL k C N)) 30) := by rw [← hw]; exact setRow_heap _ _ _ _ _ _ f9v42.out
          clear hw
          refine hK.out _ _ sv43 (fun _ => ?_)
          clear hK K HH
          have HH := Lib.hid sv43
          clear sv43
          simp only [Act.put]
          change wpAnyH _ _ _ _ _ 0 #[true, true, true, true, true, true, true, true, true, true, true, true] _ _
          refine wpAnyH_done (by kernel_rfl) ?_ _
          go_wp2_with fail
          go_meet
          exact ⟨(World.heap v0).size, (World.heap v29).size, rfl, rfl, f8v43.out, f9v43.out, HH.out.2⟩
      · refine AllReadyH.cons rfl (fun K hK => ?_) AllReadyH.nil
        go_simp
        generalize hw : World.alloc _ _ = v44
        have sv44 : Blk v44 w.heap.size (bva k) 36 ∧ Below w.heap.size w v44 := by rw [← hw]; exact ⟨blk_alloc HH.out.1 _, HH.out.2.alloc HH.out.2.size _⟩
        have f9v44 : Hid (Blk v44 (World.heap v0).size (uv (List.replicate 16 0)) 30) := by rw [← hw]; exact heap_alloc_new _ _
        have lt9 : w.heap.size < (World.heap v0).size := HH.out.1.lt
        clear hw
        refine hK.out _ _ sv44 (fun _ => ?_)
        clear hK K HH
        have HH := Lib.hid sv44
        clear sv44
        change wpAnyH _ _ _ _ _ 5 #[true, true, true, false, true, true, true, false, false, true, false, false] _ _
        refine wpAnyH_ready (rs := [3, 8]) (by kernel_rfl) (by simp) ?_
        refine AllReadyH.cons rfl (fun K hK => ?_) ?_
        · go_simp
          refine (block_any k hk C N _).mono ?_
          rintro e v45 ⟨rfl, bv45⟩
          go_simp
          have sv45 : Blk v45 w.heap.size (bva k) 36 ∧ Below w.heap.size w v45 := ⟨HH.out.1.below bv45, HH.out.2.trans (bv45.mono HH.out.2.size)⟩
          have f9v45 := Lib.hid (f9v44.out.below bv45)
          refine hK.out _ _ sv45 (fun _ => ?_)
          clear hK K HH
          have HH := Lib.hid sv45
          clear sv45
          change wpAnyH _ _ _ _ _ 4 #[true, true, true, true, true, true, true, false, false, true, false, false] _ _
          refine wpAnyH_ready (rs := [7, 8]) (by kernel_rfl) (by simp) ?_
          refine AllReadyH.cons rfl (fun K hK => ?_) ?_
          · go_simp
            refine (rkeyState_any k hk C N _).mono ?_
            rintro e v46 ⟨rfl, bv46⟩
            go_simp
            have sv46 : Blk v46 w.heap.size (bva k) 36 ∧ Below w.heap.size w v46 := ⟨HH.out.1.below bv46, HH.out.2.trans (bv46.mono HH.out.2.size)⟩
            have f9v46 := Lib.hid (f9v45.out.below bv46)
            refine hK.out _ _ sv46 (fun _ => ?_)
            clear hK K HH
            have HH := Lib.hid sv46
            clear sv46
            change wpAnyH _ _ _ _ _ 3 #[true, true, true, true, true, true, true, true, false, true, false, false] _ _
            refine wpAnyH_ready (rs := [8]) (by kernel_rfl) (by simp) ?_
            refine AllReadyH.cons rfl (fun K hK => ?_) AllReadyH.nil
            go_simp
            generalize hw : World.alloc _ _ = v47
            have sv47 : Blk v47 w.heap.size (bva k) 36 ∧ Below w.heap.size w v47 := by rw [← hw]; exact ⟨blk_alloc HH.out.1 _, HH.out.2.alloc HH.out.2.size _⟩
            have f8v47 : Hid (Blk v47 (World.heap v46).size (bva (List.replicate 64 0)) 38) := by rw [← hw]; exact heap_alloc_new _ _
            have lt8 : w.heap.size < (World.heap v46).size := HH.out.1.lt
            have hne : (World.heap v46).size ≠ (World.heap v0).size := Nat.ne_of_gt f9v46.out.lt
            have f9v47 : Hid (Blk v47 (World.heap v0).size (uv (List.replicate 16 0)) 30) := by rw [← hw]; exact blk_alloc f9v46.out _
            clear hw
            refine hK.out _ _ sv47 (fun _ => ?_)
            clear hK K HH
            have HH := Lib.hid sv47
            clear sv47
            change wpAnyH _ _ _ _ _ 2 #[true, true, true, true, true, true, true, true, true, true, false, false] _ _
            refine wpAnyH_ready (rs := [10]) (by kernel_rfl) (by simp) ?_
            refine AllReadyH.cons rfl (fun K hK => ?_) AllReadyH.nil
            rw [if_pos (by rfl)]
            simp only [List.getElem_toArray, List.getElem_cons_succ, List.getElem_cons_zero]
            refine wp_store_row 38 (.tmp 7) (.tmp 16) rfl (World.heap v46).size (bva (blockL k C N)) rfl rfl 38 (bva (List.replicate 64 0)) f8v47.out (by rw [bva_size, blockL_length]; exact info38) (by rw [bva_size, bva_size, blockL_length]; rfl) (bva_one _) ?_
            generalize hw : World.setRow _ _ _ = v48
            have sv48 : Blk v48 w.heap.size (bva k) 36 ∧ Below w.heap.size w v48 := by rw [← hw]; exact ⟨HH.out.1.setRow (Nat.ne_of_lt lt8) _, below_setRow HH.out.2 (Nat.le_of_lt lt8) _⟩
            have f8v48 : Hid (Blk v48 (World.heap v46).size (bva (blockL k C N)) 38) := by rw [← hw]; exact setRow_heap _ _ _ _ _ _ f8v47.out
            have f9v48 : Hid (Blk v48 (World.heap v0).size (uv (List.replicate 16 0)) 30) := by rw [← hw]; exact f9v47.out.setRow (Ne.symm hne) _
            clear hw
            refine hK.out _ _ sv48 (fun _ => ?_)
            clear hK K HH
            have HH := Lib.hid sv48
            clear sv48
            simp only [Act.put]
            change wpAnyH _ _ _ _ _ 1 #[true, true, true, true, true, true, true, true, true, true, true, false] _ _
            refine wpAnyH_ready (rs := [11]) (by kernel_rfl) (by simp) ?_
            refine AllReadyH.cons rfl (fun K hK => ?_) AllReadyH.nil
            rw [if_pos (by rfl)]
            simp only [List.getElem_toArray, List.getElem_cons_succ, List.getElem_cons_zero]
            refine wp_store_row 30 (.tmp 8) (.tmp 20) rfl (World.heap v0).size (uv (keyL k C N)) rfl rfl 30 (uv (List.replicate 16 0)) f9v48.out (by rw [uv_size, keyL_length]; exact info30) (by rw [uv_size, uv_size, keyL_length]; rfl) (uv_one _) ?_
            generalize hw : World.setRow _ _ _ = v49
            have sv49 : Blk v49 w.heap.size (bva k) 36 ∧ Below w.heap.size w v49 := by rw [← hw]; exact ⟨HH.out.1.setRow (Nat.ne_of_lt lt9) _, below_setRow HH.out.2 (Nat.le_of_lt lt9) _⟩
            have f8v49 : Hid (Blk v49 (World.heap v46).size (bva (blockL k C N)) 38) := by rw [← hw]; exact f8v48.out.setRow hne _
            have f9v49 : Hid (Blk v49 (World.heap v0).size (uv (keyL k C N)) 30) := by rw [← hw]; exact setRow_heap _ _ _ _ _ _ f9v48.out
            clear hw
            refine hK.out _ _ sv49 (fun _ => ?_)
            clear hK K HH
            have HH := Lib.hid sv49
            clear sv49
            simp only [Act.put]
            change wpAnyH _ _ _ _ _ 0 #[true, true, true, true, true, true, true, true, true, true, true, true] _ _
            refine wpAnyH_done (by kernel_rfl) ?_ _
            go_wp2_with fail
            go_meet
            exact ⟨(World.heap v46).size, (World.heap v0).size, rfl, rfl, f8v49.out, f9v49.out, HH.out.2⟩
          · refine AllReadyH.cons rfl (fun K hK => ?_) AllReadyH.nil
            go_simp
            generalize hw : World.alloc _ _ = v50
            have sv50 : Blk v50 w.heap.size (bva k) 36 ∧ Below w.heap.size w v50 := by rw [← hw]; exact ⟨blk_alloc HH.out.1 _, HH.out.2.alloc HH.out.2.size _⟩
            have f8v50 : Hid (Blk v50 (World.heap v45).size (bva (List.replicate 64 0)) 38) := by rw [← hw]; exact heap_alloc_new _ _
            have lt8 : w.heap.size < (World.heap v45).size := HH.out.1.lt
            have hne : (World.heap v45).size ≠ (World.heap v0).size := Nat.ne_of_gt f9v45.out.lt
            have f9v50 : Hid (Blk v50 (World.heap v0).size (uv (List.replicate 16 0)) 30) := by rw [← hw]; exact blk_alloc f9v45.out _
            clear hw
            refine hK.out _ _ sv50 (fun _ => ?_)
            clear hK K HH
            have HH := Lib.hid sv50
            clear sv50
            change wpAnyH _ _ _ _ _ 3 #[true, true, true, true, true, true, true, false, true, true, false, false] _ _
            refine wpAnyH_ready (rs := [7]) (by kernel_rfl) (by simp) ?_
            refine AllReadyH.cons rfl (fun K hK => ?_) AllReadyH.nil
            go_simp
            refine (rkeyState_any k hk C N _).mono ?_
            rintro e v51 ⟨rfl, bv51⟩
            go_simp
            have sv51 : Blk v51 w.heap.size (bva k) 36 ∧ Below w.heap.size w v51 := ⟨HH.out.1.below bv51, HH.out.2.trans (bv51.mono HH.out.2.size)⟩
            have f8v51 := Lib.hid (f8v50.out.below bv51)
            have f9v51 := Lib.hid (f9v50.out.below bv51)
            refine hK.out _ _ sv51 (fun _ => ?_)
            clear hK K HH
            have HH := Lib.hid sv51
            clear sv51
            change wpAnyH _ _ _ _ _ 2 #[true, true, true, true, true, true, true, true, true, true, false, false] _ _
            refine wpAnyH_ready (rs := [10]) (by kernel_rfl) (by simp) ?_
            refine AllReadyH.cons rfl (fun K hK => ?_) AllReadyH.nil
            rw [if_pos (by rfl)]
            simp only [List.getElem_toArray, List.getElem_cons_succ, List.getElem_cons_zero]
            refine wp_store_row 38 (.tmp 7) (.tmp 16) rfl (World.heap v45).size (bva (blockL k C N)) rfl rfl 38 (bva (List.replicate 64 0)) f8v51.out (by rw [bva_size, blockL_length]; exact info38) (by rw [bva_size, bva_size, blockL_length]; rfl) (bva_one _) ?_
            generalize hw : World.setRow _ _ _ = v52
            have sv52 : Blk v52 w.heap.size (bva k) 36 ∧ Below w.heap.size w v52 := by rw [← hw]; exact ⟨HH.out.1.setRow (Nat.ne_of_lt lt8) _, below_setRow HH.out.2 (Nat.le_of_lt lt8) _⟩
            have f8v52 : Hid (Blk v52 (World.heap v45).size (bva (blockL k C N)) 38) := by rw [← hw]; exact setRow_heap _ _ _ _ _ _ f8v51.out
            have f9v52 : Hid (Blk v52 (World.heap v0).size (uv (List.replicate 16 0)) 30) := by rw [← hw]; exact f9v51.out.setRow (Ne.symm hne) _
            clear hw
            refine hK.out _ _ sv52 (fun _ => ?_)
            clear hK K HH
            have HH := Lib.hid sv52
            clear sv52
            simp only [Act.put]
            change wpAnyH _ _ _ _ _ 1 #[true, true, true, true, true, true, true, true, true, true, true, false] _ _
            refine wpAnyH_ready (rs := [11]) (by kernel_rfl) (by simp) ?_
            refine AllReadyH.cons rfl (fun K hK => ?_) AllReadyH.nil
            rw [if_pos (by rfl)]
            simp only [List.getElem_toArray, List.getElem_cons_succ, List.getElem_cons_zero]
            refine wp_store_row 30 (.tmp 8) (.tmp 20) rfl (World.heap v0).size (uv (keyL k C N)) rfl rfl 30 (uv (List.replicate 16 0)) f9v52.out (by rw [uv_size, keyL_length]; exact info30) (by rw [uv_size, uv_size, keyL_length]; rfl) (uv_one _) ?_
            generalize hw : World.setRow _ _ _ = v53
            have sv53 : Blk v53 w.heap.size (bva k) 36 ∧ Below w.heap.size w v53 := by rw [← hw]; exact ⟨HH.out.1.setRow (Nat.ne_of_lt lt9) _, below_setRow HH.out.2 (Nat.le_of_lt lt9) _⟩
            have f8v53 : Hid (Blk v53 (World.heap v45).size (bva (blockL k C N)) 38) := by rw [← hw]; exact f8v52.out.setRow hne _
            have f9v53 : Hid (Blk v53 (World.heap v0).size (uv (keyL k C N)) 30) := by rw [← hw]; exact setRow_heap _ _ _ _ _ _ f9v52.out
            clear hw
            refine hK.out _ _ sv53 (fun _ => ?_)
            clear hK K HH
            have HH := Lib.hid sv53
            clear sv53
            simp only [Act.put]
            change wpAnyH _ _ _ _ _ 0 #[true, true, true, true, true, true, true, true, true, true, true, true] _ _
            refine wpAnyH_done (by kernel_rfl) ?_ _
            go_wp2_with fail
            go_meet
            exact ⟨(World.heap v45).size, (World.heap v0).size, rfl, rfl, f8v53.out, f9v53.out, HH.out.2⟩
        · refine AllReadyH.cons rfl (fun K hK => ?_) AllReadyH.nil
          go_simp
          generalize hw : World.alloc _ _ = v54
          have sv54 : Blk v54 w.heap.size (bva k) 36 ∧ Below w.heap.size w v54 := by rw [← hw]; exact ⟨blk_alloc HH.out.1 _, HH.out.2.alloc HH.out.2.size _⟩
          have f8v54 : Hid (Blk v54 (World.heap v44).size (bva (List.replicate 64 0)) 38) := by rw [← hw]; exact heap_alloc_new _ _
          have lt8 : w.heap.size < (World.heap v44).size := HH.out.1.lt
          have hne : (World.heap v44).size ≠ (World.heap v0).size := Nat.ne_of_gt f9v44.out.lt
          have f9v54 : Hid (Blk v54 (World.heap v0).size (uv (List.replicate 16 0)) 30) := by rw [← hw]; exact blk_alloc f9v44.out _
          clear hw
          refine hK.out _ _ sv54 (fun _ => ?_)
          clear hK K HH
          have HH := Lib.hid sv54
          clear sv54
          change wpAnyH _ _ _ _ _ 4 #[true, true, true, false, true, true, true, false, true, true, false, false] _ _
          refine wpAnyH_ready (rs := [3]) (by kernel_rfl) (by simp) ?_
          refine AllReadyH.cons rfl (fun K hK => ?_) AllReadyH.nil
          go_simp
          refine (block_any k hk C N _).mono ?_
          rintro e v55 ⟨rfl, bv55⟩
          go_simp
          have sv55 : Blk v55 w.heap.size (bva k) 36 ∧ Below w.heap.size w v55 := ⟨HH.out.1.below bv55, HH.out.2.trans (bv55.mono HH.out.2.size)⟩
          have f8v55 := Lib.hid (f8v54.out.below bv55)
          have f9v55 := Lib.hid (f9v54.out.below bv55)
          refine hK.out _ _ sv55 (fun _ => ?_)
          clear hK K HH
          have HH := Lib.hid sv55
          clear sv55
          change wpAnyH _ _ _ _ _ 3 #[true, true, true, true, true, true, true, false, true, true, false, false] _ _
          refine wpAnyH_ready (rs := [7]) (by kernel_rfl) (by simp) ?_
          refine AllReadyH.cons rfl (fun K hK => ?_) AllReadyH.nil
          go_simp
          refine (rkeyState_any k hk C N _).mono ?_
          rintro e v56 ⟨rfl, bv56⟩
          go_simp
          have sv56 : Blk v56 w.heap.size (bva k) 36 ∧ Below w.heap.size w v56 := ⟨HH.out.1.below bv56, HH.out.2.trans (bv56.mono HH.out.2.size)⟩
          have f8v56 := Lib.hid (f8v55.out.below bv56)
          have f9v56 := Lib.hid (f9v55.out.below bv56)
          refine hK.out _ _ sv56 (fun _ => ?_)
          clear hK K HH
          have HH := Lib.hid sv56
          clear sv56
          change wpAnyH _ _ _ _ _ 2 #[true, true, true, true, true, true, true, true, true, true, false, false] _ _
          refine wpAnyH_ready (rs := [10]) (by kernel_rfl) (by simp) ?_
          refine AllReadyH.cons rfl (fun K hK => ?_) AllReadyH.nil
          rw [if_pos (by rfl)]
          simp only [List.getElem_toArray, List.getElem_cons_succ, List.getElem_cons_zero]
          refine wp_store_row 38 (.tmp 7) (.tmp 16) rfl (World.heap v44).size (bva (blockL k C N)) rfl rfl 38 (bva (List.replicate 64 0)) f8v56.out (by rw [bva_size, blockL_length]; exact info38) (by rw [bva_size, bva_size, blockL_length]; rfl) (bva_one _) ?_
          generalize hw : World.setRow _ _ _ = v57
          have sv57 : Blk v57 w.heap.size (bva k) 36 ∧ Below w.heap.size w v57 := by rw [← hw]; exact ⟨HH.out.1.setRow (Nat.ne_of_lt lt8) _, below_setRow HH.out.2 (Nat.le_of_lt lt8) _⟩
          have f8v57 : Hid (Blk v57 (World.heap v44).size (bva (blockL k C N)) 38) := by rw [← hw]; exact setRow_heap _ _ _ _ _ _ f8v56.out
          have f9v57 : Hid (Blk v57 (World.heap v0).size (uv (List.replicate 16 0)) 30) := by rw [← hw]; exact f9v56.out.setRow (Ne.symm hne) _
          clear hw
          refine hK.out _ _ sv57 (fun _ => ?_)
          clear hK K HH
          have HH := Lib.hid sv57
          clear sv57
          simp only [Act.put]
          change wpAnyH _ _ _ _ _ 1 #[true, true, true, true, true, true, true, true, true, true, true, false] _ _
          refine wpAnyH_ready (rs := [11]) (by kernel_rfl) (by simp) ?_
          refine AllReadyH.cons rfl (fun K hK => ?_) AllReadyH.nil
          rw [if_pos (by rfl)]
          simp only [List.getElem_toArray, List.getElem_cons_succ, List.getElem_cons_zero]
          refine wp_store_row 30 (.tmp 8) (.tmp 20) rfl (World.heap v0).size (uv (keyL k C N)) rfl rfl 30 (uv (List.replicate 16 0)) f9v57.out (by rw [uv_size, keyL_length]; exact info30) (by rw [uv_size, uv_size, keyL_length]; rfl) (uv_one _) ?_
          generalize hw : World.setRow _ _ _ = v58
          have sv58 : Blk v58 w.heap.size (bva k) 36 ∧ Below w.heap.size w v58 := by rw [← hw]; exact ⟨HH.out.1.setRow (Nat.ne_of_lt lt9) _, below_setRow HH.out.2 (Nat.le_of_lt lt9) _⟩
          have f8v58 : Hid (Blk v58 (World.heap v44).size (bva (blockL k C N)) 38) := by rw [← hw]; exact f8v57.out.setRow hne _
          have f9v58 : Hid (Blk v58 (World.heap v0).size (uv (keyL k C N)) 30) := by rw [← hw]; exact setRow_heap _ _ _ _ _ _ f9v57.out
          clear hw
          refine hK.out _ _ sv58 (fun _ => ?_)
          clear hK K HH
          have HH := Lib.hid sv58
          clear sv58
          simp only [Act.put]
          change wpAnyH _ _ _ _ _ 0 #[true, true, true, true, true, true, true, true, true, true, true, true] _ _
          refine wpAnyH_done (by kernel_rfl) ?_ _
          go_wp2_with fail
          go_meet
          exact ⟨(World.heap v44).size, (World.heap v0).size, rfl, rfl, f8v58.out, f9v58.out, HH.out.2⟩
  case rest =>
    obtain ⟨g, h, rfl, rfl, D1, D2, D3⟩ := hcut
    have E1 := Lib.hid D1
    have E2 := Lib.hid D2
    have E3 := Lib.hid D3
    clear D1 D2 D3 G1 G2
    have HL : Hid ((keyL k C N).length = 16) := keyL_length k C N
    have HS : Hid ((Try.prog.info? 30).map (·.size) = some (uv (keyL k C N)).size) := by rw [uv_size, HL.out]; exact info30
    have HR : Hid ((rounds (keyL k C N)).length = 16) := by rw [rounds_length]; exact HL.out
    have HX : Hid ((Try.prog.info? 30).map (·.size) = some (uv (rounds (keyL k C N))).size) := by rw [uv_size, HR.out]; exact info30
    go_wp2_with (refine wpList_load_row rfl 30 (.tmp 8) rfl h rfl 30 (uv (keyL k C N)) (0, 0) _ ?hg Try.underlying30 rfl HS.out ?_; case hg => exact E2.out)
    refine (rounds_any (keyL k C N) HL.out _).mono ?_
    rintro e w5 ⟨rfl, b5⟩
    have p1 := E1.out.below b5
    have p2 := E2.out.below b5
    have p3 := E3.out.trans (b5.mono E3.out.size)
    have P1 := Lib.hid p1
    have P2 := Lib.hid p2
    have P3 := Lib.hid p3
    clear p1 p2 p3 E1 E2 E3 b5
    go_wp2_with (refine wpList_store_row rfl 30 (.tmp 9) (.tmp 22) rfl w5.heap.size (uv (rounds (keyL k C N))) rfl rfl 30 (uv (List.replicate 16 0)) (heap_alloc_new _ _) HX.out (by rw [uv_size, uv_size, HR.out]; rfl) (uv_one _) ?_; generalize hw6 : World.setRow _ _ _ = w6; have HW := Lib.hid hw6; clear hw6)
    have r1 : Blk w6 g (bva (blockL k C N)) 38 := by rw [← HW.out]; exact blk_past P1.out
    have r2 : Blk w6 h (uv (keyL k C N)) 30 := by rw [← HW.out]; exact blk_past P2.out
    have r3 : Blk w6 w5.heap.size (uv (rounds (keyL k C N))) 30 := by rw [← HW.out]; exact blk_new _
    have r4 : Below w.heap.size w w6 := by rw [← HW.out]; exact below_new P3.out P3.out.size
    go_loopw [23] (fun i wr => ∃ j : Nat, j ≤ 16 ∧ i = .int .i64 j ∧ Blk wr g (bva (blockL k C N)) 38 ∧ Blk wr h (uv (keyL k C N)) 30 ∧ Blk wr w5.heap.size (uv (rounds (keyL k C N))) 30 ∧ Below w.heap.size w wr) (fun i _ => 16 - (intOf i).toNat)
    case atStart => exact ⟨0, by omega, rfl, r1, r2, r3, r4⟩
    case round =>
      clear r1 r2 r3 r4 HW
      obtain ⟨j, hj, rfl, r1, r2, r3, r4⟩ := hrel
      by_cases hlt : j < 16
      · have j0 : (0 : Int) ≤ (j : Int) := by omega
        have j1 : (j : Int) < 16 := by omega
        obtain ⟨t, ht⟩ : ∃ t : Nat, t = 4 * j := ⟨_, rfl⟩
        have et : 4 * (j : Int) = (t : Int) := by omega
        have t0 : (0 : Int) ≤ (t : Int) := by omega
        have t1 : (t : Int) ≤ 60 := by omega
        obtain ⟨x, hx⟩ : ∃ x, x = (keyL k C N).getD j 0 := ⟨_, rfl⟩
        obtain ⟨y, hy⟩ : ∃ y, y = (rounds (keyL k C N)).getD j 0 := ⟨_, rfl⟩
        have X0 : wr.cell? ⟨h, j, none⟩ = some (.int .u32 (x.toNat : Int)) := by rw [hx]; exact r2.cellu (by rw [HL.out]; omega)
        have Y0 : wr.cell? ⟨w5.heap.size, j, none⟩ = some (.int .u32 (y.toNat : Int)) := by rw [hy]; exact r3.cellu (by rw [HR.out]; omega)
        obtain ⟨b0, h0⟩ : ∃ x, x = (blockL k C N).getD t 0 := ⟨_, rfl⟩
        obtain ⟨b1, h1⟩ : ∃ x, x = (blockL k C N).getD (t + 1) 0 := ⟨_, rfl⟩
        obtain ⟨b2, h2⟩ : ∃ x, x = (blockL k C N).getD (t + 2) 0 := ⟨_, rfl⟩
        obtain ⟨b3, h3⟩ : ∃ x, x = (blockL k C N).getD (t + 3) 0 := ⟨_, rfl⟩
        have C0 : wr.cell? ⟨g, t, none⟩ = some (.int .u8 (b0.toNat : Int)) := by rw [h0]; exact r1.cellb (by rw [blockL_length]; omega)
        have C1 : wr.cell? ⟨g, t + 1, none⟩ = some (.int .u8 (b1.toNat : Int)) := by rw [h1]; exact r1.cellb (by rw [blockL_length]; omega)
        have C2 : wr.cell? ⟨g, t + 2, none⟩ = some (.int .u8 (b2.toNat : Int)) := by rw [h2]; exact r1.cellb (by rw [blockL_length]; omega)
        have C3 : wr.cell? ⟨g, t + 3, none⟩ = some (.int .u8 (b3.toNat : Int)) := by rw [h3]; exact r1.cellb (by rw [blockL_length]; omega)
        have hz : w4 b0 b1 b2 b3 - x = y := by rw [h0, h1, h2, h3, hx, hy]; exact block_less k C N ht hlt
        have hz1 : (((w4 b0 b1 b2 b3).toNat : Int) - (x.toNat : Int)) % 4294967296 = (y.toNat : Int) := by rw [w_sub, hz]
        have hz2 : IntKind.u32.wrap (((w4 b0 b1 b2 b3).toNat : Int) - (x.toNat : Int)) = (y.toNat : Int) := by rw [IntKind.wrap_u32', w_sub, hz]
        have t2 : (t : Int) ≤ (t : Int) + 4 := by omega
        have t3 : (t : Int) + 4 ≤ 64 := by omega
        have t4 : ¬ 64 = t := by omega
        have t5 : (0 : Int) ≤ (t : Int) + 4 := by omega
        have t6 : (t : Int) ≤ 64 := by omega
        have wt : IntKind.i64.wrap (t : Int) = (t : Int) := IntWalk.i64_in _ (by omega)
        have wt4 : IntKind.i64.wrap ((t : Int) + 4) = (t : Int) + 4 := IntWalk.i64_in _ (by omega)
        have nt4 : ((t : Int) + 4).toNat = t + 4 := by omega
        have Q1 := Lib.hid C0
        have Q2 := Lib.hid C1
        have Q3 := Lib.hid C2
        have Q4 := Lib.hid C3
        have S1 := Lib.hid r1
        have S2 := Lib.hid r2
        have S3 := Lib.hid r3
        clear hx hy h0 h1 h2 h3 hz C0 C1 C2 C3 r1 r2 r3 ht
        go_wp2_with fail
        go_quiet ((go_at_call 22; exact RetQ.quiet (number_any g t 4 (64 - t) b0 b1 b2 b3 _ (by omega) Q1.out Q2.out Q3.out Q4.out)))
        go_wp2
        go_roundw
        case rel => exact ⟨j + 1, by omega, by go_num, S1.out, S2.out, S3.out, below_drewN' r4 _⟩
        case measure => simp [intOf]; omega
      · obtain rfl : j = 16 := by omega
        clear r1 r2 r3
        go_wp2_with fail
        go_ret
        exact ⟨rfl, r4⟩
theorem chachaParts_own : ownKnob Try.prog.godebug = none := by kernel_rfl
theorem chachaParts_laid : laidOutB Try.prog = true := by kernel_rfl

set_option maxRecDepth 100000 in
theorem chachaParts_lifted (os : Os) (started : os.Started) (H : Type) (enc : TypeId × Value → H) :
    ReturnsInHanded {} Try.checked os 8 .any (Rows.chachaPartsSpec.pre6 enc Try.prog Try.f8 Rows.chachaPartsRow.domain false) (Rows.chachaPartsSpec.post enc Try.prog Try.f8 false true false false) := by
  refine returnsInHanded_of_change (C := Try.checked) chachaParts_own started (by kernel_rfl) Try.func8
    (ChangeSpec.witness6 (enc := enc) (C := Try.checked) false ⟨#[], #[.agg #[.int .u8 0, .int .u8 0, .int .u8 0, .int .u8 0, .int .u8 0, .int .u8 0, .int .u8 0, .int .u8 0, .int .u8 0, .int .u8 0, .int .u8 0, .int .u8 0, .int .u8 0, .int .u8 0, .int .u8 0, .int .u8 0, .int .u8 0, .int .u8 0, .int .u8 0, .int .u8 0, .int .u8 0, .int .u8 0, .int .u8 0, .int .u8 0, .int .u8 0, .int .u8 0, .int .u8 0, .int .u8 0, .int .u8 0, .int .u8 0, .int .u8 0, .int .u8 0], .int .u32 0, .int .u64 0], []⟩ 8 (by kernel_rfl) (by kernel_rfl) (by kernel_rfl) (by kernel_rfl)) ?_
  intro W base args ds gs before hval0 hW _ _
  have hval : ∀ (j : Nat) t v, Try.f8.params[j]? = some t → args[j]? = some v → Value.okWide Try.prog W .any base t v := hval0
  have hW' := hW
  obtain ⟨p, q, hA0, hV, rfl, hfz, hnd⟩ := hW
  have hA : DataW.TrodAll enc Try.prog W 0 (fun _ => true) true Try.f8.params.toList args.toList ds p := hA0
  rw [Try.params8] at hA hval
  obtain ⟨v0, vs0, d0, ds0, p0, q0, hargs, rfl, rfl, h0, r0⟩ := trodAll_cons hA
  obtain ⟨v1, vs1, d1, ds1, p1, q1, rfl, rfl, rfl, h1, r1⟩ := trodAll_cons r0
  obtain ⟨v2, vs2, d2, ds2, p2, q2, rfl, rfl, rfl, h2, r2⟩ := trodAll_cons r1
  obtain ⟨rfl, rfl, rfl⟩ := trodAll_nil r2
  obtain rfl : args = #[v0, v1, v2] := by cases args; simp_all
  obtain ⟨rfl, rfl⟩ := trodVars_none hV
  have lt0 : ∀ x ∈ p0, x.block < W.heap.size := by obtain ⟨m, hm⟩ := h0; exact DataW.trod_lt m _ _ _ hm
  obtain ⟨l0, hl0, rfl⟩ := open_u8s Try.underlying36 Try.underlying5 (by kernel_rfl) (by kernel_rfl) (hval 0 36 v0 rfl rfl) h0
  obtain ⟨a1, rfl, rfl, rfl, w1⟩ := open_int Try.underlying22 (hval 1 22 v1 rfl rfl) h1
  have b1 := bounds_u32 w1
  obtain ⟨a2, rfl, rfl, rfl, w2⟩ := open_int Try.underlying37 (hval 2 37 v2 rfl rfl) h2
  have b2 := bounds_u64 w2
  clear hA0 hval0
  refine (chachaParts_any W l0 hl0 a1 b1 a2 b2).mono fun e W' ⟨he, bel⟩ => ?_
  subst he
  exact ⟨_, rfl, _, _, _, [], _, [], hW', trodAll_mk1 (shut_bool Try.underlying4 _), (trodAll_cons_mk (Below.trod chachaParts_laid (by kernel_rfl) (of_decide_eq_true (by kernel_rfl)) h0 bel lt0) (trodAll_cons_mk (shut_int Try.underlying22 w1) (trodAll_cons_mk (shut_int Try.underlying37 w2) trodAll_mk0))), rfl, bel.frame _, fun h => by cases h⟩

theorem chachaParts_holds : Rows.ChachaPartsSaid :=
  OpenClaim.holds_of_wide 8 Try.f8 rfl rfl rfl rfl rfl rfl rfl ⟨rfl, rfl, rfl, rfl, rfl⟩ rfl rfl rfl rfl rfl (by kernel_rfl) Try.func8 (by kernel_rfl)
    (of_decide_eq_true (by kernel_rfl)) (by unfold Func.isWrapper; rw [if_neg (of_decide_eq_false (by kernel_rfl))]; exact ⟨rfl, rfl⟩)
    (fun os started H enc _ => chachaParts_lifted os started H enc)

#print axioms chachaParts_holds

end Go.Proofs.Ytllgaodnfoehkaa
