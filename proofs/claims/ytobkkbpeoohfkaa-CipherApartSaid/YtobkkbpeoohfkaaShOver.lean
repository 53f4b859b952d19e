/-
  The contract of over: a padded text's blocks, one behind the other.
-/
import Derived.Test.YtobkkbpeoohfkaaShComp
import Derived.Laws.Cover3
import Derived.Test.YtobkkbpeoohfkaaHere
namespace Go.Proofs.Ytobkkbpeoohfkaa
open Go.RowKit
attribute [local go_sem ↓] Go.wp_at_zero Go.wp_at_succ
theorem exec_load_mid {P : Program} {w : World} {r : Operand → Value} {op : Oper} (ty : TypeId) (x : Operand) (ho : op.op = .load ty x)
    (b o : Nat) (hx : r x = .pointer (some ⟨b, o, none⟩)) (cs : List Value) (d : TypeDesc) (hc : w.rangeAt b o cs)
    (hu : P.underlying ty = some d) (hd : d.isRow = true) (hi : (P.info? ty).map (·.size) = some cs.length) : (execOp r op).run P w = .ok (.value (.agg cs.toArray)) w := by
  unfold execOp
  simp only [ho, hx, Instr.loadAt, Instr.sureAddr, Sem.run_bind, Sem.run_pure, Result.andThen_ok, run_loadVar_mid w b o ty cs d hc hu hd hi]
theorem range_mid {w : World} {B g : Nat} {l : List UInt8} (h : Rd B w (some ⟨g, 0, none⟩) (bv l)) {o n : Nat} : w.rangeAt g o (bv ((l.drop o).take n)) := fun j v hv => by
  rw [bv_take, List.getElem?_take] at hv
  split at hv
  · rw [bv_drop, List.getElem?_drop] at hv
    obtain ⟨ad, e, _, hc⟩ := h (o + j) v hv
    injection e with e
    subst e
    rw [add_head] at hc
    exact hc
  · cases hv
set_option maxHeartbeats 800000 in
theorem over_any (s : List UInt32) (hs : s.length = 8) (g n c : Nat) (t : List UInt8) (w : World) (hn : t.length = n) (hnc : n ≤ c) (hcm : c ≤ maxLen) (h64 : n % 64 = 0) (hg : Rd w.heap.size w (some ⟨g, 0, none⟩) (bv t)) :
    Calls Try.prog 30 #[.agg (uv s), .slice (some ⟨g, 0, none⟩) n c] w (RetB (.agg (uv (overL s t))) w) := by
  unfold maxLen at hcm
  have HS := Lib.hid hs
  have HN := Lib.hid hn
  have H64 : Hid (n = 64 * (n / 64)) := by show _ = _; omega
  obtain ⟨b1, b3⟩ : Blk ((w.alloc (.cells (uv s) 60)).alloc (.cells (uv (List.replicate 8 0)) 60)) w.heap.size (uv s) 60 ∧ Blk ((w.alloc (.cells (uv s) 60)).alloc (.cells (uv (List.replicate 8 0)) 60)) (w.heap.size + 1) (uv (List.replicate 8 0)) 60 := ⟨heap_alloc2_old _ _ _, heap_alloc2_new _ _ _⟩
  have hb : Below w.heap.size w ((w.alloc (.cells (uv s) 60)).alloc (.cells (uv (List.replicate 8 0)) 60)) := ((Below.refl _ _).alloc (Nat.le_refl _) _).alloc (by simp) _
  have b2 := hg.below hb
  have B1 := Lib.hid b1
  have B2 := Lib.hid b2
  have B3 := Lib.hid b3
  clear hs hn b1 b2 b3 h64 hg
  go_enter Try.func30, Try.ntmps30
  go_wp2_with fail
  go_loopw [1, 8, 9, 10, 11, 12, 13, 14, 15] (fun v _ _ _ _ _ _ _ _ wr => ∃ (k o m d : Nat), v = .slice (some ⟨g, o, none⟩) m d ∧ m ≤ d ∧ d ≤ c ∧ 64 * k ≤ n ∧ Hid (m + 64 * k = n) ∧ Hid (0 < m → o = 64 * k) ∧ Blk wr w.heap.size (uv (overTo s t k)) 60 ∧ Rd w.heap.size wr (some ⟨g, 0, none⟩) (bv t) ∧ Blk wr (w.heap.size + 1) (uv (List.replicate 8 0)) 60 ∧ Below w.heap.size w wr) (fun v _ _ _ _ _ _ _ _ _ => match v with | .slice _ m _ => m | _ => 0)
  case atStart => exact ⟨0, 0, n, c, rfl, hnc, Nat.le_refl _, by omega, by show _ = _; omega, fun _ => rfl, B1.out, B2.out, B3.out, hb⟩
  case round =>
    clear B1 B2 B3 hb
    obtain ⟨k, o, m, d, rfl, hmd, hdc, hkn, HM, HO, G1, G2, G3, hbel⟩ := hrel
    by_cases hlt : 0 < m
    · have ho := HO.out hlt
      have h1 : 64 ≤ m := by have := HM.out; have := H64.out; omega
      have h2 : (64 : Int) ≤ (d : Int) := by omega
      have h3 : (0 : Int) ≤ 64 := by omega
      have h4 : (64 : Int) ≤ (m : Int) := by omega
      obtain ⟨u, hu⟩ : ∃ u, u = overTo s t k := ⟨_, rfl⟩
      have HU8 : Hid (u.length = 8) := by show _ = _; rw [hu, overTo_length, HS.out]
      have hbl : ((t.drop o).take 64).length = 64 := by rw [List.length_take, List.length_drop, HN.out]; have := HM.out; omega
      have HB64 := Lib.hid hbl
      have HU : Hid ((Try.prog.info? 60).map (·.size) = some (uv u).size) := by rw [uv_size, HU8.out]; exact info28
      have HB : Hid ((Try.prog.info? 52).map (·.size) = some (bv ((t.drop o).take 64)).length) := by rw [bv_length, hbl]; exact info29
      have HUU := Lib.hid hu
      have HOO := Lib.hid ho
      rw [← hu] at G1
      have G1 := Lib.hid G1
      have G2 := Lib.hid G2
      have G3 := Lib.hid G3
      clear hu hbl ho
      have hat : ∀ W, (Instr.arrayAt 52 (.slice (some ⟨g, o, none⟩) 64 d)).run Try.prog W = .ok (.pointer (some ⟨g, o, none⟩)) W := fun W => run_arrayAt W 52 _ _ _ _ _ Try.underlying52 (Nat.le_refl _)
      go_wp2_with fail
      refine wp_region_any (by kernel_rfl) ?_
      change wpAny _ _ _ _ _ _ _ (World.drew _)
      refine wpAny_take (i := 1) (v := ?v1) rfl (by kernel_rfl) (by kernel_rfl) (by kernel_rfl) (fun _ _ _ h => h) (Or.inl ⟨by rfl, ?y1⟩) ?_
      case y1 => (intro w'; go_simp; try with_reducible rfl)
      refine wpAny_take (i := 2) (v := ?v2) rfl (by kernel_rfl) (by kernel_rfl) (by kernel_rfl) (fun _ _ _ h => h) (Or.inl ⟨by rfl, ?y2⟩) ?_
      case y2 => (intro w'; go_simp; try with_reducible rfl)
      refine wpAny_take (i := 3) (v := ?v3) rfl (by kernel_rfl) (by kernel_rfl) (by kernel_rfl) (fun _ _ _ h => h) (Or.inl ⟨by rfl, ?y3⟩) ?_
      case y3 => (intro w'; go_simp; try with_reducible rfl)
      refine wpAny_look (i := 0) (v := .agg (uv u)) rfl (by kernel_rfl) (by kernel_rfl) (by kernel_rfl) (fun _ _ _ h => h) (by rfl) ?y0 ?_
      case y0 => exact exec_load 60 (.tmp 2) rfl rfl (show Blk wr.drew w.heap.size (uv u) 60 from G1.out) Try.underlying60 rfl HU.out
      refine wpAny_look (i := 4) (v := .agg (bva ((t.drop o).take 64))) rfl (by kernel_rfl) (by kernel_rfl) (by kernel_rfl) (fun _ _ _ h => h) (by rfl) ?y4 ?_
      case y4 => exact exec_load_mid 52 (.tmp 11) rfl g o rfl (bv ((t.drop o).take 64)) _ (range_mid (show Rd w.heap.size wr.drew (some ⟨g, 0, none⟩) (bv t) from G2.out)) Try.underlying52 rfl HB.out
      refine wpAny_ready (rs := [5]) (by kernel_rfl) (by simp) (AllReady.cons rfl (fun K hK => ?_) AllReady.nil)
      go_simp
      refine (compress_any u ((t.drop o).take 64) HU8.out HB64.out _).mono ?_
      rintro e w2 ⟨rfl, bw2⟩
      have z1 : Blk w2 w.heap.size (uv u) 60 := Blk.below (w := wr.drew) G1.out bw2
      have z2 : Rd w.heap.size w2 (some ⟨g, 0, none⟩) (bv t) := Rd.below (w := wr.drew) G2.out (bw2.mono hbel.size)
      have z3 : Blk w2 (w.heap.size + 1) (uv (List.replicate 8 0)) 60 := Blk.below (w := wr.drew) G3.out bw2
      have z4 : Below w.heap.size w w2 := hbel.drew.trans (bw2.mono hbel.size)
      have Z1 := Lib.hid z1
      have Z2 := Lib.hid z2
      have Z3 := Lib.hid z3
      have Z4 := Lib.hid z4
      clear z1 z2 z3 z4 G1 G2 G3 hbel bw2
      go_simp
      refine hK _ _ ?_
      clear hK K
      refine wpAny_ready (rs := [6]) (by kernel_rfl) (by simp) (AllReady.cons rfl (fun K hK => ?_) AllReady.nil)
      rw [if_pos (by rfl)]
      refine wp_store_row 60 (.tmp 2) (.tmp 13) rfl w.heap.size (uv (compL u ((t.drop o).take 64))) rfl rfl 60 (uv u) Z1.out (by rw [uv_size, compL_length, HU8.out]; exact info28) (by rw [uv_size, uv_size, compL_length]) (uv_one _) ?_
      generalize hw9 : World.setRow _ _ _ = w9
      have y1 : Blk w9 w.heap.size (uv (compL u ((t.drop o).take 64))) 60 := by rw [← hw9]; exact setRow_heap _ _ _ _ _ _ Z1.out
      have y2 : Rd w.heap.size w9 (some ⟨g, 0, none⟩) (bv t) := by rw [← hw9]; exact Rd.below Z2.out (below_setRow (Below.refl _ _) (Nat.le_refl _) _)
      have y3 : Blk w9 (w.heap.size + 1) (uv (List.replicate 8 0)) 60 := by rw [← hw9]; unfold Blk; rw [setRow_other _ _ _ _ (by omega)]; exact Z3.out
      have y4 : Below w.heap.size w w9 := by rw [← hw9]; exact below_setRow Z4.out (Nat.le_refl _) _
      have Y1 := Lib.hid y1
      have Y2 := Lib.hid y2
      have Y3 := Lib.hid y3
      have Y4 := Lib.hid y4
      clear y1 y2 y3 y4 Z1 Z2 Z3 Z4 hw9
      refine hK _ _ ?_
      clear hK K
      refine wpAny_done (by kernel_rfl) ?_ _
      by_cases hc : d = 64
      · have hc1 : (d : Int) = 64 := by omega
        have hc2 := hc
        subst hc2
        have hm64 : m = 64 := by omega
        go_wp2
        refine ⟨⟨k + 1, o, 0, 0, rfl, Nat.le_refl _, by omega, by have := HM.out; omega, (by have := HM.out; show 0 + 64 * (k + 1) = n; omega), fun h => by omega, ?_, Y2.out, Y3.out, Y4.out⟩, by show 0 < m; omega⟩
        rw [overTo, ← HUU.out, ← HOO.out]; exact Y1.out
      · have hc1 : ¬ (d : Int) = 64 := by omega
        go_wp2
        refine ⟨⟨k + 1, o + 64, m - 64, d - 64, rfl, by omega, by omega, by have := HM.out; omega, (by have := HM.out; show m - 64 + 64 * (k + 1) = n; omega), (fun _ => by have := HOO.out; omega), ?_, Y2.out, Y3.out, Y4.out⟩, by show m - 64 < m; omega⟩
        rw [overTo, ← HUU.out, ← HOO.out]; exact Y1.out
    · have hk : k = n / 64 := by have := HM.out; omega
      have hi : (Try.prog.info? 60).map (·.size) = some (uv (overTo s t k)).size := by rw [uv_size, overTo_length, HS.out]; exact info28
      have HV : Hid (overL s t = overTo s t k) := by show _ = _; rw [overL, HN.out, hk]
      have Hi := Lib.hid hi
      have G1 := Lib.hid G1
      have G3 := Lib.hid G3
      clear hi hk G2
      go_wp2_with (first
        | (refine wpList_load_row rfl 60 (.tmp 2) rfl w.heap.size rfl 60 (uv (overTo s t k)) (0, 0) _ G1.out Try.underlying60 rfl Hi.out ?_)
        | (refine wpList_store_row rfl 60 (.tmp 4) (.tmp 16) rfl (w.heap.size + 1) (uv (overTo s t k)) rfl rfl 60 (uv (List.replicate 8 0)) G3.out Hi.out (by rw [uv_size, uv_size, overTo_length, HS.out]; rfl) (uv_one _) ?_))
      exact bodyPost_ret (v := .agg (uv (overTo s t k))) (results_cell_row Try.results30 _ _ (w.heap.size + 1) 60 (uv (overTo s t k)) (0, 0) _ rfl (setRow_heap _ _ _ _ _ _ G3.out) Try.underlying60 rfl Hi.out) rfl ⟨by rw [HV.out], below_setRow hbel (by omega) _⟩
end Go.Proofs.Ytobkkbpeoohfkaa
