/-
  Texts of this seat, one behind the other: LoRApp, LoPlP, ConvB, LoAwake, OpenA, LoAct, LoGreat, MiAct, ScBytes, MiGood, ScPair, LoPlS, LoAlike.
-/
import Derived.OrdersHeld
import Derived.Deep.RegionHeld
import Derived.Laws.IdiomStrings
import Derived.Lib.Strings
import Derived.Deep.LoopGhost
import Derived.Lib.SlBytesConst
import Derived.OpenShut
import Derived.ProofKit
import Derived.Test.YtnplhagfmfggcaaLq4
/-
  The document's answer for appending: which slot, and what is known then.
-/
namespace Go.Proofs.Ytnplhagfmfggcaa.Lo
open Go.RowKit Kd Mi
attribute [local go_sem ↓] Go.wp_at_zero Go.wp_at_succ
theorem own_getU {q n c base i : Nat} {e : TypeId} {w : World} {xs : List Value} {v : Value} (ho : w.ownsRow base e 1 (.slice (some ⟨q, 0, none⟩) n c) n xs) (hv : xs[i]? = some v) : w.cell? ⟨q, i, none⟩ = some v := by
  obtain ⟨ad, e1, _, h⟩ := Rd.own ho i v hv
  injection e1 with e1
  rw [← e1, Addr.add_mid, Nat.zero_add] at h
  exact h
theorem own_freeU {q n c base : Nat} {e : TypeId} {w : World} {xs : List Value} (ho : w.ownsRow base e 1 (.slice (some ⟨q, 0, none⟩) n c) n xs) (k : Nat) : w.frozen? ⟨q, k, none⟩ = false := by
  rcases ho.2 with ⟨h0, _⟩ | ⟨g, cap, cur, h0, _, h2, _⟩
  · cases h0
  · injection h0 with h0 _ _
    injection h0 with h0
    injection h0 with h0
    subst h0
    simp [World.frozen?, h2]
/-- What Append makes of a log, and the sector (-1: there is no room). -/
def apL (l : Lg) : Lg × Int := match l.next with | some t => (l.put t, (l.at_ t : Int)) | none => (l, -1)
def RetRA (l : Lg) (w : World) (e : Ending) (w' : World) : Prop :=
  ∃ A c, e = .returned (.tuple #[.agg (rlC (apL l).1 A (apL l).1.gens.length c), .int .i64 (apL l).2]) ∧ w'.ownsRow w.heap.size 77 1 (.slice A (apL l).1.gens.length c) (apL l).1.gens.length (gv (apL l).1.gens) ∧ Below w.heap.size w w'
theorem tup_eq {a b c d : Value} (h1 : a = b) (h2 : c = d) : Value.tuple #[a, c] = Value.tuple #[b, d] := by rw [h1, h2]
set_option maxRecDepth 100000 in
set_option maxHeartbeats 6400000 in
theorem rappend_any (l : Lg) (A : Option Addr) (n c : Nat) (hn : l.gens.length = n) (hs : n ≤ 1000) (hz : l.size ≤ 1000) (hla : l.last < 1000000) (hf : l.Fine) (w : World) (hr : Rd w.heap.size w A (gv l.gens)) :
    Calls Try.prog 39 #[.agg (rlC l A n c)] w (RetRA l w) := by
  have HCP := Lib.hid (fun W (hR : Rd W.heap.size W A (gv l.gens)) => rcopy_any l A n c hn hs W hR)
  have HN := Lib.hid hn
  have HS := Lib.hid hs
  have HZ := Lib.hid hz
  have HLA := Lib.hid hla
  have HF := Lib.hid hf
  have hzr : ∀ W, (zeroValue 79).run Try.prog W = .ok (.agg #[.int .i64 0, .int .i64 0, .int .i64 0, .slice none 0 0, .int .u64 0]) W := fun _ => by kernel_rfl
  obtain ⟨w1, hw1⟩ : ∃ W, W = (w.alloc (.cells (rlC l A n c) 79)).alloc (.cells #[.int .i64 0, .int .i64 0, .int .i64 0, .slice none 0 0, .int .u64 0] 79) := ⟨_, rfl⟩
  have X1 := Lib.hid (show Blk w1 w.heap.size (rlC l A n c) 79 by rw [hw1]; exact heap_alloc2_old _ _ _)
  have Z1 := Lib.hid (show Blk w1 (w.heap.size + 1) #[.int .i64 0, .int .i64 0, .int .i64 0, .slice none 0 0, .int .u64 0] 79 by rw [hw1]; exact heap_alloc2_new _ _ _)
  have B1 := Lib.hid (show Below w.heap.size w w1 by rw [hw1]; exact ((Below.refl _ _).alloc (Nat.le_refl _) _).alloc (by simp) _)
  have S1 := Lib.hid (show w1.heap.size = w.heap.size + 1 + 1 by rw [hw1]; simp)
  have R1 := Lib.hid ((hr.below B1.out).more B1.out.size)
  unfold rlC at HCP X1 hw1
  unfold rlC
  clear hr hn hs hz hla hf
  go_enter Try.func39, Try.ntmps39
  go_wp2_with fail
  rw [← hw1]
  clear hw1
  refine (HCP.out w1 R1.out).mono ?_
  rintro e w2 ⟨A3, c3, rfl, ho, bw⟩
  rw [HN.out] at ho
  rw [HN.out]
  unfold rlC
  have O1 := Lib.hid (show w2.ownsRow (w.heap.size + 1 + 1) 77 1 (.slice A3 n c3) n (gv l.gens) from S1.out ▸ ho)
  have XA := Lib.hid (X1.out.below bw)
  have ZA := Lib.hid (Z1.out.below bw)
  have BA := Lib.hid (B1.out.trans (bw.mono B1.out.size))
  clear ho bw X1 Z1 B1 HCP R1 S1
  go_wp2_with (show wpList _ _ _ ({ dst := none, op := .store 79 (.tmp 1) (.tmp 6), type := _, pos := _, after := _, guard := _ } :: _) _ _; apply Classical.byContradiction; intro hneg)
  refine hneg ?_
  clear hneg
  refine wpList_store_row rfl 79 (.tmp 1) (.tmp 6) rfl w.heap.size #[.int .i64 (l.size : Int), .int .i64 l.headI, .int .i64 l.slotI, .slice A3 n c3, .int .u64 (l.last : Int)] rfl rfl 79 _ XA.out rfl rfl (by simp [Value.oneCell']) ?_
  obtain ⟨w3, hw3⟩ : ∃ W, W = w2.setRow w.heap.size #[.int .i64 (l.size : Int), .int .i64 l.headI, .int .i64 l.slotI, .slice A3 n c3, .int .u64 (l.last : Int)] := ⟨_, rfl⟩
  have hbut : But (fun k => k = w.heap.size) w2 w3 := by rw [hw3]; exact But.setRow (S := fun k => k = w.heap.size) (But.refl _) (Or.inl rfl) _
  have X3 := Lib.hid (show Blk w3 w.heap.size #[.int .i64 (l.size : Int), .int .i64 l.headI, .int .i64 l.slotI, .slice A3 n c3, .int .u64 (l.last : Int)] 79 by rw [hw3]; exact setRow_heap _ _ _ _ _ _ XA.out)
  have Z3 := Lib.hid (ZA.out.but hbut (by omega))
  have O3 := Lib.hid (Own.but O1.out hbut (fun k hk e => by have := (O1.out.lt k hk).1; omega))
  have B3 := Lib.hid (show Below w.heap.size w w3 from BA.out.trans (hbut.below (fun k hk e => by omega) BA.out.size))
  rw [← hw3]
  clear hw3 hbut XA ZA O1 BA
  have CTR := Lib.hid (show ∀ hd sl : Nat, hd ≤ 1000 → sl ≤ 1000 → ∃ M s1 P2 P3 P4 : Nat, (s1 = sl + 1 ∧ P4 = 2 + hd * l.size + sl) ∧ IntKind.i64.wrap ((hd : Int) * (l.size : Int)) = (M : Int) ∧ IntKind.i64.wrap (2 + (M : Int)) = (P2 : Int) ∧
      IntKind.i64.wrap ((P2 : Int) + (s1 : Int)) = (P3 : Int) ∧ IntKind.i64.wrap ((P3 : Int) - 1) = (P4 : Int) ∧ IntKind.i64.wrap ((sl : Int) + 1) = (s1 : Int) from fun hd sl h1 h2 => by
    have hM : hd * l.size ≤ 1000 * 1000 := Nat.mul_le_mul h1 HZ.out
    refine ⟨hd * l.size, sl + 1, 2 + hd * l.size, 3 + hd * l.size + sl, 2 + hd * l.size + sl, ⟨rfl, rfl⟩, ?_, IntWalk.i64_in _ (by omega), ?_, ?_, IntWalk.i64_in _ (by omega)⟩
    · rw [← Int.natCast_mul]; exact IntWalk.i64_in _ (by omega)
    · rw [IntWalk.i64_in _ (by omega)]; omega
    · rw [IntWalk.i64_in _ (by omega)]; omega)
  by_cases hx : ∃ s j, l.h = some (s, j) ∧ j < l.size
  · obtain ⟨hd, sl, hh, hj⟩ := hx
    obtain ⟨k1, k2, k3, k4⟩ := HF.out.head hd sl hh
    have hI : l.headI = (hd : Int) := by rw [Lg.headI, hh]
    have hJ : l.slotI = (sl : Int) := by rw [Lg.slotI, hh]
    have hnx : l.next = some (hd, sl, l.gens.getD hd 0) := by rw [Lg.next, hh]; exact if_pos hj
    have hset : l.gens.set hd (l.gens.getD hd 0) = l.gens := by
      apply List.ext_getElem
      · simp
      · intro i h1 h2
        rw [List.getElem_set]
        split
        · rename_i e; subst e; rw [List.getD_eq_getElem?_getD, List.getElem?_eq_getElem h2]; rfl
        · rfl
    have hmax : max l.last (l.gens.getD hd 0) = l.last := by
      have h := HF.out.le (l.gens.getD hd 0) (by rw [List.getD_eq_getElem?_getD, List.getElem?_eq_getElem k1]; exact List.getElem_mem _)
      omega
    obtain ⟨M, s1, P2, P3, P4, hP, m1, m2, m3, m4, m5⟩ := CTR.out hd sl (by have := HN.out; have := HS.out; omega) (by have := HZ.out; omega)
    have HP := Lib.hid hP
    have M1 := Lib.hid m1
    have M2 := Lib.hid m2
    have M3 := Lib.hid m3
    have M4 := Lib.hid m4
    obtain ⟨la, hla⟩ : ∃ la, la = l.last := ⟨_, rfl⟩
    have HPUT := Lib.hid (show (apL l).1 = ⟨l.size, l.gens, la, some (hd, s1)⟩ ∧ (apL l).2 = (P4 : Int) by
      rw [apL, hnx]
      refine ⟨?_, by rw [hP.2]; rfl⟩
      show Lg.put _ _ = _
      rw [Lg.put]
      simp only
      rw [hset, hmax, hla, hP.1])
    have HGN := Lib.hid HN.out
    rw [← hla, hI, hJ] at X3
    rw [← hla, hI, hJ]
    clear hnx hset hmax k1 k2 k3 k4 hh hP m1 m2 m3 m4 hla hI hJ
    have n1 : ¬ (hd : Int) < 0 := by omega
    have n2 : ¬ (l.size : Int) ≤ (sl : Int) := by omega
    have c0 := X3.out.cell 0
    have c1 := X3.out.cell 1
    have c2 := X3.out.cell 2
    have y2 := X3.out.free 2
    clear hj
    go_wp2_with fail
    obtain ⟨wt2, hwt⟩ : ∃ W, W = w3.setCell ⟨w.heap.size, 2, none⟩ (.int .i64 (s1 : Int)) := ⟨_, rfl⟩
    have hb : But (fun k => k = w.heap.size) w3 wt2 := by rw [hwt]; exact But.setCell (S := fun k => k = w.heap.size) (But.refl _) (Or.inl rfl) _
    have X2 := Lib.hid (show Blk wt2 w.heap.size #[.int .i64 (l.size : Int), .int .i64 (hd : Int), .int .i64 (s1 : Int), .slice A3 n c3, .int .u64 (la : Int)] 79 by rw [hwt]; exact heap_setCell_same _ _ _ _ _ _ X3.out)
    have Z2 := Lib.hid (Z3.out.but hb (by omega))
    have O2 := Lib.hid (Own.but O3.out hb (fun k hk e => by have := (O3.out.lt k hk).1; omega))
    have B2 := Lib.hid (show Below w.heap.size w wt2 from B3.out.trans (hb.below (fun k hk e => by omega) B3.out.size))
    rw [← hwt]
    clear hb hwt X3 Z3 O3 B3 c0 c1 c2 y2 m5
    refine wp_region_held_drew (S := fun w' => Blk w' w.heap.size #[.int .i64 (l.size : Int), .int .i64 (hd : Int), .int .i64 (s1 : Int), .slice A3 n c3, .int .u64 (la : Int)] 79) (by kernel_rfl) (show Blk (World.drew _) _ _ _ from X2.out) (fun hh => ?_)
    have HH := Lib.hid hh
    clear hh
    try simp only [List.getElem_toArray, List.getElem_cons_succ, List.getElem_cons_zero, Act.put, List.setIfInBounds_toArray, List.set_cons_zero, List.set_cons_succ]
    refine wpAnyH_take (i := 0) (v := .agg #[.int .i64 (l.size : Int), .int .i64 (hd : Int), .int .i64 (s1 : Int), .slice A3 n c3, .int .u64 (la : Int)]) rfl (by kernel_rfl) (by kernel_rfl) (by kernel_rfl) (fun _ _ _ h => h) (Or.inl ⟨by rfl, fun w' hw' => ?y1⟩) HH.out ?_
    case y1 => exact exec_load 79 (.tmp 1) rfl rfl hw' Try.underlying79 rfl rfl
    try simp only [List.getElem_toArray, List.getElem_cons_zero, Act.put, List.setIfInBounds_toArray, List.set_cons_zero, List.set_cons_succ]
    refine wpAnyH_take (i := 1) (v := ?v2) rfl (by kernel_rfl) (by kernel_rfl) (by kernel_rfl) (fun _ _ _ h => h) (Or.inl ⟨by rfl, fun w' hw' => ?y2⟩) HH.out ?_
    case y2 => (go_simp; try with_reducible rfl)
    try simp only [List.getElem_toArray, List.getElem_cons_succ, List.getElem_cons_zero, Act.put, List.setIfInBounds_toArray, List.set_cons_zero, List.set_cons_succ]
    refine wpAnyH_take (i := 2) (v := .int .i64 (hd : Int)) rfl (by kernel_rfl) (by kernel_rfl) (by kernel_rfl) (fun _ _ _ h => h) (Or.inl ⟨by rfl, fun w' hw' => ?y3⟩) HH.out ?_
    case y3 => (have c0 := hw'.cell 1; go_simp; try with_reducible rfl)
    try simp only [List.getElem_toArray, List.getElem_cons_succ, List.getElem_cons_zero, Act.put, List.setIfInBounds_toArray, List.set_cons_zero, List.set_cons_succ]
    refine wpAnyH_take (i := 3) (v := ?v4) rfl (by kernel_rfl) (by kernel_rfl) (by kernel_rfl) (fun _ _ _ h => h) (Or.inl ⟨by rfl, fun w' hw' => ?y4⟩) HH.out ?_
    case y4 => (go_simp; try with_reducible rfl)
    try simp only [List.getElem_toArray, List.getElem_cons_succ, List.getElem_cons_zero, Act.put, List.setIfInBounds_toArray, List.set_cons_zero, List.set_cons_succ]
    refine wpAnyH_take (i := 4) (v := .int .i64 (l.size : Int)) rfl (by kernel_rfl) (by kernel_rfl) (by kernel_rfl) (fun _ _ _ h => h) (Or.inl ⟨by rfl, fun w' hw' => ?y5⟩) HH.out ?_
    case y5 => (have c0 := hw'.cell 0; go_simp; try with_reducible rfl)
    try simp only [List.getElem_toArray, List.getElem_cons_succ, List.getElem_cons_zero, Act.put, List.setIfInBounds_toArray, List.set_cons_zero, List.set_cons_succ]
    refine wpAnyH_take (i := 5) (v := .int .i64 (M : Int)) rfl (by kernel_rfl) (by kernel_rfl) (by kernel_rfl) (fun _ _ _ h => h) (Or.inl ⟨by rfl, fun w' hw' => ?y6⟩) HH.out ?_
    case y6 => (have m := M1.out; go_simp; try with_reducible rfl)
    try simp only [List.getElem_toArray, List.getElem_cons_succ, List.getElem_cons_zero, Act.put, List.setIfInBounds_toArray, List.set_cons_zero, List.set_cons_succ]
    refine wpAnyH_take (i := 6) (v := .int .i64 (P2 : Int)) rfl (by kernel_rfl) (by kernel_rfl) (by kernel_rfl) (fun _ _ _ h => h) (Or.inl ⟨by rfl, fun w' hw' => ?y7⟩) HH.out ?_
    case y7 => (have m := M2.out; go_simp; try with_reducible rfl)
    try simp only [List.getElem_toArray, List.getElem_cons_succ, List.getElem_cons_zero, Act.put, List.setIfInBounds_toArray, List.set_cons_zero, List.set_cons_succ]
    refine wpAnyH_take (i := 7) (v := ?v8) rfl (by kernel_rfl) (by kernel_rfl) (by kernel_rfl) (fun _ _ _ h => h) (Or.inl ⟨by rfl, fun w' hw' => ?y8⟩) HH.out ?_
    case y8 => (go_simp; try with_reducible rfl)
    try simp only [List.getElem_toArray, List.getElem_cons_succ, List.getElem_cons_zero, Act.put, List.setIfInBounds_toArray, List.set_cons_zero, List.set_cons_succ]
    refine wpAnyH_take (i := 8) (v := .int .i64 (s1 : Int)) rfl (by kernel_rfl) (by kernel_rfl) (by kernel_rfl) (fun _ _ _ h => h) (Or.inl ⟨by rfl, fun w' hw' => ?y9⟩) HH.out ?_
    case y9 => (have c0 := hw'.cell 2; go_simp; try with_reducible rfl)
    try simp only [List.getElem_toArray, List.getElem_cons_succ, List.getElem_cons_zero, Act.put, List.setIfInBounds_toArray, List.set_cons_zero, List.set_cons_succ]
    refine wpAnyH_take (i := 9) (v := .int .i64 (P3 : Int)) rfl (by kernel_rfl) (by kernel_rfl) (by kernel_rfl) (fun _ _ _ h => h) (Or.inl ⟨by rfl, fun w' hw' => ?y10⟩) HH.out ?_
    case y10 => (have m := M3.out; go_simp; try with_reducible rfl)
    try simp only [List.getElem_toArray, List.getElem_cons_succ, List.getElem_cons_zero, Act.put, List.setIfInBounds_toArray, List.set_cons_zero, List.set_cons_succ]
    refine wpAnyH_take (i := 10) (v := .int .i64 (P4 : Int)) rfl (by kernel_rfl) (by kernel_rfl) (by kernel_rfl) (fun _ _ _ h => h) (Or.inl ⟨by rfl, fun w' hw' => ?y11⟩) HH.out ?_
    case y11 => (have m := M4.out; go_simp; try with_reducible rfl)
    try simp only [List.getElem_toArray, List.getElem_cons_succ, List.getElem_cons_zero, Act.put, List.setIfInBounds_toArray, List.set_cons_zero, List.set_cons_succ]
    refine wpAnyH_ready (rs := [11]) (by kernel_rfl) (by simp) (AllReadyH.cons rfl (fun K hK => ?_) AllReadyH.nil)
    rw [if_pos (by rfl)]
    refine wp_store_row 79 (.tmp 2) (.tmp 39) rfl (w.heap.size + 1) #[.int .i64 (l.size : Int), .int .i64 (hd : Int), .int .i64 (s1 : Int), .slice A3 n c3, .int .u64 (la : Int)] rfl rfl 79 _ (show Blk (World.drew _) _ _ _ from Z2.out) rfl rfl (by simp [Value.oneCell']) ?_
    obtain ⟨w8, hw8⟩ : ∃ W, W = (World.drew wt2).setRow (w.heap.size + 1) #[.int .i64 (l.size : Int), .int .i64 (hd : Int), .int .i64 (s1 : Int), .slice A3 n c3, .int .u64 (la : Int)] := ⟨_, rfl⟩
    have hb8 : But (fun k => k = w.heap.size + 1) wt2.drew w8 := by rw [hw8]; exact But.setRow (S := fun k => k = w.heap.size + 1) (But.refl _) (Or.inl rfl) _
    have Z8 := Lib.hid (show Blk w8 (w.heap.size + 1) #[.int .i64 (l.size : Int), .int .i64 (hd : Int), .int .i64 (s1 : Int), .slice A3 n c3, .int .u64 (la : Int)] 79 by rw [hw8]; exact setRow_heap _ _ _ _ _ _ (show Blk (World.drew _) _ _ _ from Z2.out))
    have X8 := Lib.hid (show Blk w8 w.heap.size #[.int .i64 (l.size : Int), .int .i64 (hd : Int), .int .i64 (s1 : Int), .slice A3 n c3, .int .u64 (la : Int)] 79 from (show Blk (World.drew _) _ _ _ from X2.out).but hb8 (by omega))
    have O8 := Lib.hid (Own.but (show (World.drew wt2).ownsRow _ _ _ _ _ _ from O2.out) hb8 (fun k hk e => by have := (O2.out.lt k hk).1; omega))
    have B8 := Lib.hid (show Below w.heap.size w w8 from B2.out.drew.trans (hb8.below (fun k hk e => by omega) (by have := B2.out.size; exact this)))
    rw [← hw8]
    clear hb8 hw8
    refine hK.out _ _ X8.out (fun hh => ?_)
    have HH' := Lib.hid hh
    clear hh hK K HH
    have HH := Lib.hid HH'.out
    clear HH'
    try simp only [List.getElem_toArray, List.getElem_cons_succ, List.getElem_cons_zero, Act.put]
    refine wpAnyH_take (i := 12) (v := ?v12) rfl (by kernel_rfl) (by kernel_rfl) (by kernel_rfl) (fun _ _ _ h => h) (Or.inl ⟨by rfl, fun w' hw' => ?y12⟩) HH.out ?_
    case y12 => (go_simp; try with_reducible rfl)
    try simp only [List.getElem_toArray, List.getElem_cons_succ, List.getElem_cons_zero, Act.put, List.setIfInBounds_toArray, List.set_cons_zero, List.set_cons_succ]
    refine wpAnyH_done (by kernel_rfl) ?_ _
    clear HH
    go_wp2_with fail
    refine bodyPost_ret (v := .tuple #[.agg #[.int .i64 (l.size : Int), .int .i64 (hd : Int), .int .i64 (s1 : Int), .slice A3 n c3, .int .u64 (la : Int)], .int .i64 (P4 : Int)]) (Kd.results_ct8 Try.results39 _ _ (w.heap.size + 1) 79 #[.int .i64 (l.size : Int), .int .i64 (hd : Int), .int .i64 (s1 : Int), .slice A3 n c3, .int .u64 (la : Int)] _ rfl Z8.out Try.underlying79 rfl rfl) rfl ?_
    unfold RetRA
    rw [HPUT.out.1, HPUT.out.2]
    refine ⟨A3, c3, ?_, ?_, B8.out⟩
    · show _ = Ending.returned (.tuple #[.agg (rlC ⟨l.size, l.gens, la, some (hd, s1)⟩ A3 (l.gens).length c3), _])
      rw [HGN.out]; rfl
    · show w8.ownsRow _ _ _ (.slice A3 (l.gens).length c3) (l.gens).length (gv (l.gens))
      rw [HGN.out]; exact own_more O8.out (by omega)
  · have hcond : (l.headI < 0) ∨ (0 ≤ l.headI ∧ (l.size : Int) ≤ l.slotI) := by
      rw [Lg.headI, Lg.slotI]
      cases hh : l.h with
      | none => exact .inl (by show (-1 : Int) < 0; omega)
      | some p =>
        obtain ⟨s, j⟩ := p
        refine .inr ⟨by show (0 : Int) ≤ (s : Int); omega, ?_⟩
        show (l.size : Int) ≤ (j : Int)
        have : ¬ j < l.size := fun h => hx ⟨s, j, hh, h⟩
        omega
    have hnx : l.next = (freeK l.gens).map fun k => (k, 0, l.last + 1) := by
      rw [Lg.next]
      cases hh : l.h with
      | none => rfl
      | some p =>
        obtain ⟨s, j⟩ := p
        exact if_neg (fun h => hx ⟨s, j, hh, h⟩)
    have HNX := Lib.hid hnx
    obtain ⟨I, hI⟩ : ∃ I, I = l.headI := ⟨_, rfl⟩
    obtain ⟨J, hJ⟩ : ∃ J, J = l.slotI := ⟨_, rfl⟩
    rw [← hI, ← hJ] at hcond X3
    rw [← hI, ← hJ]
    have HRF := Lib.hid (fun W (hR : Rd W.heap.size W A3 (gv l.gens)) => rfree_any l A3 n c3 HN.out HS.out W hR)
    unfold rlC at HRF
    rw [← hI, ← hJ] at HRF
    have HIJ := Lib.hid (And.intro hI hJ)
    obtain ⟨fk, hfk⟩ : ∃ z, z = freeI l.gens := ⟨_, rfl⟩
    have HFK := Lib.hid hfk
    rw [← hfk] at HRF
    clear hnx hI hJ hx hfk
    have c0 := X3.out.cell 0
    have c1 := X3.out.cell 1
    have c2 := X3.out.cell 2
    have c3' := X3.out.cell 3
    have c4 := X3.out.cell 4
    have R3 := Lib.hid (Rd.own O3.out)
    rcases hcond with hc | ⟨hc, hc2⟩
    · skip
      go_wp2_with fail
      refine (HRF.out w3 R3.out).mono ?_
      rintro e w4 ⟨rfl, bw⟩
      have X4 := Lib.hid (X3.out.below bw)
      have Z4 := Lib.hid (Z3.out.below bw)
      have O4 := Lib.hid (own_below O3.out bw)
      have B4 := Lib.hid (B3.out.trans (bw.mono B3.out.size))
      clear bw X3 Z3 O3 B3 R3 HRF c0 c1 c2 c3' c4
      cases hk : freeK l.gens with
      | none =>
        have HA := Lib.hid (show (apL l) = (l, -1) by rw [apL, HNX.out, hk]; rfl)
        have hf1 : fk = -1 := by rw [HFK.out, freeI, hk]
        subst hf1
        clear hk
        go_wp2_with first | (refine wpList_load_row rfl 79 (.tmp 1) rfl w.heap.size rfl 79 #[.int .i64 (l.size : Int), .int .i64 I, .int .i64 J, .slice A3 n c3, .int .u64 (l.last : Int)] (0, 0) _ X4.out Try.underlying79 rfl rfl ?_) | (refine wpList_store_row rfl 79 (.tmp 2) (.tmp 21) rfl (w.heap.size + 1) #[.int .i64 (l.size : Int), .int .i64 I, .int .i64 J, .slice A3 n c3, .int .u64 (l.last : Int)] rfl rfl 79 _ Z4.out rfl rfl (by simp [Value.oneCell']) ?_)
        refine bodyPost_ret (v := .tuple #[.agg #[.int .i64 (l.size : Int), .int .i64 I, .int .i64 J, .slice A3 n c3, .int .u64 (l.last : Int)], .int .i64 (-1)]) (Kd.results_ct8 Try.results39 _ _ (w.heap.size + 1) 79 #[.int .i64 (l.size : Int), .int .i64 I, .int .i64 J, .slice A3 n c3, .int .u64 (l.last : Int)] _ rfl (setRow_heap _ _ _ _ _ _ Z4.out) Try.underlying79 rfl rfl) rfl ?_
        unfold RetRA
        rw [HA.out]
        refine ⟨A3, c3, ?_, ?_, below_setRow B4.out (by omega) _⟩
        · show _ = Ending.returned (.tuple #[.agg (rlC l A3 l.gens.length c3), .int .i64 (-1)])
          rw [HN.out, HIJ.out.1, HIJ.out.2]; rfl
        · show World.ownsRow _ _ _ _ (.slice A3 l.gens.length c3) l.gens.length (gv l.gens)
          rw [HN.out]
          exact own_more (Own.but O4.out ((But.refl _).setRow (S := fun k => k = w.heap.size + 1) (.inl rfl) _) (fun k hk e => by have := (O4.out.lt k hk).1; omega)) (by omega)
      | some hd =>
        obtain ⟨k1, k2⟩ := freeK_lt hk
        have hf1 : fk = (hd : Int) := by rw [HFK.out, freeI, hk]
        subst hf1
        obtain ⟨M, s1, P2, P3, P4, hP, m1, m2, m3, m4, m5⟩ := CTR.out hd 0 (by have := HN.out; have := HS.out; omega) (by omega)
        have hs1 : s1 = 1 := hP.1
        subst hs1
        have M1 := Lib.hid m1
        have M2 := Lib.hid m2
        have M3 := Lib.hid (show IntKind.i64.wrap ((P2 : Int) + 1) = (P3 : Int) from m3)
        have M4 := Lib.hid m4
        obtain ⟨la, hla⟩ : ∃ la, la = l.last + 1 := ⟨_, rfl⟩
        have lw : IntKind.u64.wrap ((l.last : Int) + 1) = (la : Int) := by rw [IntWalk.u64_in _ (by have := HLA.out; omega), hla]; push_cast; rfl
        have HPUT := Lib.hid (show (apL l).1 = ⟨l.size, l.gens.set hd la, la, some (hd, 1)⟩ ∧ (apL l).2 = (P4 : Int) by
          rw [apL, HNX.out, hk]
          refine ⟨?_, by rw [hP.2]; rfl⟩
          show Lg.put _ _ = _
          rw [Lg.put]
          simp only
          rw [hla, show max l.last (l.last + 1) = l.last + 1 by omega])
        have HGN := Lib.hid (show (l.gens.set hd la).length = n by rw [List.length_set]; exact HN.out)
        have h0 : (0 : Int) ≤ (hd : Int) := by omega
        have h1 : (hd : Int) < (n : Int) := by have := HN.out; omega
        obtain ⟨qb, rfl⟩ : ∃ qb, A3 = some ⟨qb, 0, none⟩ := by
          rcases O4.out.2 with ⟨h, h'⟩ | ⟨g', cap, cur, h, _⟩
          · injection h with e1 e2 e3; exfalso; omega
          · injection h with h _ _; exact ⟨g', h⟩
        clear hk hP m1 m2 m3 m4 hla k2
        have HQ := Lib.hid (show w.heap.size + 1 + 1 ≤ qb ∧ qb < w4.heap.size from O4.out.lt qb rfl)
        have HLN := Lib.hid (show hd < n by omega)
        have cq : w4.cell? ⟨qb, hd, none⟩ = some (.int .u64 ((l.gens.getD hd 0 : Nat) : Int)) := own_getU O4.out (gv_get (by rw [HN.out]; exact HLN.out))
        have fq : w4.frozen? ⟨qb, hd, none⟩ = false := own_freeU O4.out hd
        have hne : ¬ (qb = w.heap.size) := by have := HQ.out; omega
        have hne2 : ¬ (w.heap.size = qb) := by have := HQ.out; omega
        have c0 := X4.out.cell 0
        have c1 := X4.out.cell 1
        have c2 := X4.out.cell 2
        have c3' := X4.out.cell 3
        have c4 := X4.out.cell 4
        have y1 := X4.out.free 1
        have y2 := X4.out.free 2
        have y4 := X4.out.free 4
        go_wp2_with fail
        clear c0 c1 c2 c3' c4 y1 y2 y4 cq fq
        obtain ⟨v0, hv0⟩ : ∃ W, W = w4.setCell ⟨w.heap.size, 4, none⟩ (.int .u64 (la : Int)) := ⟨_, rfl⟩
        have hb : But (fun k => k = w.heap.size) w4 v0 := by rw [hv0]; exact But.setCell (S := fun k => k = w.heap.size) (But.refl _) (Or.inl rfl) _
        have XV0 := Lib.hid (show Blk v0 w.heap.size #[.int .i64 (l.size : Int), .int .i64 I, .int .i64 J, .slice (some ⟨qb, 0, none⟩) n c3, .int .u64 (la : Int)] 79 by rw [hv0]; exact heap_setCell_same _ _ _ _ _ _ X4.out)
        have OV0 := Lib.hid (Own.but O4.out hb (fun k hk e => by have := (O4.out.lt k hk).1; omega))
        have ZV0 := Lib.hid (Z4.out.but hb (by omega))
        have BV0 := Lib.hid (show Below w.heap.size w v0 from B4.out.trans (hb.below (fun k hk e => by omega) B4.out.size))
        rw [← hv0]
        clear hb hv0 X4 Z4 O4 B4
        obtain ⟨v1, hv1⟩ : ∃ W, W = v0.setCell ⟨qb, hd, none⟩ (.int .u64 (la : Int)) := ⟨_, rfl⟩
        have hb : But (fun k => k = qb) v0 v1 := by rw [hv1]; exact But.setCell (S := fun k => k = qb) (But.refl _) (Or.inl rfl) _
        have OV1 := Lib.hid (show v1.ownsRow (w.heap.size + 1 + 1) 77 1 (.slice (some ⟨qb, 0, none⟩) n c3) n (gv (l.gens.set hd la)) by rw [hv1, ← gv_set]; exact own_cell1 OV0.out)
        have XV1 := Lib.hid (XV0.out.but hb (by have := HQ.out; omega))
        have ZV1 := Lib.hid (ZV0.out.but hb (by have := HQ.out; omega))
        have BV1 := Lib.hid (show Below w.heap.size w v1 from BV0.out.trans (hb.below (fun k hk e => by have := HQ.out; omega) BV0.out.size))
        rw [← hv1]
        clear hb hv1 XV0 ZV0 OV0 BV0
        obtain ⟨v2, hv2⟩ : ∃ W, W = v1.setCell ⟨w.heap.size, 1, none⟩ (.int .i64 (hd : Int)) := ⟨_, rfl⟩
        have hb : But (fun k => k = w.heap.size) v1 v2 := by rw [hv2]; exact But.setCell (S := fun k => k = w.heap.size) (But.refl _) (Or.inl rfl) _
        have XV2 := Lib.hid (show Blk v2 w.heap.size #[.int .i64 (l.size : Int), .int .i64 (hd : Int), .int .i64 J, .slice (some ⟨qb, 0, none⟩) n c3, .int .u64 (la : Int)] 79 by rw [hv2]; exact heap_setCell_same _ _ _ _ _ _ XV1.out)
        have OV2 := Lib.hid (Own.but OV1.out hb (fun k hk e => by have := (OV1.out.lt k hk).1; omega))
        have ZV2 := Lib.hid (ZV1.out.but hb (by omega))
        have BV2 := Lib.hid (show Below w.heap.size w v2 from BV1.out.trans (hb.below (fun k hk e => by omega) BV1.out.size))
        rw [← hv2]
        clear hb hv2 XV1 ZV1 OV1 BV1
        obtain ⟨v3, hv3⟩ : ∃ W, W = v2.setCell ⟨w.heap.size, 2, none⟩ (.int .i64 0) := ⟨_, rfl⟩
        have hb : But (fun k => k = w.heap.size) v2 v3 := by rw [hv3]; exact But.setCell (S := fun k => k = w.heap.size) (But.refl _) (Or.inl rfl) _
        have XV3 := Lib.hid (show Blk v3 w.heap.size #[.int .i64 (l.size : Int), .int .i64 (hd : Int), .int .i64 0, .slice (some ⟨qb, 0, none⟩) n c3, .int .u64 (la : Int)] 79 by rw [hv3]; exact heap_setCell_same _ _ _ _ _ _ XV2.out)
        have OV3 := Lib.hid (Own.but OV2.out hb (fun k hk e => by have := (OV2.out.lt k hk).1; omega))
        have ZV3 := Lib.hid (ZV2.out.but hb (by omega))
        have BV3 := Lib.hid (show Below w.heap.size w v3 from BV2.out.trans (hb.below (fun k hk e => by omega) BV2.out.size))
        rw [← hv3]
        clear hb hv3 XV2 ZV2 OV2 BV2
        obtain ⟨v4, hv4⟩ : ∃ W, W = v3.setCell ⟨w.heap.size, 2, none⟩ (.int .i64 1) := ⟨_, rfl⟩
        have hb : But (fun k => k = w.heap.size) v3 v4 := by rw [hv4]; exact But.setCell (S := fun k => k = w.heap.size) (But.refl _) (Or.inl rfl) _
        have XV4 := Lib.hid (show Blk v4 w.heap.size #[.int .i64 (l.size : Int), .int .i64 (hd : Int), .int .i64 1, .slice (some ⟨qb, 0, none⟩) n c3, .int .u64 (la : Int)] 79 by rw [hv4]; exact heap_setCell_same _ _ _ _ _ _ XV3.out)
        have OV4 := Lib.hid (Own.but OV3.out hb (fun k hk e => by have := (OV3.out.lt k hk).1; omega))
        have ZV4 := Lib.hid (ZV3.out.but hb (by omega))
        have BV4 := Lib.hid (show Below w.heap.size w v4 from BV3.out.trans (hb.below (fun k hk e => by omega) BV3.out.size))
        rw [← hv4]
        clear hb hv4 XV3 ZV3 OV3 BV3
        obtain ⟨wt2, hwt⟩ : ∃ W, W = v4 := ⟨_, rfl⟩
        rw [← hwt] at XV4 ZV4 OV4 BV4
        rw [← hwt]
        clear hwt
        have X2 := XV4
        have Z2 := ZV4
        have O2 := OV4
        have B2 := BV4
        refine wp_region_held_drew (S := fun w' => Blk w' w.heap.size #[.int .i64 (l.size : Int), .int .i64 (hd : Int), .int .i64 1, .slice (some ⟨qb, 0, none⟩) n c3, .int .u64 (la : Int)] 79) (by kernel_rfl) (show Blk (World.drew _) _ _ _ from X2.out) (fun hh => ?_)
        have HH := Lib.hid hh
        clear hh
        try simp only [List.getElem_toArray, List.getElem_cons_succ, List.getElem_cons_zero, Act.put, List.setIfInBounds_toArray, List.set_cons_zero, List.set_cons_succ]
        refine wpAnyH_take (i := 0) (v := .agg #[.int .i64 (l.size : Int), .int .i64 (hd : Int), .int .i64 1, .slice (some ⟨qb, 0, none⟩) n c3, .int .u64 (la : Int)]) rfl (by kernel_rfl) (by kernel_rfl) (by kernel_rfl) (fun _ _ _ h => h) (Or.inl ⟨by rfl, fun w' hw' => ?y13⟩) HH.out ?_
        case y13 => exact exec_load 79 (.tmp 1) rfl rfl hw' Try.underlying79 rfl rfl
        try simp only [List.getElem_toArray, List.getElem_cons_zero, Act.put, List.setIfInBounds_toArray, List.set_cons_zero, List.set_cons_succ]
        refine wpAnyH_take (i := 1) (v := ?v14) rfl (by kernel_rfl) (by kernel_rfl) (by kernel_rfl) (fun _ _ _ h => h) (Or.inl ⟨by rfl, fun w' hw' => ?y14⟩) HH.out ?_
        case y14 => (go_simp; try with_reducible rfl)
        try simp only [List.getElem_toArray, List.getElem_cons_succ, List.getElem_cons_zero, Act.put, List.setIfInBounds_toArray, List.set_cons_zero, List.set_cons_succ]
        refine wpAnyH_take (i := 2) (v := .int .i64 (hd : Int)) rfl (by kernel_rfl) (by kernel_rfl) (by kernel_rfl) (fun _ _ _ h => h) (Or.inl ⟨by rfl, fun w' hw' => ?y15⟩) HH.out ?_
        case y15 => (have c0 := hw'.cell 1; go_simp; try with_reducible rfl)
        try simp only [List.getElem_toArray, List.getElem_cons_succ, List.getElem_cons_zero, Act.put, List.setIfInBounds_toArray, List.set_cons_zero, List.set_cons_succ]
        refine wpAnyH_take (i := 3) (v := ?v16) rfl (by kernel_rfl) (by kernel_rfl) (by kernel_rfl) (fun _ _ _ h => h) (Or.inl ⟨by rfl, fun w' hw' => ?y16⟩) HH.out ?_
        case y16 => (go_simp; try with_reducible rfl)
        try simp only [List.getElem_toArray, List.getElem_cons_succ, List.getElem_cons_zero, Act.put, List.setIfInBounds_toArray, List.set_cons_zero, List.set_cons_succ]
        refine wpAnyH_take (i := 4) (v := .int .i64 (l.size : Int)) rfl (by kernel_rfl) (by kernel_rfl) (by kernel_rfl) (fun _ _ _ h => h) (Or.inl ⟨by rfl, fun w' hw' => ?y17⟩) HH.out ?_
        case y17 => (have c0 := hw'.cell 0; go_simp; try with_reducible rfl)
        try simp only [List.getElem_toArray, List.getElem_cons_succ, List.getElem_cons_zero, Act.put, List.setIfInBounds_toArray, List.set_cons_zero, List.set_cons_succ]
        refine wpAnyH_take (i := 5) (v := .int .i64 (M : Int)) rfl (by kernel_rfl) (by kernel_rfl) (by kernel_rfl) (fun _ _ _ h => h) (Or.inl ⟨by rfl, fun w' hw' => ?y18⟩) HH.out ?_
        case y18 => (have m := M1.out; go_simp; try with_reducible rfl)
        try simp only [List.getElem_toArray, List.getElem_cons_succ, List.getElem_cons_zero, Act.put, List.setIfInBounds_toArray, List.set_cons_zero, List.set_cons_succ]
        refine wpAnyH_take (i := 6) (v := .int .i64 (P2 : Int)) rfl (by kernel_rfl) (by kernel_rfl) (by kernel_rfl) (fun _ _ _ h => h) (Or.inl ⟨by rfl, fun w' hw' => ?y19⟩) HH.out ?_
        case y19 => (have m := M2.out; go_simp; try with_reducible rfl)
        try simp only [List.getElem_toArray, List.getElem_cons_succ, List.getElem_cons_zero, Act.put, List.setIfInBounds_toArray, List.set_cons_zero, List.set_cons_succ]
        refine wpAnyH_take (i := 7) (v := ?v20) rfl (by kernel_rfl) (by kernel_rfl) (by kernel_rfl) (fun _ _ _ h => h) (Or.inl ⟨by rfl, fun w' hw' => ?y20⟩) HH.out ?_
        case y20 => (go_simp; try with_reducible rfl)
        try simp only [List.getElem_toArray, List.getElem_cons_succ, List.getElem_cons_zero, Act.put, List.setIfInBounds_toArray, List.set_cons_zero, List.set_cons_succ]
        refine wpAnyH_take (i := 8) (v := .int .i64 1) rfl (by kernel_rfl) (by kernel_rfl) (by kernel_rfl) (fun _ _ _ h => h) (Or.inl ⟨by rfl, fun w' hw' => ?y21⟩) HH.out ?_
        case y21 => (have c0 := hw'.cell 2; go_simp; try with_reducible rfl)
        try simp only [List.getElem_toArray, List.getElem_cons_succ, List.getElem_cons_zero, Act.put, List.setIfInBounds_toArray, List.set_cons_zero, List.set_cons_succ]
        refine wpAnyH_take (i := 9) (v := .int .i64 (P3 : Int)) rfl (by kernel_rfl) (by kernel_rfl) (by kernel_rfl) (fun _ _ _ h => h) (Or.inl ⟨by rfl, fun w' hw' => ?y22⟩) HH.out ?_
        case y22 => (have m := M3.out; go_simp; try with_reducible rfl)
        try simp only [List.getElem_toArray, List.getElem_cons_succ, List.getElem_cons_zero, Act.put, List.setIfInBounds_toArray, List.set_cons_zero, List.set_cons_succ]
        refine wpAnyH_take (i := 10) (v := .int .i64 (P4 : Int)) rfl (by kernel_rfl) (by kernel_rfl) (by kernel_rfl) (fun _ _ _ h => h) (Or.inl ⟨by rfl, fun w' hw' => ?y23⟩) HH.out ?_
        case y23 => (have m := M4.out; go_simp; try with_reducible rfl)
        try simp only [List.getElem_toArray, List.getElem_cons_succ, List.getElem_cons_zero, Act.put, List.setIfInBounds_toArray, List.set_cons_zero, List.set_cons_succ]
        refine wpAnyH_ready (rs := [11]) (by kernel_rfl) (by simp) (AllReadyH.cons rfl (fun K hK => ?_) AllReadyH.nil)
        rw [if_pos (by rfl)]
        refine wp_store_row 79 (.tmp 2) (.tmp 39) rfl (w.heap.size + 1) #[.int .i64 (l.size : Int), .int .i64 (hd : Int), .int .i64 1, .slice (some ⟨qb, 0, none⟩) n c3, .int .u64 (la : Int)] rfl rfl 79 _ (show Blk (World.drew _) _ _ _ from Z2.out) rfl rfl (by simp [Value.oneCell']) ?_
        obtain ⟨w8, hw8⟩ : ∃ W, W = (World.drew wt2).setRow (w.heap.size + 1) #[.int .i64 (l.size : Int), .int .i64 (hd : Int), .int .i64 1, .slice (some ⟨qb, 0, none⟩) n c3, .int .u64 (la : Int)] := ⟨_, rfl⟩
        have hb8 : But (fun k => k = w.heap.size + 1) wt2.drew w8 := by rw [hw8]; exact But.setRow (S := fun k => k = w.heap.size + 1) (But.refl _) (Or.inl rfl) _
        have Z8 := Lib.hid (show Blk w8 (w.heap.size + 1) #[.int .i64 (l.size : Int), .int .i64 (hd : Int), .int .i64 1, .slice (some ⟨qb, 0, none⟩) n c3, .int .u64 (la : Int)] 79 by rw [hw8]; exact setRow_heap _ _ _ _ _ _ (show Blk (World.drew _) _ _ _ from Z2.out))
        have X8 := Lib.hid (show Blk w8 w.heap.size #[.int .i64 (l.size : Int), .int .i64 (hd : Int), .int .i64 1, .slice (some ⟨qb, 0, none⟩) n c3, .int .u64 (la : Int)] 79 from (show Blk (World.drew _) _ _ _ from X2.out).but hb8 (by omega))
        have O8 := Lib.hid (Own.but (show (World.drew wt2).ownsRow _ _ _ _ _ _ from O2.out) hb8 (fun k hk e => by have := (O2.out.lt k hk).1; omega))
        have B8 := Lib.hid (show Below w.heap.size w w8 from B2.out.drew.trans (hb8.below (fun k hk e => by omega) (by have := B2.out.size; exact this)))
        rw [← hw8]
        clear hb8 hw8
        refine hK.out _ _ X8.out (fun hh => ?_)
        have HH' := Lib.hid hh
        clear hh hK K HH
        have HH := Lib.hid HH'.out
        clear HH'
        try simp only [List.getElem_toArray, List.getElem_cons_succ, List.getElem_cons_zero, Act.put]
        refine wpAnyH_take (i := 12) (v := ?v24) rfl (by kernel_rfl) (by kernel_rfl) (by kernel_rfl) (fun _ _ _ h => h) (Or.inl ⟨by rfl, fun w' hw' => ?y24⟩) HH.out ?_
        case y24 => (go_simp; try with_reducible rfl)
        try simp only [List.getElem_toArray, List.getElem_cons_succ, List.getElem_cons_zero, Act.put, List.setIfInBounds_toArray, List.set_cons_zero, List.set_cons_succ]
        refine wpAnyH_done (by kernel_rfl) ?_ _
        clear HH
        go_wp2_with fail
        refine bodyPost_ret (v := .tuple #[.agg #[.int .i64 (l.size : Int), .int .i64 (hd : Int), .int .i64 1, .slice (some ⟨qb, 0, none⟩) n c3, .int .u64 (la : Int)], .int .i64 (P4 : Int)]) (Kd.results_ct8 Try.results39 _ _ (w.heap.size + 1) 79 #[.int .i64 (l.size : Int), .int .i64 (hd : Int), .int .i64 1, .slice (some ⟨qb, 0, none⟩) n c3, .int .u64 (la : Int)] _ rfl Z8.out Try.underlying79 rfl rfl) rfl ?_
        unfold RetRA
        rw [HPUT.out.1, HPUT.out.2]
        refine ⟨(some ⟨qb, 0, none⟩), c3, ?_, ?_, B8.out⟩
        · show _ = Ending.returned (.tuple #[.agg (rlC ⟨l.size, (l.gens.set hd la), la, some (hd, 1)⟩ (some ⟨qb, 0, none⟩) ((l.gens.set hd la)).length c3), _])
          rw [HGN.out]; rfl
        · show w8.ownsRow _ _ _ (.slice (some ⟨qb, 0, none⟩) ((l.gens.set hd la)).length c3) ((l.gens.set hd la)).length (gv ((l.gens.set hd la)))
          rw [HGN.out]; exact own_more O8.out (by omega)
    · skip
      have hc' : ¬ I < 0 := by omega
      go_wp2_with fail
      refine (HRF.out w3 R3.out).mono ?_
      rintro e w4 ⟨rfl, bw⟩
      have X4 := Lib.hid (X3.out.below bw)
      have Z4 := Lib.hid (Z3.out.below bw)
      have O4 := Lib.hid (own_below O3.out bw)
      have B4 := Lib.hid (B3.out.trans (bw.mono B3.out.size))
      clear bw X3 Z3 O3 B3 R3 HRF c0 c1 c2 c3' c4
      cases hk : freeK l.gens with
      | none =>
        have HA := Lib.hid (show (apL l) = (l, -1) by rw [apL, HNX.out, hk]; rfl)
        have hf1 : fk = -1 := by rw [HFK.out, freeI, hk]
        subst hf1
        clear hk
        go_wp2_with first | (refine wpList_load_row rfl 79 (.tmp 1) rfl w.heap.size rfl 79 #[.int .i64 (l.size : Int), .int .i64 I, .int .i64 J, .slice A3 n c3, .int .u64 (l.last : Int)] (0, 0) _ X4.out Try.underlying79 rfl rfl ?_) | (refine wpList_store_row rfl 79 (.tmp 2) (.tmp 21) rfl (w.heap.size + 1) #[.int .i64 (l.size : Int), .int .i64 I, .int .i64 J, .slice A3 n c3, .int .u64 (l.last : Int)] rfl rfl 79 _ Z4.out rfl rfl (by simp [Value.oneCell']) ?_)
        refine bodyPost_ret (v := .tuple #[.agg #[.int .i64 (l.size : Int), .int .i64 I, .int .i64 J, .slice A3 n c3, .int .u64 (l.last : Int)], .int .i64 (-1)]) (Kd.results_ct8 Try.results39 _ _ (w.heap.size + 1) 79 #[.int .i64 (l.size : Int), .int .i64 I, .int .i64 J, .slice A3 n c3, .int .u64 (l.last : Int)] _ rfl (setRow_heap _ _ _ _ _ _ Z4.out) Try.underlying79 rfl rfl) rfl ?_
        unfold RetRA
        rw [HA.out]
        refine ⟨A3, c3, ?_, ?_, below_setRow B4.out (by omega) _⟩
        · show _ = Ending.returned (.tuple #[.agg (rlC l A3 l.gens.length c3), .int .i64 (-1)])
          rw [HN.out, HIJ.out.1, HIJ.out.2]; rfl
        · show World.ownsRow _ _ _ _ (.slice A3 l.gens.length c3) l.gens.length (gv l.gens)
          rw [HN.out]
          exact own_more (Own.but O4.out ((But.refl _).setRow (S := fun k => k = w.heap.size + 1) (.inl rfl) _) (fun k hk e => by have := (O4.out.lt k hk).1; omega)) (by omega)
      | some hd =>
        obtain ⟨k1, k2⟩ := freeK_lt hk
        have hf1 : fk = (hd : Int) := by rw [HFK.out, freeI, hk]
        subst hf1
        obtain ⟨M, s1, P2, P3, P4, hP, m1, m2, m3, m4, m5⟩ := CTR.out hd 0 (by have := HN.out; have := HS.out; omega) (by omega)
        have hs1 : s1 = 1 := hP.1
        subst hs1
        have M1 := Lib.hid m1
        have M2 := Lib.hid m2
        have M3 := Lib.hid (show IntKind.i64.wrap ((P2 : Int) + 1) = (P3 : Int) from m3)
        have M4 := Lib.hid m4
        obtain ⟨la, hla⟩ : ∃ la, la = l.last + 1 := ⟨_, rfl⟩
        have lw : IntKind.u64.wrap ((l.last : Int) + 1) = (la : Int) := by rw [IntWalk.u64_in _ (by have := HLA.out; omega), hla]; push_cast; rfl
        have HPUT := Lib.hid (show (apL l).1 = ⟨l.size, l.gens.set hd la, la, some (hd, 1)⟩ ∧ (apL l).2 = (P4 : Int) by
          rw [apL, HNX.out, hk]
          refine ⟨?_, by rw [hP.2]; rfl⟩
          show Lg.put _ _ = _
          rw [Lg.put]
          simp only
          rw [hla, show max l.last (l.last + 1) = l.last + 1 by omega])
        have HGN := Lib.hid (show (l.gens.set hd la).length = n by rw [List.length_set]; exact HN.out)
        have h0 : (0 : Int) ≤ (hd : Int) := by omega
        have h1 : (hd : Int) < (n : Int) := by have := HN.out; omega
        obtain ⟨qb, rfl⟩ : ∃ qb, A3 = some ⟨qb, 0, none⟩ := by
          rcases O4.out.2 with ⟨h, h'⟩ | ⟨g', cap, cur, h, _⟩
          · injection h with e1 e2 e3; exfalso; omega
          · injection h with h _ _; exact ⟨g', h⟩
        clear hk hP m1 m2 m3 m4 hla k2
        have HQ := Lib.hid (show w.heap.size + 1 + 1 ≤ qb ∧ qb < w4.heap.size from O4.out.lt qb rfl)
        have HLN := Lib.hid (show hd < n by omega)
        have cq : w4.cell? ⟨qb, hd, none⟩ = some (.int .u64 ((l.gens.getD hd 0 : Nat) : Int)) := own_getU O4.out (gv_get (by rw [HN.out]; exact HLN.out))
        have fq : w4.frozen? ⟨qb, hd, none⟩ = false := own_freeU O4.out hd
        have hne : ¬ (qb = w.heap.size) := by have := HQ.out; omega
        have hne2 : ¬ (w.heap.size = qb) := by have := HQ.out; omega
        have c0 := X4.out.cell 0
        have c1 := X4.out.cell 1
        have c2 := X4.out.cell 2
        have c3' := X4.out.cell 3
        have c4 := X4.out.cell 4
        have y1 := X4.out.free 1
        have y2 := X4.out.free 2
        have y4 := X4.out.free 4
        go_wp2_with fail
        clear c0 c1 c2 c3' c4 y1 y2 y4 cq fq
        obtain ⟨v0, hv0⟩ : ∃ W, W = w4.setCell ⟨w.heap.size, 4, none⟩ (.int .u64 (la : Int)) := ⟨_, rfl⟩
        have hb : But (fun k => k = w.heap.size) w4 v0 := by rw [hv0]; exact But.setCell (S := fun k => k = w.heap.size) (But.refl _) (Or.inl rfl) _
        have XV0 := Lib.hid (show Blk v0 w.heap.size #[.int .i64 (l.size : Int), .int .i64 I, .int .i64 J, .slice (some ⟨qb, 0, none⟩) n c3, .int .u64 (la : Int)] 79 by rw [hv0]; exact heap_setCell_same _ _ _ _ _ _ X4.out)
        have OV0 := Lib.hid (Own.but O4.out hb (fun k hk e => by have := (O4.out.lt k hk).1; omega))
        have ZV0 := Lib.hid (Z4.out.but hb (by omega))
        have BV0 := Lib.hid (show Below w.heap.size w v0 from B4.out.trans (hb.below (fun k hk e => by omega) B4.out.size))
        rw [← hv0]
        clear hb hv0 X4 Z4 O4 B4
        obtain ⟨v1, hv1⟩ : ∃ W, W = v0.setCell ⟨qb, hd, none⟩ (.int .u64 (la : Int)) := ⟨_, rfl⟩
        have hb : But (fun k => k = qb) v0 v1 := by rw [hv1]; exact But.setCell (S := fun k => k = qb) (But.refl _) (Or.inl rfl) _
        have OV1 := Lib.hid (show v1.ownsRow (w.heap.size + 1 + 1) 77 1 (.slice (some ⟨qb, 0, none⟩) n c3) n (gv (l.gens.set hd la)) by rw [hv1, ← gv_set]; exact own_cell1 OV0.out)
        have XV1 := Lib.hid (XV0.out.but hb (by have := HQ.out; omega))
        have ZV1 := Lib.hid (ZV0.out.but hb (by have := HQ.out; omega))
        have BV1 := Lib.hid (show Below w.heap.size w v1 from BV0.out.trans (hb.below (fun k hk e => by have := HQ.out; omega) BV0.out.size))
        rw [← hv1]
        clear hb hv1 XV0 ZV0 OV0 BV0
        obtain ⟨v2, hv2⟩ : ∃ W, W = v1.setCell ⟨w.heap.size, 1, none⟩ (.int .i64 (hd : Int)) := ⟨_, rfl⟩
        have hb : But (fun k => k = w.heap.size) v1 v2 := by rw [hv2]; exact But.setCell (S := fun k => k = w.heap.size) (But.refl _) (Or.inl rfl) _
        have XV2 := Lib.hid (show Blk v2 w.heap.size #[.int .i64 (l.size : Int), .int .i64 (hd : Int), .int .i64 J, .slice (some ⟨qb, 0, none⟩) n c3, .int .u64 (la : Int)] 79 by rw [hv2]; exact heap_setCell_same _ _ _ _ _ _ XV1.out)
        have OV2 := Lib.hid (Own.but OV1.out hb (fun k hk e => by have := (OV1.out.lt k hk).1; omega))
        have ZV2 := Lib.hid (ZV1.out.but hb (by omega))
        have BV2 := Lib.hid (show Below w.heap.size w v2 from BV1.out.trans (hb.below (fun k hk e => by omega) BV1.out.size))
        rw [← hv2]
        clear hb hv2 XV1 ZV1 OV1 BV1
        obtain ⟨v3, hv3⟩ : ∃ W, W = v2.setCell ⟨w.heap.size, 2, none⟩ (.int .i64 0) := ⟨_, rfl⟩
        have hb : But (fun k => k = w.heap.size) v2 v3 := by rw [hv3]; exact But.setCell (S := fun k => k = w.heap.size) (But.refl _) (Or.inl rfl) _
        have XV3 := Lib.hid (show Blk v3 w.heap.size #[.int .i64 (l.size : Int), .int .i64 (hd : Int), .int .i64 0, .slice (some ⟨qb, 0, none⟩) n c3, .int .u64 (la : Int)] 79 by rw [hv3]; exact heap_setCell_same _ _ _ _ _ _ XV2.out)
        have OV3 := Lib.hid (Own.but OV2.out hb (fun k hk e => by have := (OV2.out.lt k hk).1; omega))
        have ZV3 := Lib.hid (ZV2.out.but hb (by omega))
        have BV3 := Lib.hid (show Below w.heap.size w v3 from BV2.out.trans (hb.below (fun k hk e => by omega) BV2.out.size))
        rw [← hv3]
        clear hb hv3 XV2 ZV2 OV2 BV2
        obtain ⟨v4, hv4⟩ : ∃ W, W = v3.setCell ⟨w.heap.size, 2, none⟩ (.int .i64 1) := ⟨_, rfl⟩
        have hb : But (fun k => k = w.heap.size) v3 v4 := by rw [hv4]; exact But.setCell (S := fun k => k = w.heap.size) (But.refl _) (Or.inl rfl) _
        have XV4 := Lib.hid (show Blk v4 w.heap.size #[.int .i64 (l.size : Int), .int .i64 (hd : Int), .int .i64 1, .slice (some ⟨qb, 0, none⟩) n c3, .int .u64 (la : Int)] 79 by rw [hv4]; exact heap_setCell_same _ _ _ _ _ _ XV3.out)
        have OV4 := Lib.hid (Own.but OV3.out hb (fun k hk e => by have := (OV3.out.lt k hk).1; omega))
        have ZV4 := Lib.hid (ZV3.out.but hb (by omega))
        have BV4 := Lib.hid (show Below w.heap.size w v4 from BV3.out.trans (hb.below (fun k hk e => by omega) BV3.out.size))
        rw [← hv4]
        clear hb hv4 XV3 ZV3 OV3 BV3
        obtain ⟨wt2, hwt⟩ : ∃ W, W = v4 := ⟨_, rfl⟩
        rw [← hwt] at XV4 ZV4 OV4 BV4
        rw [← hwt]
        clear hwt
        have X2 := XV4
        have Z2 := ZV4
        have O2 := OV4
        have B2 := BV4
        refine wp_region_held_drew (S := fun w' => Blk w' w.heap.size #[.int .i64 (l.size : Int), .int .i64 (hd : Int), .int .i64 1, .slice (some ⟨qb, 0, none⟩) n c3, .int .u64 (la : Int)] 79) (by kernel_rfl) (show Blk (World.drew _) _ _ _ from X2.out) (fun hh => ?_)
        have HH := Lib.hid hh
        clear hh
        try simp only [List.getElem_toArray, List.getElem_cons_succ, List.getElem_cons_zero, Act.put, List.setIfInBounds_toArray, List.set_cons_zero, List.set_cons_succ]
        refine wpAnyH_take (i := 0) (v := .agg #[.int .i64 (l.size : Int), .int .i64 (hd : Int), .int .i64 1, .slice (some ⟨qb, 0, none⟩) n c3, .int .u64 (la : Int)]) rfl (by kernel_rfl) (by kernel_rfl) (by kernel_rfl) (fun _ _ _ h => h) (Or.inl ⟨by rfl, fun w' hw' => ?y25⟩) HH.out ?_
        case y25 => exact exec_load 79 (.tmp 1) rfl rfl hw' Try.underlying79 rfl rfl
        try simp only [List.getElem_toArray, List.getElem_cons_zero, Act.put, List.setIfInBounds_toArray, List.set_cons_zero, List.set_cons_succ]
        refine wpAnyH_take (i := 1) (v := ?v26) rfl (by kernel_rfl) (by kernel_rfl) (by kernel_rfl) (fun _ _ _ h => h) (Or.inl ⟨by rfl, fun w' hw' => ?y26⟩) HH.out ?_
        case y26 => (go_simp; try with_reducible rfl)
        try simp only [List.getElem_toArray, List.getElem_cons_succ, List.getElem_cons_zero, Act.put, List.setIfInBounds_toArray, List.set_cons_zero, List.set_cons_succ]
        refine wpAnyH_take (i := 2) (v := .int .i64 (hd : Int)) rfl (by kernel_rfl) (by kernel_rfl) (by kernel_rfl) (fun _ _ _ h => h) (Or.inl ⟨by rfl, fun w' hw' => ?y27⟩) HH.out ?_
        case y27 => (have c0 := hw'.cell 1; go_simp; try with_reducible rfl)
        try simp only [List.getElem_toArray, List.getElem_cons_succ, List.getElem_cons_zero, Act.put, List.setIfInBounds_toArray, List.set_cons_zero, List.set_cons_succ]
        refine wpAnyH_take (i := 3) (v := ?v28) rfl (by kernel_rfl) (by kernel_rfl) (by kernel_rfl) (fun _ _ _ h => h) (Or.inl ⟨by rfl, fun w' hw' => ?y28⟩) HH.out ?_
        case y28 => (go_simp; try with_reducible rfl)
        try simp only [List.getElem_toArray, List.getElem_cons_succ, List.getElem_cons_zero, Act.put, List.setIfInBounds_toArray, List.set_cons_zero, List.set_cons_succ]
        refine wpAnyH_take (i := 4) (v := .int .i64 (l.size : Int)) rfl (by kernel_rfl) (by kernel_rfl) (by kernel_rfl) (fun _ _ _ h => h) (Or.inl ⟨by rfl, fun w' hw' => ?y29⟩) HH.out ?_
        case y29 => (have c0 := hw'.cell 0; go_simp; try with_reducible rfl)
        try simp only [List.getElem_toArray, List.getElem_cons_succ, List.getElem_cons_zero, Act.put, List.setIfInBounds_toArray, List.set_cons_zero, List.set_cons_succ]
        refine wpAnyH_take (i := 5) (v := .int .i64 (M : Int)) rfl (by kernel_rfl) (by kernel_rfl) (by kernel_rfl) (fun _ _ _ h => h) (Or.inl ⟨by rfl, fun w' hw' => ?y30⟩) HH.out ?_
        case y30 => (have m := M1.out; go_simp; try with_reducible rfl)
        try simp only [List.getElem_toArray, List.getElem_cons_succ, List.getElem_cons_zero, Act.put, List.setIfInBounds_toArray, List.set_cons_zero, List.set_cons_succ]
        refine wpAnyH_take (i := 6) (v := .int .i64 (P2 : Int)) rfl (by kernel_rfl) (by kernel_rfl) (by kernel_rfl) (fun _ _ _ h => h) (Or.inl ⟨by rfl, fun w' hw' => ?y31⟩) HH.out ?_
        case y31 => (have m := M2.out; go_simp; try with_reducible rfl)
        try simp only [List.getElem_toArray, List.getElem_cons_succ, List.getElem_cons_zero, Act.put, List.setIfInBounds_toArray, List.set_cons_zero, List.set_cons_succ]
        refine wpAnyH_take (i := 7) (v := ?v32) rfl (by kernel_rfl) (by kernel_rfl) (by kernel_rfl) (fun _ _ _ h => h) (Or.inl ⟨by rfl, fun w' hw' => ?y32⟩) HH.out ?_
        case y32 => (go_simp; try with_reducible rfl)
        try simp only [List.getElem_toArray, List.getElem_cons_succ, List.getElem_cons_zero, Act.put, List.setIfInBounds_toArray, List.set_cons_zero, List.set_cons_succ]
        refine wpAnyH_take (i := 8) (v := .int .i64 1) rfl (by kernel_rfl) (by kernel_rfl) (by kernel_rfl) (fun _ _ _ h => h) (Or.inl ⟨by rfl, fun w' hw' => ?y33⟩) HH.out ?_
        case y33 => (have c0 := hw'.cell 2; go_simp; try with_reducible rfl)
        try simp only [List.getElem_toArray, List.getElem_cons_succ, List.getElem_cons_zero, Act.put, List.setIfInBounds_toArray, List.set_cons_zero, List.set_cons_succ]
        refine wpAnyH_take (i := 9) (v := .int .i64 (P3 : Int)) rfl (by kernel_rfl) (by kernel_rfl) (by kernel_rfl) (fun _ _ _ h => h) (Or.inl ⟨by rfl, fun w' hw' => ?y34⟩) HH.out ?_
        case y34 => (have m := M3.out; go_simp; try with_reducible rfl)
        try simp only [List.getElem_toArray, List.getElem_cons_succ, List.getElem_cons_zero, Act.put, List.setIfInBounds_toArray, List.set_cons_zero, List.set_cons_succ]
        refine wpAnyH_take (i := 10) (v := .int .i64 (P4 : Int)) rfl (by kernel_rfl) (by kernel_rfl) (by kernel_rfl) (fun _ _ _ h => h) (Or.inl ⟨by rfl, fun w' hw' => ?y35⟩) HH.out ?_
        case y35 => (have m := M4.out; go_simp; try with_reducible rfl)
        try simp only [List.getElem_toArray, List.getElem_cons_succ, List.getElem_cons_zero, Act.put, List.setIfInBounds_toArray, List.set_cons_zero, List.set_cons_succ]
        refine wpAnyH_ready (rs := [11]) (by kernel_rfl) (by simp) (AllReadyH.cons rfl (fun K hK => ?_) AllReadyH.nil)
        rw [if_pos (by rfl)]
        refine wp_store_row 79 (.tmp 2) (.tmp 39) rfl (w.heap.size + 1) #[.int .i64 (l.size : Int), .int .i64 (hd : Int), .int .i64 1, .slice (some ⟨qb, 0, none⟩) n c3, .int .u64 (la : Int)] rfl rfl 79 _ (show Blk (World.drew _) _ _ _ from Z2.out) rfl rfl (by simp [Value.oneCell']) ?_
        obtain ⟨w8, hw8⟩ : ∃ W, W = (World.drew wt2).setRow (w.heap.size + 1) #[.int .i64 (l.size : Int), .int .i64 (hd : Int), .int .i64 1, .slice (some ⟨qb, 0, none⟩) n c3, .int .u64 (la : Int)] := ⟨_, rfl⟩
        have hb8 : But (fun k => k = w.heap.size + 1) wt2.drew w8 := by rw [hw8]; exact But.setRow (S := fun k => k = w.heap.size + 1) (But.refl _) (Or.inl rfl) _
        have Z8 := Lib.hid (show Blk w8 (w.heap.size + 1) #[.int .i64 (l.size : Int), .int .i64 (hd : Int), .int .i64 1, .slice (some ⟨qb, 0, none⟩) n c3, .int .u64 (la : Int)] 79 by rw [hw8]; exact setRow_heap _ _ _ _ _ _ (show Blk (World.drew _) _ _ _ from Z2.out))
        have X8 := Lib.hid (show Blk w8 w.heap.size #[.int .i64 (l.size : Int), .int .i64 (hd : Int), .int .i64 1, .slice (some ⟨qb, 0, none⟩) n c3, .int .u64 (la : Int)] 79 from (show Blk (World.drew _) _ _ _ from X2.out).but hb8 (by omega))
        have O8 := Lib.hid (Own.but (show (World.drew wt2).ownsRow _ _ _ _ _ _ from O2.out) hb8 (fun k hk e => by have := (O2.out.lt k hk).1; omega))
        have B8 := Lib.hid (show Below w.heap.size w w8 from B2.out.drew.trans (hb8.below (fun k hk e => by omega) (by have := B2.out.size; exact this)))
        rw [← hw8]
        clear hb8 hw8
        refine hK.out _ _ X8.out (fun hh => ?_)
        have HH' := Lib.hid hh
        clear hh hK K HH
        have HH := Lib.hid HH'.out
        clear HH'
        try simp only [List.getElem_toArray, List.getElem_cons_succ, List.getElem_cons_zero, Act.put]
        refine wpAnyH_take (i := 12) (v := ?v36) rfl (by kernel_rfl) (by kernel_rfl) (by kernel_rfl) (fun _ _ _ h => h) (Or.inl ⟨by rfl, fun w' hw' => ?y36⟩) HH.out ?_
        case y36 => (go_simp; try with_reducible rfl)
        try simp only [List.getElem_toArray, List.getElem_cons_succ, List.getElem_cons_zero, Act.put, List.setIfInBounds_toArray, List.set_cons_zero, List.set_cons_succ]
        refine wpAnyH_done (by kernel_rfl) ?_ _
        clear HH
        go_wp2_with fail
        refine bodyPost_ret (v := .tuple #[.agg #[.int .i64 (l.size : Int), .int .i64 (hd : Int), .int .i64 1, .slice (some ⟨qb, 0, none⟩) n c3, .int .u64 (la : Int)], .int .i64 (P4 : Int)]) (Kd.results_ct8 Try.results39 _ _ (w.heap.size + 1) 79 #[.int .i64 (l.size : Int), .int .i64 (hd : Int), .int .i64 1, .slice (some ⟨qb, 0, none⟩) n c3, .int .u64 (la : Int)] _ rfl Z8.out Try.underlying79 rfl rfl) rfl ?_
        unfold RetRA
        rw [HPUT.out.1, HPUT.out.2]
        refine ⟨(some ⟨qb, 0, none⟩), c3, ?_, ?_, B8.out⟩
        · show _ = Ending.returned (.tuple #[.agg (rlC ⟨l.size, (l.gens.set hd la), la, some (hd, 1)⟩ (some ⟨qb, 0, none⟩) ((l.gens.set hd la)).length c3), _])
          rw [HGN.out]; rfl
        · show w8.ownsRow _ _ _ (.slice (some ⟨qb, 0, none⟩) ((l.gens.set hd la)).length c3) ((l.gens.set hd la)).length (gv ((l.gens.set hd la)))
          rw [HGN.out]; exact own_more O8.out (by omega)
end Go.Proofs.Ytnplhagfmfggcaa.Lo
/-
  A log that is played, purely: what was appended where, and that its sectors show it.
-/
namespace Go.Proofs.Ytnplhagfmfggcaa.Lo
open Go.RowKit Kd Mi Sx
/-- A body and where it lies. -/
structure Bo where
  A : Option Addr
  c : Nat
  b : List UInt8
def boV (x : Bo) : Value := .slice x.A x.b.length x.c
def boC (l : List Bo) : Array Value := (l.map boV).toArray
def nilB : Bo := ⟨none, 0, []⟩
structure PlI (a sz : Nat) (l : Lg) (L : List (List UInt8)) (gs : List Nat) (bo : List Bo) : Prop where
  size : l.size = sz
  len : l.gens.length = a
  lenL : L.length = 2 + a * sz
  gl : gs.length = 40
  bl : bo.length = 40
  seen : ∀ k, 2 ≤ k → k < 2 + a * sz → seenA litSumL L k = if gs.getD k 0 = 0 then none else some (gs.getD k 0, (bo.getD k nilB).b)
theorem seen_zeros {n k : Nat} (hk : k < 26) : seenA litSumL (zerosL n) k = none := by
  rw [seenA, show (zerosL n).getD k zeroS = zeroS by rw [zerosL, List.getD_eq_getElem?_getD, List.getElem?_replicate]; split <;> rfl, zero_no hk]; rfl
theorem pl_new {a sz : Nat} (h : 2 + a * sz ≤ 26) : PlI a sz (Lg.new a sz) (zerosL (2 + a * sz)) (List.replicate 40 0) (List.replicate 40 nilB) :=
  ⟨rfl, List.length_replicate, List.length_replicate, List.length_replicate, List.length_replicate, fun k _ hk => by
    rw [seen_zeros (by omega), if_pos]
    rw [List.getD_eq_getElem?_getD, List.getElem?_replicate]; split <;> rfl⟩
theorem pl_free {a sz : Nat} {l : Lg} {L : List (List UInt8)} {gs : List Nat} {bo : List Bo} (h : PlI a sz l L gs bo) (k : Nat) : PlI a sz (l.free k) L gs bo :=
  ⟨h.size, by rw [Lg.free]; simp only; rw [List.length_set]; exact h.len, h.lenL, h.gl, h.bl, h.seen⟩
theorem next_at {a sz : Nat} {l : Lg} {L : List (List UInt8)} {gs : List Nat} {bo : List Bo} (h : PlI a sz l L gs bo) (hf : l.Fine) (h0 : 0 < sz) {t : Nat × Nat × Nat} (ht : l.next = some t) : t.1 < a ∧ t.2.1 < sz ∧ 0 < t.2.2 ∧ 2 ≤ l.at_ t ∧ l.at_ t < 2 + a * sz := by
  obtain ⟨h1, h2, h3⟩ := Lg.next_lt hf ht (by rw [h.size]; exact h0)
  rw [h.len] at h1
  rw [h.size] at h2
  refine ⟨h1, h2, h3, ?_, ?_⟩
  · rw [Lg.at_]; omega
  · rw [Lg.at_, h.size]
    have : (t.1 + 1) * sz ≤ a * sz := Nat.mul_le_mul_right _ h1
    rw [Nat.add_mul, Nat.one_mul] at this
    omega
theorem getD_set {α : Type} {l : List α} {i j : Nat} (hi : i < l.length) (x d : α) : (l.set i x).getD j d = if i = j then x else l.getD j d := by
  rw [List.getD_eq_getElem?_getD, List.getElem?_set]
  by_cases h : i = j
  · subst h; rw [if_pos rfl, if_pos hi, if_pos rfl]; rfl
  · rw [if_neg h, if_neg h, List.getD_eq_getElem?_getD]
theorem pl_append {a sz : Nat} {l : Lg} {L : List (List UInt8)} {gs : List Nat} {bo : List Bo} (h : PlI a sz l L gs bo) (hN : 2 + a * sz ≤ 26) (hf : l.Fine) (h0 : 0 < sz) {t : Nat × Nat × Nat} (ht : l.next = some t) (hg : t.2.2 < 18446744073709551616) (u : Bo) (hb : u.b.length ≤ 103) :
    PlI a sz (l.put t) (L.set (l.at_ t) (sealedS litSumL (l.at_ t : Int) t.2.2 u.b)) (gs.set (l.at_ t) t.2.2) (bo.set (l.at_ t) u) := by
  obtain ⟨h1, h2, h3, h4, h5⟩ := next_at h hf h0 ht
  refine ⟨h.size, by rw [Lg.put]; simp only; rw [List.length_set]; exact h.len, by rw [List.length_set]; exact h.lenL, by rw [List.length_set]; exact h.gl, by rw [List.length_set]; exact h.bl, fun k k1 k2 => ?_⟩
  have hm : mayS (l.at_ t : Int) u.b = true := decide_eq_true ⟨by omega, by omega, hb⟩
  rw [getD_set (by rw [h.gl]; omega), getD_set (by rw [h.bl]; omega)]
  by_cases hk : l.at_ t = k
  · rw [if_pos hk, if_pos hk, if_neg (by omega), seenA, getD_set (by rw [h.lenL]; omega), if_pos hk, ← hk, ok_sealed litSumL_length hm hg, if_pos rfl, sealed_gen litSumL_length hg, sealed_body litSumL_length hb]
  · rw [if_neg hk, if_neg hk, seenA, getD_set (by rw [h.lenL]; omega), if_neg hk]
    exact h.seen k k1 k2
/-- What x.Gens[x.Head] is behind an appended body. -/
theorem put_head {a sz : Nat} {l : Lg} {L : List (List UInt8)} {gs : List Nat} {bo : List Bo} (h : PlI a sz l L gs bo) (hf : l.Fine) (h0 : 0 < sz) {t : Nat × Nat × Nat} (ht : l.next = some t) : (l.put t).headI = (t.1 : Int) ∧ (l.put t).gens.getD t.1 0 = t.2.2 := by
  obtain ⟨h1, _⟩ := next_at h hf h0 ht
  refine ⟨rfl, ?_⟩
  rw [Lg.put]
  simp only
  rw [getD_set (by rw [h.len]; exact h1), if_pos rfl]
end Go.Proofs.Ytnplhagfmfggcaa.Lo
/-
  string(b) of a row of bytes, nil let in.
-/
namespace Go.Proofs.Ytnplhagfmfggcaa
open Go.RowKit
theorem conv_rd {P : Program} {w : World} {src dst e : TypeId} {B n c : Nat} {A : Option Addr} {l : List UInt8} (hs : P.underlying src = some (.slice e)) (he : P.underlying e = some (.int .u8)) (hd : P.underlying dst = some .string)
    (h : Rd B w A (bv l)) (hn : l.length = n) : (convert src dst (.slice A n c)).run P w = .ok (.string ⟨l.toArray⟩) w := by
  subst hn
  cases A with
  | some ad => exact run_convert_bytes_back w src dst e ad c l hs he hd (fun j hj => by
      obtain ⟨ad', e', _, hc⟩ := h.at_ hj
      injection e' with e'
      subst e'
      exact hc)
  | none =>
    have hl : l = [] := by
      cases l with
      | nil => rfl
      | cons b t => obtain ⟨_, h', _⟩ := h 0 _ rfl; cases h'
    subst hl
    show (convert src dst (.slice none 0 c)).run P w = _
    rw [run_convert_bytes_string w src dst e none 0 c hs he hd]
    trace_state
    rfl
end Go.Proofs.Ytnplhagfmfggcaa
/-
  The document's example comes out true.
-/
namespace Go.Proofs.Ytnplhagfmfggcaa.Lo
open Go.RowKit Kd Mi Sx
attribute [local go_sem ↓] Go.wp_at_zero Go.wp_at_succ
theorem LgA.box {p g1 g2 bx g q : Nat} {w0 w w' : World} {s : Mr (Mu.one p g1 g2)} {F : Nat → Prop} {size segs m b : Nat} {L all : List (List UInt8)} (h : LgA p g1 g2 bx g q w0 w s F size segs L all m) (hb : But (fun k => k = b) w w') (hF : ¬F b) (hw : w0.heap.size ≤ b) : LgA p g1 g2 bx g q w0 w' s F size segs L all m :=
  ⟨lgm_box h.lg hb hF hw, h.len, h.has, h.ok, h.le, h.small⟩
/-- A box beside a log. -/
def Bz (w0 w : World) (F : Nat → Prop) (b : Nat) (cs : Array Value) (t : TypeId) : Prop := Blk w b cs t ∧ w0.heap.size ≤ b ∧ ¬F b
theorem Bz.step {w0 w w' : World} {F F' : Nat → Prop} {b : Nat} {cs : Array Value} {t : TypeId} {La : Laid} {x : La.St} (h : Bz w0 w F b cs t) (m : Mv La w F w' x F') : Bz w0 w' F' b cs t :=
  ⟨h.1.but m.but h.2.2, h.2.1, fun hf => (m.new b hf).elim h.2.2 (fun h1 => by have := h.1.lt; omega)⟩
theorem Bz.below {w0 w w' : World} {F : Nat → Prop} {b : Nat} {cs : Array Value} {t : TypeId} (h : Bz w0 w F b cs t) (hb : Below w.heap.size w w') : Bz w0 w' F b cs t := ⟨h.1.below hb, h.2⟩
theorem rd_marked (w : World) (C : List Value) (e : TypeId) (fr : Nat × Nat) : Rd (w.alloc (.cells C.toArray e fr)).heap.size (w.alloc (.cells C.toArray e fr)) (some ⟨w.heap.size, 0, none⟩) C := fun k u hu => by
  refine ⟨_, rfl, by simp, ?_⟩
  have h : (w.alloc (.cells C.toArray e fr)).heap[w.heap.size]? = some (.cells C.toArray e fr) := heap_alloc_new w _
  rw [add_head]
  unfold World.cell?
  rw [h]
  simpa using hu
def awAt (j : Nat) : Int := if j = 0 then 0 else 1 + j
set_option maxRecDepth 100000 in
set_option maxHeartbeats 6400000 in
theorem awake_any (w : World) : Calls Try.prog 31 #[] w (RetB (.bool true) w) := by
  go_enter Try.func31, Try.ntmps31
  go_wp2_with fail
  refine (made_any 1 1 (by omega) (by omega) 4 2 (by decide) (by decide) _).mono ?_
  rintro e w1 ⟨p, g1, g2, bx, g, q, s1, F1, rfl, h⟩
  have H1 := Lib.hid (made_lga (by decide) (by decide) h)
  clear h
  unfold rigC
  go_wp2_with fail
  obtain ⟨RC, hRC⟩ : ∃ RC, RC = #[Value.pointer (some ⟨p, 0, none⟩), Value.pointer (some ⟨g1, 0, none⟩), Value.pointer (some ⟨g2, 0, none⟩), Value.pointer (some ⟨g, 0, none⟩), Value.pointer (some ⟨q, 0, none⟩), Value.int .i64 4, Value.int .i64 2] := ⟨_, rfl⟩
  have HRC := Lib.hid (show RC[4]? = some (Value.pointer (some ⟨q, 0, none⟩)) by rw [hRC]; rfl)
  obtain ⟨bX, hbX⟩ : ∃ v, v = w1.heap.size := ⟨_, rfl⟩
  obtain ⟨w2, hw2⟩ : ∃ v, v = w1.alloc (.cells RC 73) := ⟨_, rfl⟩
  have bw : Below w1.heap.size w1 w2 := by rw [hw2]; exact (Below.refl _ _).alloc (Nat.le_refl _) _
  have H2 := Lib.hid (H1.out.below bw)
  have X2 := Lib.hid (show Bz w w2 F1 bX RC 73 from ⟨by rw [hw2, hbX]; exact heap_alloc_new _ _, by rw [hbX]; exact H1.out.lg.live.bel.size, fun hf => by have := (LogL _ _ _ _ _).lt H1.out.lg.live.at_ bX hf; omega⟩)
  rw [← hRC, ← hw2, ← hbX]
  clear bw hw2 hbX H1 hRC
  go_loopw [3, 16] (fun a i wr => ∃ (j : Nat) (s : Mr (Mu.one p g1 g2)) (F : Nat → Prop) (L : List (List UInt8)), j ≤ 3 ∧ i = .int .i64 j ∧ a = .int .i64 (awAt j) ∧ LgA p g1 g2 bx g q w wr s F 2 4 L (List.replicate j [97]) (2 * j) ∧ Bz w wr F bX RC 73) (fun _ i _ => 3 - (intOf i).toNat)
  case atStart => exact ⟨0, _, _, _, by omega, rfl, rfl, H2.out, X2.out⟩
  case round =>
    clear H2 X2
    obtain ⟨j, s, F, L, hj, rfl, rfl, hlg, hx⟩ := hrel
    have H := Lib.hid hlg
    have X := Lib.hid hx
    clear hlg hx
    have c4 := (X.out.1.cell 4).trans HRC.out
    by_cases hlt : j < 3
    · have h0 : (j : Int) < 3 := by omega
      obtain ⟨av, hav⟩ : ∃ av : Int, av = awAt j := ⟨_, rfl⟩
      rw [← hav]
      clear hav
      have hcv := Go.Lib.run_convert_bytes_const wr 81 5 #[.int .u8 97] 1 1 Try.underlying81 Try.underlying5
      have FR := Lib.hid (show Rd _ _ _ (bv [97]) from rd_marked wr [Value.int .u8 97] 5 (1, 2))
      have FB := Lib.hid ((Below.refl wr.heap.size wr).alloc (Nat.le_refl _) (.cells #[.int .u8 97] 5 (1, 2)))
      have HT := Lib.hid (show (List.replicate j [(97 : UInt8)]).length < 4 * 2 ∧ 2 * j < 900000 by rw [List.length_replicate]; omega)
      go_wp2_with fail
      refine (lga_append (H.out.below FB.out) HT.out.1 HT.out.2 _ 1 _ [97] rfl (by omega) FR.out).mono ?_
      rintro e w5 ⟨rfl, s5, F5, L5, hlg, hmv⟩
      have H5 := Lib.hid hlg
      have X5 := Lib.hid ((X.out.below FB.out).step hmv)
      clear hlg hmv H X FR FB c4 hcv
      have e5 : ((2 + (List.replicate j [(97 : UInt8)]).length : Nat) : Int) = (j : Int) + 2 := by rw [List.length_replicate]; omega
      rw [e5]
      go_wp2_with fail
      go_roundw
      case rel => exact ⟨j + 1, s5, F5, L5, by omega, by go_num, int_eq (by rw [awAt, if_neg (by omega)]; omega), by
        have h := H5.out
        rw [show List.replicate j [(97 : UInt8)] ++ [[97]] = List.replicate (j + 1) [97] from List.replicate_succ'.symm] at h
        exact h, X5.out⟩
      case measure => simp [intOf]; omega
    · obtain rfl : j = 3 := by omega
      rw [show awAt 3 = 4 from rfl]
      go_wp2_with fail
      have hc := lgm_head H.out.lg
      rw [show (lgT 2 4 (List.replicate 3 [(97 : UInt8)]).length).headI = 1 by decide, show (lgT 2 4 (List.replicate 3 [(97 : UInt8)]).length).slotI = 1 by decide] at hc
      refine hc.mono ?_
      clear hc
      rintro e w3 ⟨rfl, bw⟩
      have H3 := Lib.hid (H.out.below bw)
      have X3 := Lib.hid (X.out.below bw)
      clear bw H X c4
      have c4 := (X3.out.1.cell 4).trans HRC.out
      go_wp2_with fail
      refine (lga_read H3.out (t := 2) (by decide)).mono ?_
      rintro e w4 ⟨A, n, c, F4, rfl, ho, hlg, hmv, hdj⟩
      have H4 := Lib.hid hlg
      have X4 := Lib.hid (X3.out.step hmv)
      have O4 := Lib.hid (show w4.ownsRow w3.heap.size 5 1 (.slice A n c) n (bv [97]) from ho)
      clear hlg hmv hdj ho H3 X3 c4
      have c4 := (X4.out.1.cell 4).trans HRC.out
      obtain ⟨Z, hZ⟩ : ∃ Z : ByteArray, Z = ⟨#[97]⟩ := ⟨_, rfl⟩
      have HZ := Lib.hid hZ
      clear hZ
      go_wp2_with fail
      refine (show Calls Try.prog 83 #[.pointer (some ⟨q, 0, none⟩), .int .i64 0] w4 (RetB (.int .u64 1) w4) from lgm_gen H4.out.lg 0 (by omega) (by omega)).mono ?_
      rintro e w5 ⟨rfl, bw⟩
      have H5 := Lib.hid (H4.out.below bw)
      have X5 := Lib.hid (X4.out.below bw)
      have O5 := Lib.hid (own_below O4.out bw)
      clear bw H4 X4 O4 c4
      have c4 := (X5.out.1.cell 4).trans HRC.out
      go_wp2_with fail
      refine (show Calls Try.prog 83 #[.pointer (some ⟨q, 0, none⟩), .int .i64 1] w5 (RetB (.int .u64 2) w5) from lgm_gen H5.out.lg 1 (by omega) (by omega)).mono ?_
      rintro e w6 ⟨rfl, bw⟩
      have H6 := Lib.hid (H5.out.below bw)
      have X6 := Lib.hid (X5.out.below bw)
      have O6 := Lib.hid (own_below O5.out bw)
      clear bw H5 X5 O5 c4
      have c4 := (X6.out.1.cell 4).trans HRC.out
      go_wp2_with fail
      refine (show Calls Try.prog 83 #[.pointer (some ⟨q, 0, none⟩), .int .i64 2] w6 (RetB (.int .u64 0) w6) from lgm_gen H6.out.lg 2 (by omega) (by omega)).mono ?_
      rintro e w7 ⟨rfl, bw⟩
      have H7 := Lib.hid (H6.out.below bw)
      have X7 := Lib.hid (X6.out.below bw)
      have O7 := Lib.hid (own_below O6.out bw)
      clear bw H6 X6 O6 c4
      have c4 := (X7.out.1.cell 4).trans HRC.out
      go_wp2_with fail
      refine (show Calls Try.prog 84 #[.pointer (some ⟨q, 0, none⟩)] w7 (RetB (.int .i64 5) w7) from lgm_room H7.out.lg).mono ?_
      rintro e w8 ⟨rfl, bw⟩
      have H8 := Lib.hid (H7.out.below bw)
      have X8 := Lib.hid (X7.out.below bw)
      have O8 := Lib.hid (own_below O7.out bw)
      clear bw H7 X7 O7 c4
      have c4 := (X8.out.1.cell 4).trans HRC.out
      have hn : 1 = n := by have := O8.out.1; simp [bv] at this; exact this
      have kc := conv_rd (c := c) Try.underlying81 Try.underlying5 Try.underlying9 (Rd.own (n := n) (c := c) O8.out) hn
      rw [show (⟨[(97 : UInt8)].toArray⟩ : ByteArray) = Z from HZ.out.symm] at kc
      have hz : (Z.toList == [97]) = true := by rw [HZ.out, ByteArray.toList_eq]; decide
      go_wp2_with fail
      go_ret
      exact ⟨rfl, H8.out.lg.live.bel⟩
end Go.Proofs.Ytnplhagfmfggcaa.Lo
/-
  How an array of numbers that came in by value is opened: its numbers, as a list.
-/
namespace Go.Proofs.Ytnplhagfmfggcaa
open Go.RowKit Go.ChangeShapes Go.WideShapes

section
variable {H : Type} {enc : TypeId × Value → H} {P : Program} {w : World} {r : Reach} {b0 base : Nat} {spare : Nat → Bool} {held : Bool}

theorem open_arr {t e n : Nat} {k : IntKind} {v : Value} {d : DataW H} {ps : List MemPlace} (ht : P.underlying t = some (.array n e)) (he : P.underlying e = some (.int k)) (hc : P.cellsOf e = 1) (hn : P.cellsOf t = n)
    (hval : Value.okWide P w r b0 t v) (h : DataW.Trod enc P w base spare held t v d ps) :
    ∃ zs : List Int, zs.length = n ∧ v = .agg (zs.map (Value.int k)).toArray ∧ ∀ z ∈ zs, (Lit.int k z).wf = true := by
  obtain ⟨cs, rfl, hsz⟩ : ∃ cs, v = .agg cs ∧ cs.size = n := by
    have h1 := hval
    simp only [Value.okWide, ht] at h1
    obtain ⟨cs, e1, e2, _⟩ := h1
    exact ⟨cs, e1, by rw [e2, hn]⟩
  obtain ⟨fuel, hf⟩ := h
  obtain ⟨xs, m, _, _, hl, hx, hel⟩ := DataW.trod_array ht hf
  have each : ∀ i (hi : i < cs.size), ∃ z, cs[i] = .int k z ∧ (Lit.int k z).wf = true := by
    intro i hi
    have h1 := hel i (by omega)
    have hxi : i < xs.length := by omega
    rw [List.getElem?_eq_getElem hxi, hc, Nat.mul_one] at h1
    obtain ⟨z, e1, _, hw⟩ := DataW.trod_int he h1
    have e2 : ((Value.agg cs).cells.toList.drop i).take 1 = [cs[i]] := by
      show (cs.toList.drop i).take 1 = [cs[i]]
      rw [List.drop_eq_getElem_cons (by simpa using hi)]
      simp
    rw [e2] at e1
    injection e1 with e1
    exact ⟨z, e1, hw⟩
  refine ⟨cs.toList.map (fun v => match v with | .int _ z => z | _ => 0), by simpa using hsz, ?_, ?_⟩
  · congr 1
    apply Array.ext
    · simp
    · intro i h1 h2
      obtain ⟨z, hz, _⟩ := each i h1
      simp [hz]
  · intro z hz
    simp only [List.mem_map] at hz
    obtain ⟨v, hv, rfl⟩ := hz
    obtain ⟨i, hi, rfl⟩ := List.getElem_of_mem hv
    obtain ⟨z, hz, hw⟩ := each i (by simpa using hi)
    have : cs.toList[i] = .int k z := by simpa using hz
    rw [this]
    exact hw

theorem open_u32s {t e n : Nat} {v : Value} {d : DataW H} {ps : List MemPlace} (ht : P.underlying t = some (.array n e)) (he : P.underlying e = some (.int .u32)) (hc : P.cellsOf e = 1) (hn : P.cellsOf t = n)
    (hval : Value.okWide P w r b0 t v) (h : DataW.Trod enc P w base spare held t v d ps) : ∃ s : List UInt32, s.length = n ∧ v = .agg (uv s) := by
  obtain ⟨zs, hl, rfl, hw⟩ := open_arr ht he hc hn hval h
  refine ⟨zs.map fun z => UInt32.ofNat z.toNat, by simpa using hl, ?_⟩
  unfold uv
  rw [List.map_map]
  congr 2
  apply List.map_congr_left
  intro z hz
  have hb := bounds_u32 (hw z hz)
  simp only [Function.comp]
  exact int_eq (by rw [UInt32.toNat_ofNat']; omega)
theorem open_u8s {t e n : Nat} {v : Value} {d : DataW H} {ps : List MemPlace} (ht : P.underlying t = some (.array n e)) (he : P.underlying e = some (.int .u8)) (hc : P.cellsOf e = 1) (hn : P.cellsOf t = n)
    (hval : Value.okWide P w r b0 t v) (h : DataW.Trod enc P w base spare held t v d ps) : ∃ l : List UInt8, l.length = n ∧ v = .agg (bva l) := by
  obtain ⟨zs, hl, rfl, hw⟩ := open_arr ht he hc hn hval h
  refine ⟨zs.map fun z => UInt8.ofNat z.toNat, by simpa using hl, ?_⟩
  unfold bva bv
  rw [List.map_map]
  congr 2
  apply List.map_congr_left
  intro z hz
  have hb := bounds_u8 (hw z hz)
  simp only [Function.comp]
  exact int_eq (by rw [UInt8.toNat_ofNat']; omega)
end
end Go.Proofs.Ytnplhagfmfggcaa
/-
  The laws' acts: how a row of them that came in is opened, and how one is read; whether they are too many, or too long.
-/
namespace Go.Proofs.Ytnplhagfmfggcaa.Lo
open Go.RowKit
/-- An act: Kind, N, and its body, that lies at A. -/
structure La where
  kind : Int
  n : Int
  A : Option Addr
  c : Nat
  b : List UInt8
def laV (a : La) : List Value := [.int .u8 a.kind, .int .u8 a.n, .slice a.A a.b.length a.c]
def las : List La → List Value
  | [] => []
  | x :: l => laV x ++ las l
theorem las_append (a b : List La) : las (a ++ b) = las a ++ las b := by
  induction a with
  | nil => rfl
  | cons x l ih => simp [las, ih]
theorem laV_length (x : La) : (laV x).length = 3 := rfl
theorem las_length (l : List La) : (las l).length = l.length * 3 := by
  induction l with
  | nil => rfl
  | cons x l ih => rw [las, List.length_append, laV_length, ih, List.length_cons]; omega
theorem las_get {l : List La} {k : Nat} (hk : k < l.length) {j : Nat} {v : Value} (hv : (laV l[k])[j]? = some v) : (las l)[3 * k + j]? = some v := by
  induction l generalizing k with
  | nil => simp at hk
  | cons x l ih =>
    cases k with
    | zero =>
      have hj : j < 3 := (List.getElem?_eq_some_iff.1 hv).1
      rw [las, Nat.mul_zero, Nat.zero_add, List.getElem?_append_left (by rw [laV_length]; omega)]
      exact hv
    | succ k =>
      rw [las, List.getElem?_append_right (by rw [laV_length]; omega), laV_length, show 3 * (k + 1) + j - 3 = 3 * k + j by omega]
      exact ih (by simpa using hk) (by simpa using hv)
/-- What is so of an act that came in. -/
structure La.ok (w : World) (x : La) : Prop where
  k0 : 0 ≤ x.kind
  k1 : x.kind ≤ 255
  n0 : 0 ≤ x.n
  n1 : x.n ≤ 255
  rd : Rd w.heap.size w x.A (bv x.b)
  cap : x.b.length ≤ x.c ∧ x.c ≤ maxLen
/-- An act of a row, read. -/
theorem rd_lact {B : Nat} {w : World} {A : Option Addr} {l : List La} (h : Rd B w A (las l)) {k : Nat} (hk : k < l.length) :
    ∃ ad, A = some ad ∧ ad.block < B ∧ ∀ j v, (laV l[k])[j]? = some v → w.cell? ((ad.add (k * 3)).add j) = some v := by
  obtain ⟨ad, hA, hb, _⟩ := h _ _ (las_get hk (j := 0) (v := .int .u8 l[k].kind) rfl)
  refine ⟨ad, hA, hb, fun j v hv => ?_⟩
  obtain ⟨ad', hA', _, hc⟩ := h _ _ (las_get hk hv)
  rw [hA] at hA'; injection hA' with hA'
  rw [hA', Kd.add_twice8, Nat.mul_comm k 3]
  exact hc
section
open Go.ChangeShapes Go.WideShapes
variable {H : Type} {enc : TypeId × Value → H} {w : World} {base : Nat} {spare : Nat → Bool} {held : Bool}
theorem lact_fields : (Try.prog.fieldsOf 85).toList.map (fun f => (f.name == "_", f.type, f.offset)) = [(false, 5, 0), (false, 5, 1), (false, 81, 2)] := by kernel_rfl
theorem lact_under : Try.prog.underlying 85 = some (.struct (Try.prog.fieldsOf 85)) := by kernel_rfl
theorem lact_info : (Try.prog.info? 85).map (·.size) = some 3 := by kernel_rfl
set_option maxRecDepth 100000 in
theorem lact_of_trod {fuel : Nat} {cs : List Value} {x : DataW H × List MemPlace} (h : DataW.trod enc Try.prog w base spare held fuel 85 cs = some x) :
    ∃ y : La, cs = laV y ∧ y.ok w := by
  obtain ⟨xs, n, _, _, hl, hlen, hf⟩ := DataW.trod_struct lact_under h
  have hfs := lact_fields
  have hcn : Try.prog.cellsOf 85 = 3 := by kernel_rfl
  have hci : Try.prog.cellsOf 5 = 1 := by kernel_rfl
  have hcu : Try.prog.cellsOf 81 = 1 := by kernel_rfl
  generalize Try.prog.fieldsOf 85 = fs at hfs hlen hf
  rw [hcn] at hl
  obtain ⟨L⟩ := fs
  have hL5 : L.length = 3 := by simpa using congrArg List.length hfs
  match L, hL5, hfs, hf, hlen with
  | [f0, f1, f2], _, hfs, hf, hlen =>
    simp only [List.map_cons, List.map_nil, List.cons.injEq, Prod.mk.injEq, and_true] at hfs
    obtain ⟨⟨_, t0, o0⟩, ⟨_, t1, o1⟩, ⟨_, t2, o2⟩⟩ := hfs
    have h5 : xs.length = 3 := hlen
    have g0 := hf 0 f0 rfl
    have g1 := hf 1 f1 rfl
    have g2 := hf 2 f2 rfl
    rw [t0, o0, hci, List.getElem?_eq_getElem (by omega)] at g0
    rw [t1, o1, hci, List.getElem?_eq_getElem (by omega)] at g1
    rw [t2, o2, hcu, List.getElem?_eq_getElem (by omega)] at g2
    obtain ⟨a0, e0, _, w0⟩ := DataW.trod_int Try.underlying5 g0
    obtain ⟨a1, e1, _, w1⟩ := DataW.trod_int Try.underlying5 g1
    have b0 := bounds_u8 w0
    have b1 := bounds_u8 w1
    match cs, hl with
    | [u0, u1, u2], _ =>
      simp at e0 e1 g2
      obtain ⟨body, A, c, rfl, h1, h2, h3⟩ := isB_of_trod Try.underlying81 Try.underlying5 (by kernel_rfl) g2
      exact ⟨⟨a0, a1, A, c, body⟩, by rw [e0, e1]; rfl, ⟨b0.1, b0.2, b1.1, b1.2, h3, h1, h2⟩⟩
/-- A row of acts that came in. -/
theorem open_lacts {a : Option Addr} {len cap : Nat} {d : DataW H} {ps : List MemPlace} (h : DataW.Trod enc Try.prog w base spare held 67 (.slice a len cap) d ps) :
    ∃ l : List La, l.length = len ∧ len ≤ cap ∧ cap ≤ maxLen ∧ Rd w.heap.size w a (las l) ∧ ∀ y ∈ l, y.ok w := by
  obtain ⟨fuel, hf⟩ := h
  have hf' : DataW.trod enc Try.prog w base spare held fuel 67 [Value.slice a len cap] = some (d, ps) := hf
  have hcn : Try.prog.cellsOf 85 = 3 := by kernel_rfl
  rcases Go.Deep.open_slice Try.underlying67 hf' with ⟨hcs, _⟩ | ⟨a', len', cap', m, n, D, Pl, hcs, _, hl, hm, hmm, _, hx⟩
  · simp only [List.cons.injEq, and_true] at hcs
    injection hcs with e1 e2 e3
    subst e1; subst e2; subst e3
    exact ⟨[], rfl, Nat.le_refl _, Nat.zero_le _, Rd.none, fun y hy => by simp at hy⟩
  · simp only [List.cons.injEq, and_true] at hcs
    injection hcs with e1 e2 e3
    subst e1; subst e2; subst e3
    have hlm : len ≤ m := by rw [hmm]; split <;> omega
    rw [hcn] at hx
    have hall : ∀ j, j ≤ len → ∃ l : List La, l.length = j ∧ (∀ y ∈ l, y.ok w) ∧ ∀ k u, (las l)[k]? = some u → w.cell? (a'.add k) = some u := by
      intro j
      induction j with
      | zero => exact fun _ => ⟨[], rfl, fun y hy => by simp at hy, fun k u hu => by simp [las] at hu⟩
      | succ j ih =>
        intro hj
        obtain ⟨l, hl', hb, hc⟩ := ih (by omega)
        obtain ⟨cs', h1, h2⟩ := hx j (by omega)
        obtain ⟨y, hy, hyb⟩ := lact_of_trod h2
        obtain ⟨_, _, hcl⟩ := World.cells?_some h1
        have hnl : (las l).length = j * 3 := by rw [las_length, hl']
        refine ⟨l ++ [y], by simp [hl'], fun z hz => ?_, fun k u hu => ?_⟩
        · rcases List.mem_append.1 hz with hz | hz
          · exact hb z hz
          · rw [List.mem_singleton] at hz; rw [hz]; exact hyb
        · rw [las_append] at hu
          rcases Nat.lt_or_ge k (las l).length with hk | hk
          · rw [List.getElem?_append_left hk] at hu
            exact hc k u hu
          · rw [List.getElem?_append_right hk, las, las, List.append_nil, ← hy, hnl] at hu
            have hk5 : k - j * 3 < 3 := by
              have := (List.getElem?_eq_some_iff.1 hu).1
              rw [hy, laV_length] at this; exact this
            have h3 := hcl (k - j * 3) hk5
            rw [Kd.add_twice8, show j * 3 + (k - j * 3) = k by omega, hu] at h3
            exact h3
    obtain ⟨l, hl', hb, hc⟩ := hall len (Nat.le_refl _)
    refine ⟨l, hl', hl, hm, fun k u hu => ⟨a', rfl, ?_, hc k u hu⟩, hb⟩
    have := World.block_lt_of_cell? _ _ (hc k u hu)
    rw [add_block] at this
    exact this
end
/-- They are many, or a body is long. -/
def greatL (l : List La) : Bool := decide (30 < l.length) || l.any fun a => decide (120 < a.b.length)
end Go.Proofs.Ytnplhagfmfggcaa.Lo
/-
  Whether acts are too many, or a body of theirs is too long.
-/
namespace Go.Proofs.Ytnplhagfmfggcaa.Lo
open Go.RowKit Kd
attribute [local go_sem ↓] Go.wp_at_zero Go.wp_at_succ
theorem great_no {l : List La} (h1 : l.length ≤ 30) (h2 : ∀ j, ∀ h : j < l.length, (l[j]).b.length ≤ 120) : greatL l = false := by
  rw [greatL, decide_eq_false (by omega), Bool.false_or, List.any_eq_false]
  intro x hx
  obtain ⟨j, hj, rfl⟩ := List.mem_iff_getElem.1 hx
  have := h2 j hj
  simp; omega
theorem great_body {l : List La} {j : Nat} (hj : j < l.length) (h : 120 < (l[j]).b.length) : greatL l = true := by
  rw [greatL, Bool.or_eq_true]
  exact .inr (List.any_eq_true.2 ⟨l[j], List.getElem_mem hj, decide_eq_true h⟩)
set_option maxRecDepth 100000 in
set_option maxHeartbeats 1600000 in
theorem great_any (A : Option Addr) (n c : Nat) (l : List La) (w : World) (hl : l.length = n) (hm : n ≤ 9223372036854775807) (hr : Rd w.heap.size w A (las l)) (hb : ∀ y ∈ l, y.b.length ≤ 9223372036854775807) :
    Calls Try.prog 32 #[.slice A n c] w (RetB (.int .i64 (if greatL l then 1 else 0)) w) := by
  have HR := Lib.hid hr
  have HL := Lib.hid hl
  have HM := Lib.hid hm
  have HB := Lib.hid hb
  obtain ⟨G, hG⟩ : ∃ G : Int, G = if greatL l then 1 else 0 := ⟨_, rfl⟩
  have HG := Lib.hid hG
  rw [← hG]
  clear hr hl hm hb hG
  go_enter Try.func32, Try.ntmps32
  by_cases hn : 30 < n
  · have n1 : (30 : Int) < (n : Int) := by omega
    have hg : G = 1 := by rw [HG.out, greatL, decide_eq_true (by rw [HL.out]; exact hn), Bool.true_or, if_pos rfl]
    subst hg
    go_wp2_with fail
    go_ret
    exact ⟨rfl, Below.refl _ _⟩
  have n1 : ¬ (30 : Int) < (n : Int) := by omega
  have HN := Lib.hid (show n ≤ 30 by omega)
  clear hn
  go_wp2_with fail
  go_loopw [10] (fun i wr => ∃ k : Nat, k ≤ n ∧ i = .int .i64 (k : Int) ∧ Hid (Below w.heap.size w wr) ∧ Hid (∀ j, ∀ h : j < l.length, j < k → (l[j]).b.length ≤ 120)) (fun i _ => n - (intOf i).toNat)
  case atStart => exact ⟨0, Nat.zero_le _, rfl, Lib.hid (Below.refl _ _), Lib.hid (fun j _ h => by omega)⟩
  case round =>
    obtain ⟨k, hk, rfl, B, HO⟩ := hrel
    have HK := Lib.hid hk
    by_cases hlt : k < n
    · have HLT := Lib.hid hlt
      have j0 : (0 : Int) ≤ (k : Int) := by omega
      have j1 : (k : Int) < (n : Int) := by omega
      have wp1 : IntKind.i64.wrap ((k : Int) + 1) = ((k + 1 : Nat) : Int) := IntWalk.i64_in _ (by have := HM.out; omega)
      have hkl : k < l.length := by rw [HL.out]; exact hlt
      obtain ⟨ad, hA, _, hcell⟩ := rd_lact (HR.out.below B.out) hkl
      subst hA
      obtain ⟨u, hu⟩ : ∃ u, u = l[k] := ⟨_, rfl⟩
      rw [← hu] at hcell
      have HU := Lib.hid (show ∀ h : k < l.length, u = l[k] from fun _ => hu)
      have HCE := Lib.hid hcell
      have HIU := Lib.hid (show (Try.prog.info? 85).map (·.size) = some (laV u).length from lact_info)
      have HBN := Lib.hid (show u.b.length ≤ 9223372036854775807 by rw [hu]; exact HB.out _ (List.getElem_mem hkl))
      clear hu hcell hlt hk
      by_cases hbig : 120 < u.b.length
      · have b1 : (120 : Int) < (u.b.length : Int) := by omega
        have hg : G = 1 := by rw [HG.out, great_body hkl (by rw [← HU.out hkl]; exact hbig), if_pos rfl]
        subst hg
        clear hkl hbig
        go_wp2_with first | (refine wpList_load_at rfl 85 (.tmp 12) rfl (ad.add (k * 3)) rfl HCE.out lact_under rfl HIU.out ?_; change wpList _ _ _ _ (Act.put _ _ (.agg #[.int .u8 u.kind, .int .u8 u.n, .slice u.A u.b.length u.c])) _)
        go_ret
        exact ⟨rfl, B.out.alloc B.out.size _⟩
      · have b1 : ¬ (120 : Int) < (u.b.length : Int) := by omega
        have HO2 := Lib.hid (show ∀ j, ∀ h : j < l.length, j < k + 1 → (l[j]).b.length ≤ 120 from fun j h hj => by
          rcases Nat.lt_or_ge j k with h1 | h1
          · exact HO.out j h h1
          · obtain rfl : k = j := by omega
            rw [← HU.out h]; omega)
        clear hkl hbig HO
        go_wp2_with first | (refine wpList_load_at rfl 85 (.tmp 12) rfl (ad.add (k * 3)) rfl HCE.out lact_under rfl HIU.out ?_; change wpList _ _ _ _ (Act.put _ _ (.agg #[.int .u8 u.kind, .int .u8 u.n, .slice u.A u.b.length u.c])) _)
        go_round
        case rel => exact ⟨k + 1, HLT.out, rfl, Lib.hid (B.out.alloc B.out.size _), HO2⟩
        case measure => have := HLT.out; simp [intOf]; omega
    · have hd : ¬ (k : Int) < (n : Int) := by omega
      have hg : G = 0 := by rw [HG.out, great_no (by rw [HL.out]; exact HN.out) (fun j h => HO.out j h (by have := HL.out; omega)), if_neg (by simp)]
      subst hg
      go_wp2_with fail
      go_ret
      exact ⟨rfl, B.out⟩
end Go.Proofs.Ytnplhagfmfggcaa.Lo
/-
  Acts: how a row of them that came in is opened, and how one is read.
-/
namespace Go.Proofs.Ytnplhagfmfggcaa.Mi
open Go.RowKit Kd
/-- An act: Kind, N, X, Y, On. -/
structure Ac where
  kind : Int
  n : Int
  x : UInt8
  y : UInt8
  on : Bool
def acV (a : Ac) : List Value := [.int .i64 a.kind, .int .i64 a.n, .int .u8 (a.x.toNat : Int), .int .u8 (a.y.toNat : Int), .bool a.on]
def acs : List Ac → List Value
  | [] => []
  | x :: l => acV x ++ acs l
theorem acs_append (a b : List Ac) : acs (a ++ b) = acs a ++ acs b := by
  induction a with
  | nil => rfl
  | cons x l ih => simp [acs, ih]
theorem acV_length (x : Ac) : (acV x).length = 5 := rfl
theorem acs_length (l : List Ac) : (acs l).length = l.length * 5 := by
  induction l with
  | nil => rfl
  | cons x l ih => rw [acs, List.length_append, acV_length, ih, List.length_cons]; omega
theorem acs_get {l : List Ac} {k : Nat} (hk : k < l.length) {j : Nat} {v : Value} (hv : (acV l[k])[j]? = some v) : (acs l)[5 * k + j]? = some v := by
  induction l generalizing k with
  | nil => simp at hk
  | cons x l ih =>
    cases k with
    | zero =>
      have hj : j < 5 := (List.getElem?_eq_some_iff.1 hv).1
      rw [acs, Nat.mul_zero, Nat.zero_add, List.getElem?_append_left (by rw [acV_length]; omega)]
      exact hv
    | succ k =>
      rw [acs, List.getElem?_append_right (by rw [acV_length]; omega), acV_length, show 5 * (k + 1) + j - 5 = 5 * k + j by omega]
      exact ih (by simpa using hk) (by simpa using hv)
/-- All of a deed's numbers are numbers. -/
def Ac.ok (x : Ac) : Prop := (-9223372036854775808 ≤ x.kind ∧ x.kind ≤ 9223372036854775807) ∧ (-9223372036854775808 ≤ x.n ∧ x.n ≤ 9223372036854775807)
/-- A deed of a row, read. -/
theorem rd_act {B : Nat} {w : World} {A : Option Addr} {l : List Ac} (h : Rd B w A (acs l)) {k : Nat} (hk : k < l.length) :
    ∃ ad, A = some ad ∧ ad.block < B ∧ ∀ j v, (acV l[k])[j]? = some v → w.cell? ((ad.add (k * 5)).add j) = some v := by
  obtain ⟨ad, hA, hb, _⟩ := h _ _ (acs_get hk (j := 0) (v := .int .i64 l[k].kind) rfl)
  refine ⟨ad, hA, hb, fun j v hv => ?_⟩
  obtain ⟨ad', hA', _, hc⟩ := h _ _ (acs_get hk hv)
  rw [hA] at hA'; injection hA' with hA'
  rw [hA', add_twice8, Nat.mul_comm k 5]
  exact hc
section
open Go.ChangeShapes Go.WideShapes
variable {H : Type} {enc : TypeId × Value → H} {w : World} {base : Nat} {spare : Nat → Bool} {held : Bool}
end
end Go.Proofs.Ytnplhagfmfggcaa.Mi
/-
  Rows of pairs of bytes: how one that came in is opened, and how a pair is read; the sectors that begin so.
-/
namespace Go.Proofs.Ytnplhagfmfggcaa.Sc
open Go.RowKit Kd
def prV (a : UInt8 × UInt8) : List Value := [.int .u8 (a.1.toNat : Int), .int .u8 (a.2.toNat : Int)]
/-- The sector that begins so. -/
def sec2 (a : UInt8 × UInt8) : List UInt8 := a.1 :: a.2 :: List.replicate 126 0
theorem sec2_length (a : UInt8 × UInt8) : (sec2 a).length = 128 := by simp [sec2]
def prs : List (UInt8 × UInt8) → List Value
  | [] => []
  | x :: l => prV x ++ prs l
theorem prs_append (a b : List (UInt8 × UInt8)) : prs (a ++ b) = prs a ++ prs b := by
  induction a with
  | nil => rfl
  | cons x l ih => simp [prs, ih]
theorem prV_length (x : UInt8 × UInt8) : (prV x).length = 2 := rfl
theorem prs_length (l : List (UInt8 × UInt8)) : (prs l).length = l.length * 2 := by
  induction l with
  | nil => rfl
  | cons x l ih => rw [prs, List.length_append, prV_length, ih, List.length_cons]; omega
theorem prs_get {l : List (UInt8 × UInt8)} {k : Nat} (hk : k < l.length) {j : Nat} {v : Value} (hv : (prV l[k])[j]? = some v) : (prs l)[2 * k + j]? = some v := by
  induction l generalizing k with
  | nil => simp at hk
  | cons x l ih =>
    cases k with
    | zero =>
      have hj : j < 2 := (List.getElem?_eq_some_iff.1 hv).1
      rw [prs, Nat.mul_zero, Nat.zero_add, List.getElem?_append_left (by rw [prV_length]; omega)]
      exact hv
    | succ k =>
      rw [prs, List.getElem?_append_right (by rw [prV_length]; omega), prV_length, show 2 * (k + 1) + j - 2 = 2 * k + j by omega]
      exact ih (by simpa using hk) (by simpa using hv)
/-- A deed of a row, read. -/
theorem rd_pair {B : Nat} {w : World} {A : Option Addr} {l : List (UInt8 × UInt8)} (h : Rd B w A (prs l)) {k : Nat} (hk : k < l.length) :
    ∃ ad, A = some ad ∧ ad.block < B ∧ ∀ j v, (prV l[k])[j]? = some v → w.cell? ((ad.add (k * 2)).add j) = some v := by
  obtain ⟨ad, hA, hb, _⟩ := h _ _ (prs_get hk (j := 0) (v := .int .u8 (l[k].1.toNat : Int)) rfl)
  refine ⟨ad, hA, hb, fun j v hv => ?_⟩
  obtain ⟨ad', hA', _, hc⟩ := h _ _ (prs_get hk hv)
  rw [hA] at hA'; injection hA' with hA'
  rw [hA', add_twice8, Nat.mul_comm k 2]
  exact hc
section
open Go.ChangeShapes Go.WideShapes
variable {H : Type} {enc : TypeId × Value → H} {w : World} {base : Nat} {spare : Nat → Bool} {held : Bool}
set_option maxRecDepth 100000 in
theorem pair_of_trod {fuel : Nat} {cs : List Value} {x : DataW H × List MemPlace} (h : DataW.trod enc Try.prog w base spare held fuel 146 cs = some x) :
    ∃ y : UInt8 × UInt8, cs = prV y := by
  obtain ⟨xs, m, _, _, hl, hx, hel⟩ := DataW.trod_array Try.underlying146 h
  have hc : Try.prog.cellsOf 5 = 1 := by kernel_rfl
  have hcn : Try.prog.cellsOf 146 = 2 := by kernel_rfl
  have h2 : xs.length = 2 := hx
  rw [hcn] at hl
  have g0 := hel 0 (by omega)
  have g1 := hel 1 (by omega)
  rw [hc, List.getElem?_eq_getElem (by omega)] at g0 g1
  obtain ⟨a0, e0, _, w0⟩ := DataW.trod_int Try.underlying5 g0
  obtain ⟨a1, e1, _, w1⟩ := DataW.trod_int Try.underlying5 g1
  match cs, hl with
  | [u0, u1], _ =>
    simp at e0 e1
    exact ⟨(byteOf a0, byteOf a1), by rw [e0, e1]; unfold prV; rw [byteOf_val w0, byteOf_val w1]⟩
/-- A row of deeds that came in. -/
theorem open_pairs {a : Option Addr} {len cap : Nat} {d : DataW H} {ps : List MemPlace} (h : DataW.Trod enc Try.prog w base spare held 50 (.slice a len cap) d ps) :
    ∃ l : List (UInt8 × UInt8), l.length = len ∧ len ≤ cap ∧ cap ≤ maxLen ∧ Rd w.heap.size w a (prs l) := by
  obtain ⟨fuel, hf⟩ := h
  have hf' : DataW.trod enc Try.prog w base spare held fuel 50 [Value.slice a len cap] = some (d, ps) := hf
  have hcn : Try.prog.cellsOf 146 = 2 := by kernel_rfl
  rcases Go.Deep.open_slice Try.underlying50 hf' with ⟨hcs, _⟩ | ⟨a', len', cap', m, n, D, Pl, hcs, _, hl, hm, hmm, _, hx⟩
  · simp only [List.cons.injEq, and_true] at hcs
    injection hcs with e1 e2 e3
    subst e1; subst e2; subst e3
    exact ⟨[], rfl, Nat.le_refl _, Nat.zero_le _, Rd.none⟩
  · simp only [List.cons.injEq, and_true] at hcs
    injection hcs with e1 e2 e3
    subst e1; subst e2; subst e3
    have hlm : len ≤ m := by rw [hmm]; split <;> omega
    rw [hcn] at hx
    have hall : ∀ j, j ≤ len → ∃ l : List (UInt8 × UInt8), l.length = j ∧ ∀ k u, (prs l)[k]? = some u → w.cell? (a'.add k) = some u := by
      intro j
      induction j with
      | zero => exact fun _ => ⟨[], rfl, fun k u hu => by simp [prs] at hu⟩
      | succ j ih =>
        intro hj
        obtain ⟨l, hl', hc⟩ := ih (by omega)
        obtain ⟨cs', h1, h2⟩ := hx j (by omega)
        obtain ⟨y, hy⟩ := pair_of_trod h2
        obtain ⟨_, _, hcl⟩ := World.cells?_some h1
        have hnl : (prs l).length = j * 2 := by rw [prs_length, hl']
        refine ⟨l ++ [y], by simp [hl'], fun k u hu => ?_⟩
        rw [prs_append] at hu
        rcases Nat.lt_or_ge k (prs l).length with hk | hk
        · rw [List.getElem?_append_left hk] at hu
          exact hc k u hu
        · rw [List.getElem?_append_right hk, prs, prs, List.append_nil, ← hy, hnl] at hu
          have hk2 : k - j * 2 < 2 := by
            have := (List.getElem?_eq_some_iff.1 hu).1
            rw [hy, prV_length] at this; exact this
          have h3 := hcl (k - j * 2) hk2
          rw [add_twice8, show j * 2 + (k - j * 2) = k by omega, hu] at h3
          exact h3
    obtain ⟨l, hl', hc⟩ := hall len (Nat.le_refl _)
    refine ⟨l, hl', hl, hm, fun k u hu => ⟨a', rfl, ?_, hc k u hu⟩⟩
    have := World.block_lt_of_cell? _ _ (hc k u hu)
    rw [add_block] at this
    exact this
end
end Go.Proofs.Ytnplhagfmfggcaa.Sc
/-
  The contracts of the reference's Good, the laws' Sector, the reference's Sectors.
-/
namespace Go.Proofs.Ytnplhagfmfggcaa.Mi
open Go.RowKit Kd
attribute [local go_sem ↓] Go.wp_at_zero Go.wp_at_succ
/-- The little rule by which the laws call sectors good. -/
def goodN (n : Int) (x : List UInt8) : Bool := (wrap64 (((x.getD 0 0).toNat : Int) + ((x.getD 1 0).toNat : Int) + n)).tmod 4 != 3
theorem byte_cell {w : World} {g : Nat} {x : List UInt8} {t : TypeId} (h : Blk w g (bva x) t) {j : Nat} (hj : j < x.length) : w.cell? ⟨g, j, none⟩ = some (.int .u8 ((x.getD j 0).toNat : Int)) := by
  rw [h.cell j, bva]
  show (bv x).toArray[j]? = _
  rw [List.getElem?_toArray, bv, List.getElem?_map, List.getElem?_eq_getElem hj, List.getD_eq_getElem?_getD, List.getElem?_eq_getElem hj]; rfl
set_option maxRecDepth 100000 in
set_option maxHeartbeats 3200000 in
theorem good_any (w : World) (n : Int) (x : List UInt8) (hx : x.length = 128) : Calls Try.prog 75 #[.int .i64 n, .agg (bva x)] w (RetB (.bool (goodN n x)) w) := by
  obtain ⟨w1, hw1⟩ : ∃ w1, w1 = w.alloc (.cells (bva x) 38) := ⟨_, rfl⟩
  have hb : Blk w1 w.heap.size (bva x) 38 := by rw [hw1]; exact heap_alloc_new _ _
  have B1 := Lib.hid (show Below w.heap.size w w1 from by rw [hw1]; exact (Below.refl _ _).alloc (Nat.le_refl _) _)
  have c0 := byte_cell hb (j := 0) (by omega)
  have c1 := byte_cell hb (j := 1) (by omega)
  obtain ⟨a, ha⟩ : ∃ a, a = (x.getD 0 0).toNat := ⟨_, rfl⟩
  obtain ⟨b, hb2⟩ : ∃ b, b = (x.getD 1 0).toNat := ⟨_, rfl⟩
  have a1 : a < 256 := by rw [ha]; exact UInt8.toNat_lt _
  have b1 : b < 256 := by rw [hb2]; exact UInt8.toNat_lt _
  have HV := Lib.hid (show goodN n x = ((wrap64 ((a : Int) + (b : Int) + n)).tmod 4 != 3) by rw [goodN, ha, hb2])
  rw [← ha] at c0
  rw [← hb2] at c1
  have wab : IntKind.i64.wrap ((a : Int) + (b : Int)) = ((a + b : Nat) : Int) := by rw [show (a : Int) + (b : Int) = ((a + b : Nat) : Int) by omega]; exact IntWalk.i64_in _ (by omega)
  have wa : IntKind.i64.wrap (a : Int) = (a : Int) := IntWalk.i64_in _ (by omega)
  have wb : IntKind.i64.wrap (b : Int) = (b : Int) := IntWalk.i64_in _ (by omega)
  rw [HV.out]
  clear hb hx ha hb2 HV
  go_enter Try.func75, Try.ntmps75
  go_upto_region 1 with fail
  rw [← hw1]
  clear hw1
  go_wp2_with fail
  go_ret
  exact ⟨rfl, B1.out⟩
theorem good_enter (args : Array Value) (W : World) : (callFunc 75 args).run Try.prog W = .ok (.enter 75 args) W := by kernel_rfl
set_option maxRecDepth 100000 in
def gG : Gd where
  k := some 75
  f := goodN
  R _ _ _ _ _ _ := True
  none_ h := by cases h
  enter k' h args W := by injection h with h; subst h; exact good_enter args W
  call k' h w n x _ hx := by injection h with h; subst h; exact good_any w n x hx
/-- A sector with two bytes ahead. -/
def secN (x y : UInt8) : List UInt8 := x :: y :: 9 :: List.replicate 125 0
theorem secN_length (x y : UInt8) : (secN x y).length = 128 := by simp [secN]
theorem good_sec (n : Int) (x y : UInt8) : goodN n (secN x y) = ((wrap64 ((x.toNat : Int) + (y.toNat : Int) + n)).tmod 4 != 3) := rfl
end Go.Proofs.Ytnplhagfmfggcaa.Mi
/-
  The contract of the laws' pair: two devices with such first bytes of their sectors, flushed, and their mirror; what they have.
-/
namespace Go.Proofs.Ytnplhagfmfggcaa.Sc
open Go.RowKit Kd Mi
open Mu (LD RetD)
attribute [local go_sem ↓] Go.wp_at_zero Go.wp_at_succ
/-- The sectors of the first k pairs, and noughts behind them. -/
def ahead (l : List (UInt8 × UInt8)) (j k : Nat) : List (List UInt8) := (l.take j).map sec2 ++ List.replicate (k - j) zeroS
theorem ahead_length {l : List (UInt8 × UInt8)} {j k : Nat} (h : j ≤ k) (hk : k ≤ l.length) : (ahead l j k).length = k := by
  rw [ahead, List.length_append, List.length_map, List.length_take, List.length_replicate]; omega
theorem ahead_zero (l : List (UInt8 × UInt8)) (k : Nat) : ahead l 0 k = List.replicate k zeroS := by simp [ahead]
theorem ahead_all (l : List (UInt8 × UInt8)) (k : Nat) : ahead l k k = (l.take k).map sec2 := by simp [ahead]
theorem ahead_set {l : List (UInt8 × UInt8)} {j k : Nat} (h : j < k) (hk : k ≤ l.length) : (ahead l j k).set j (sec2 (l[j]'(by omega))) = ahead l (j + 1) k := by
  have hl : ((l.take j).map sec2).length = j := by rw [List.length_map, List.length_take]; omega
  rw [ahead, List.set_append_right _ _ (by omega), hl, Nat.sub_self, show k - j = (k - (j + 1)) + 1 by omega, List.replicate_succ, List.set_cons_zero, ahead, List.take_succ_eq_append_getElem (by omega), List.map_append, List.append_assoc]
  rfl
theorem secs_take {l : List (UInt8 × UInt8)} {j : Nat} (h : j < l.length) : (l.take j).map sec2 ++ [sec2 l[j]] = (l.take (j + 1)).map sec2 := by
  rw [List.take_succ_eq_append_getElem h, List.map_append]; rfl
theorem build_sec2 (a b : UInt8) : ∀ W, (Instr.build 38 #[(0, .int .u8 (a.toNat : Int)), (1, .int .u8 (b.toNat : Int))]).run Try.prog W = .ok (.agg (bva (sec2 (a, b)))) W := fun _ => by kernel_rfl
theorem secsAV_info : (Try.prog.info? 52).map (·.size) = some 2 := by kernel_rfl
theorem two_set {w W : World} {q r : Nat} {x y z : List UInt8} (h1 : Blk W q (bva z) 38) (h2 : Blk W r (bva z) 38) (hqr : q ≠ r) (hB : Below w.heap.size w W) (hq : w.heap.size ≤ q) (hr : w.heap.size ≤ r) :
    Blk (W.setRow q (bva x)) r (bva z) 38 ∧ Blk ((W.setRow q (bva x)).setRow r (bva y)) q (bva x) 38 ∧ Blk ((W.setRow q (bva x)).setRow r (bva y)) r (bva y) 38 ∧ Below w.heap.size w (W.setRow q (bva x)) ∧ Below w.heap.size w ((W.setRow q (bva x)).setRow r (bva y)) := by
  have b1 : But (fun k => k = q) W (W.setRow q (bva x)) := (But.refl _).setRow (S := fun k => k = q) (.inl rfl) _
  have b2 : But (fun k => k = r) (W.setRow q (bva x)) ((W.setRow q (bva x)).setRow r (bva y)) := (But.refl _).setRow (S := fun k => k = r) (.inl rfl) _
  have c2 : Blk (W.setRow q (bva x)) r (bva z) 38 := h2.but b1 (fun e => hqr e.symm)
  have c1 : Blk (W.setRow q (bva x)) q (bva x) 38 := setRow_heap _ _ _ _ _ _ h1
  exact ⟨c2, c1.but b2 hqr, setRow_heap _ _ _ _ _ _ c2, below_setRow hB hq _, below_setRow (below_setRow hB hq _) hr _⟩
/-- The devices, the box of both rows, and the rows, in pair's loop. -/
structure PS (p g1 g2 sb : Nat) (w w1 wr : World) (S : Sy) (F : Nat → Prop) (L0 L1 : List (List UInt8)) (m : Nat) (cs : Array Value) (U V : Value) (nu nv : Nat) (xs ys : List (List UInt8)) : Prop where
  ld : LD p g1 g2 w1 wr S F L0 L1 false false m
  bx : Bx w1 wr F sb cs 52
  u : RowN w wr F U nu xs
  v : RowN w wr F V nv ys
  us : ∀ q, U.ownBlock = some q → q ≠ sb
  vs : ∀ q, V.ownBlock = some q → q ≠ sb
  uv : ∀ q, U.ownBlock = some q → V.ownBlock = some q → False
section
variable {p g1 g2 sb : Nat} {w w1 wr w' : World} {S S' : Sy} {F F' : Nat → Prop} {L0 L1 L0' L1' : List (List UInt8)} {m m' : Nat} {cs : Array Value} {U V : Value} {nu nv : Nat} {xs ys : List (List UInt8)}
theorem PS.below (h : PS p g1 g2 sb w w1 wr S F L0 L1 m cs U V nu nv xs ys) (hb : Below wr.heap.size wr w') : PS p g1 g2 sb w w1 w' S F L0 L1 m cs U V nu nv xs ys :=
  ⟨h.ld.below hb, h.bx.below hb, h.u.below hb, h.v.below hb, h.us, h.vs, h.uv⟩
theorem PS.dev (h : PS p g1 g2 sb w w1 wr S F L0 L1 m cs U V nu nv xs ys) (hl : LD p g1 g2 w1 w' S' F' L0' L1' false false m') (h1 : ∀ q, F' q → F q ∨ wr.heap.size ≤ q) (h2 : But F wr w') : PS p g1 g2 sb w w1 w' S' F' L0' L1' m' cs U V nu nv xs ys :=
  ⟨hl, ⟨h.bx.1.but h2 h.bx.2.2, h.bx.2.1, fun hf => by
    rcases h1 sb hf with h3 | h3
    · exact h.bx.2.2 h3
    · have := h.bx.1.lt; omega⟩, h.u.step h1 h2, h.v.step h1 h2, h.us, h.vs, h.uv⟩
theorem bx_dev {q : Nat} {T : TypeId} (h : Bx w1 wr F q cs T) (h1 : ∀ q, F' q → F q ∨ wr.heap.size ≤ q) (h2 : But F wr w') : Bx w1 w' F' q cs T :=
  ⟨h.1.but h2 h.2.2, h.2.1, fun hf => by
    rcases h1 q hf with h3 | h3
    · exact h.2.2 h3
    · have := h.1.lt; omega⟩
/-- The devices' own, where other memory changes. -/
theorem ld_but {T : Nat → Prop} (h : LD p g1 g2 w1 wr S F L0 L1 false false m) (hb : But T wr w') (hd : ∀ q, F q → T q → False) (hT : ∀ q, T q → w1.heap.size ≤ q) : LD p g1 g2 w1 w' S F L0 L1 false false m :=
  ⟨⟨(SysL p [g1, g2] 2).but h.live.at_ hb hd, h.live.new, h.live.bel.trans (hb.below (fun k hk hq => by have := hT k hq; omega) h.live.bel.size)⟩, h.d0, h.d1⟩
theorem PS.app {A' : Option Addr} {c' : Nat} {y : List UInt8} (h : PS p g1 g2 sb w w1 wr S F L0 L1 m cs U V nu nv xs ys) (hw : ∀ q, U.ownBlock = some q → w1.heap.size ≤ q) (ho : w'.ownsRow w.heap.size 38 128 (.slice A' (nu + 1) c') (nu + 1) (svs xs ++ bv y))
    (hg : wr.grownBy w' U.ownBlock) (hor : (Value.slice A' (nu + 1) c').ownBlock = U.ownBlock ∨ (Value.slice A' (nu + 1) c').ownBlock = some wr.heap.size) :
    PS p g1 g2 sb w w1 w' S F L0 L1 m cs (.slice A' (nu + 1) c') V (nu + 1) nv (xs ++ [y]) ys ∧ ∀ q, (Value.slice A' (nu + 1) c').ownBlock = some q → w1.heap.size ≤ q := by
  have hT : But (fun q => U.ownBlock = some q) wr w' := (But.refl wr).grown hg (fun _ hq => .inl hq)
  have hF := (SysL p [g1, g2] 2).lt h.ld.live.at_
  have hs := h.ld.live.bel.size
  refine ⟨⟨ld_but h.ld hT (fun q hf hq => h.u.2 q hq hf) hw, ⟨h.bx.1.but hT (fun e => h.us sb e rfl), h.bx.2⟩, h.u.app hF ho hor, ⟨Own.but h.v.1 hT (fun q hq hu => h.uv q hu hq), h.v.2⟩, ?_, h.vs, ?_⟩, ?_⟩
  · intro q hq
    rcases hor with h1 | h1
    · exact h.us q (h1 ▸ hq)
    · rw [h1] at hq; injection hq with hq; have := h.bx.1.lt; omega
  · intro q hq hv
    rcases hor with h1 | h1
    · exact h.uv q (h1 ▸ hq) hv
    · rw [h1] at hq; injection hq with hq; have := (h.v.1.lt q hv).2; omega
  · intro q hq
    rcases hor with h1 | h1
    · exact hw q (h1 ▸ hq)
    · rw [h1] at hq; injection hq with hq; omega
theorem PS.swap (h : PS p g1 g2 sb w w1 wr S F L0 L1 m cs U V nu nv xs ys) : PS p g1 g2 sb w w1 wr S F L0 L1 m cs V U nv nu ys xs := ⟨h.ld, h.bx, h.v, h.u, h.vs, h.us, fun q a b => h.uv q b a⟩
theorem PS.set (h : PS p g1 g2 sb w w1 wr S F L0 L1 m cs U V nu nv xs ys) {cs' : Array Value} (hb : But (fun q => q = sb) wr w') (hc : Blk w' sb cs' 52) : PS p g1 g2 sb w w1 w' S F L0 L1 m cs' U V nu nv xs ys :=
  ⟨ld_but h.ld hb (fun q hf e => h.bx.2.2 (e ▸ hf)) (fun q e => by rw [e]; exact h.bx.2.1), ⟨hc, h.bx.2⟩, ⟨Own.but h.u.1 hb (fun q hq e => h.us q hq e), h.u.2⟩, ⟨Own.but h.v.1 hb (fun q hq e => h.vs q hq e), h.v.2⟩, h.us, h.vs, h.uv⟩
end
theorem rd_new {w1 : World} {y : List UInt8} {g : Nat} (h : Blk w1 g (bva y) 38) : Rd w1.heap.size w1 (some ⟨g, 0, none⟩) (bv y) := fun j v hv => ⟨_, rfl, h.lt, by rw [Addr.add_mid, h.cell, Nat.zero_add]; simpa [bva] using hv⟩
/-- .. and boxes of sectors that are none of the rows. -/
structure RS (p g1 g2 sb : Nat) (w w1 wr : World) (S : Sy) (F : Nat → Prop) (L0 L1 : List (List UInt8)) (m : Nat) (cs : Array Value) (U V : Value) (nu nv : Nat) (xs ys : List (List UInt8)) (bs : List (Nat × List UInt8)) : Prop where
  ps : PS p g1 g2 sb w w1 wr S F L0 L1 m cs U V nu nv xs ys
  bx : ∀ b ∈ bs, Blk wr b.1 (bva b.2) 38 ∧ b.1 ≠ sb ∧ (∀ x, U.ownBlock = some x → x ≠ b.1) ∧ ∀ x, V.ownBlock = some x → x ≠ b.1
  uw : ∀ q, U.ownBlock = some q → w1.heap.size ≤ q
  vw : ∀ q, V.ownBlock = some q → w1.heap.size ≤ q
section
variable {p g1 g2 sb : Nat} {w w1 wr w' : World} {S S' : Sy} {F F' : Nat → Prop} {L0 L1 L0' L1' : List (List UInt8)} {m m' : Nat} {cs cs' : Array Value} {U V : Value} {nu nv : Nat} {xs ys : List (List UInt8)} {bs : List (Nat × List UInt8)}
theorem RS.swap (h : RS p g1 g2 sb w w1 wr S F L0 L1 m cs U V nu nv xs ys bs) : RS p g1 g2 sb w w1 wr S F L0 L1 m cs V U nv nu ys xs bs := ⟨h.ps.swap, fun b hb => ⟨(h.bx b hb).1, (h.bx b hb).2.1, (h.bx b hb).2.2.2, (h.bx b hb).2.2.1⟩, h.vw, h.uw⟩
theorem RS.below (h : RS p g1 g2 sb w w1 wr S F L0 L1 m cs U V nu nv xs ys bs) (hb : Below wr.heap.size wr w') : RS p g1 g2 sb w w1 w' S F L0 L1 m cs U V nu nv xs ys bs := ⟨h.ps.below hb, fun b hm => ⟨(h.bx b hm).1.below hb, (h.bx b hm).2⟩, h.uw, h.vw⟩
theorem RS.add (h : RS p g1 g2 sb w w1 wr S F L0 L1 m cs U V nu nv xs ys bs) (y : List UInt8) : RS p g1 g2 sb w w1 (wr.alloc (.cells (bva y) 38)) S F L0 L1 m cs U V nu nv xs ys ((wr.heap.size, y) :: bs) := by
  have hb : Below wr.heap.size wr (wr.alloc (.cells (bva y) 38)) := (Below.refl _ _).alloc (Nat.le_refl _) _
  refine ⟨h.ps.below hb, fun b hm => ?_, h.uw, h.vw⟩
  rcases List.mem_cons.1 hm with rfl | hm
  · exact ⟨heap_alloc_new _ _, fun e => by have h1 := h.ps.bx.1.lt; rw [← e] at h1; exact Nat.lt_irrefl _ h1, fun x hx e => by have h1 := (h.ps.u.1.lt x hx).2; rw [e] at h1; exact Nat.lt_irrefl _ h1, fun x hx e => by have h1 := (h.ps.v.1.lt x hx).2; rw [e] at h1; exact Nat.lt_irrefl _ h1⟩
  · exact ⟨(h.bx b hm).1.below hb, (h.bx b hm).2⟩
theorem RS.app {A' : Option Addr} {c' : Nat} {y : List UInt8} (h : RS p g1 g2 sb w w1 wr S F L0 L1 m cs U V nu nv xs ys bs) (ho : w'.ownsRow w.heap.size 38 128 (.slice A' (nu + 1) c') (nu + 1) (svs xs ++ bv y))
    (hg : wr.grownBy w' U.ownBlock) (hor : (Value.slice A' (nu + 1) c').ownBlock = U.ownBlock ∨ (Value.slice A' (nu + 1) c').ownBlock = some wr.heap.size) :
    RS p g1 g2 sb w w1 w' S F L0 L1 m cs (.slice A' (nu + 1) c') V (nu + 1) nv (xs ++ [y]) ys bs := by
  obtain ⟨h1, h2⟩ := h.ps.app h.uw ho hg hor
  have hT : But (fun q => U.ownBlock = some q) wr w' := (But.refl wr).grown hg (fun _ hq => .inl hq)
  refine ⟨h1, fun b hm => ?_, h2, h.vw⟩
  obtain ⟨h3, h4, h5, h6⟩ := h.bx b hm
  refine ⟨h3.but hT (fun e => h5 _ e rfl), h4, fun x hx => ?_, h6⟩
  rcases hor with h7 | h7
  · exact h5 x (h7 ▸ hx)
  · rw [h7] at hx; injection hx with hx; have := h3.lt; omega
theorem RS.set (h : RS p g1 g2 sb w w1 wr S F L0 L1 m cs U V nu nv xs ys bs) (j : Nat) (v : Value) (hc : cs.setIfInBounds j v = cs') : RS p g1 g2 sb w w1 (wr.setCell ⟨sb, j, none⟩ v) S F L0 L1 m cs' U V nu nv xs ys bs := by
  have hb : But (fun q => q = sb) wr (wr.setCell ⟨sb, j, none⟩ v) := but_one v
  refine ⟨h.ps.set hb (by rw [← hc]; exact heap_setCell_same _ _ _ _ _ _ h.ps.bx.1), fun b hm => ?_, h.uw, h.vw⟩
  obtain ⟨h3, h4, h5⟩ := h.bx b hm
  exact ⟨h3.but hb h4, h4, h5⟩
end
theorem results_pair {P : Program} {fn : Func} {p1 p2 p3 p : Tmp} {ty : TypeId} (h : fn.results = #[.tmp p1, .tmp p2, .tmp p3, .cell p ty]) (tmps : Array Value) (w : World) (g : Nat) (cs : Array Value) {d : TypeDesc} {x1 x2 x3 : Value}
    (h1 : tmps.getD p1 undef = x1) (h2 : tmps.getD p2 undef = x2) (h3 : tmps.getD p3 undef = x3) (hp : tmps.getD p undef = .pointer (some ⟨g, 0, none⟩)) (hg : Blk w g cs ty)
    (hu : P.underlying ty = some d) (hd : (match d with | .struct _ | .array _ _ => true | _ => false) = true) (hi : (P.info? ty).map (·.size) = some cs.size) :
    (results fn tmps).run P w = .ok (.tuple #[x1, x2, x3, .agg cs]) w := by
  have hp' : tmps[p]?.getD undef = .pointer (some ⟨g, 0, none⟩) := by simpa using hp
  have h1' : tmps[p1]?.getD undef = x1 := by simpa using h1
  have h2' : tmps[p2]?.getD undef = x2 := by simpa using h2
  have h3' : tmps[p3]?.getD undef = x3 := by simpa using h3
  simp [results, h, hp', h1', h2', h3', asAddr, run_loadVar_row w g ty ty cs (0, 0) d hg hu hd hi]
/-- What pair makes. -/
def PairR (L0 L1 : List (List UInt8)) (k : Nat) (w : World) (e : Ending) (w' : World) : Prop :=
  ∃ (p g1 g2 g : Nat) (s : Mr (Mu.one p g1 g2)) (F : Nat → Prop) (U V : Option Addr) (c d : Nat), e = .returned (.tuple #[.pointer (some ⟨g1, 0, none⟩), .pointer (some ⟨g2, 0, none⟩), .pointer (some ⟨g, 0, none⟩), .agg #[.slice U k c, .slice V k d]]) ∧
    Mu.LM p g1 g2 gG g w w' s F ⟨L0, L1, false, false, List.replicate k false, List.replicate k false⟩ 0 ∧ RowN w w' F (.slice U k c) k L0 ∧ RowN w w' F (.slice V k d) k L1
set_option maxRecDepth 100000 in
set_option maxHeartbeats 25600000 in
theorem pair_any (w : World) {B : Nat} (hB : B ≤ w.heap.size) {A D : Option Addr} {n m c d : Nat} {l r : List (UInt8 × UInt8)} (hl : l.length = n) (hr : r.length = m) (ha : Rd B w A (prs l)) (hd : Rd B w D (prs r)) (hn : n ≤ 12) (hm : m ≤ 12) :
    Calls Try.prog 25 #[.slice A n c, .slice D m d] w (PairR ((l.take (min n m)).map sec2) ((r.take (min n m)).map sec2) (min n m) w) := by
  obtain ⟨k, hk⟩ : ∃ k, k = min n m := ⟨_, rfl⟩
  rw [← hk]
  have hkm : (if m < n then (m : Int) else (n : Int)) = (k : Int) := by rw [hk]; split <;> omega
  have HKN := Lib.hid (show k ≤ l.length ∧ k ≤ r.length ∧ k ≤ 12 ∧ k ≤ n ∧ k ≤ m by omega)
  have HA := Lib.hid (show ∀ w', Below w.heap.size w w' → Rd B w' A (prs l) from fun w' h => ha.below (h.mono hB))
  have HD := Lib.hid (show ∀ w', Below w.heap.size w w' → Rd B w' D (prs r) from fun w' h => hd.below (h.mono hB))
  have HKM := Lib.hid hkm
  obtain ⟨z, hz0⟩ : ∃ z : List UInt8, z = zeroS := ⟨_, rfl⟩
  have hz : ∀ W, (zeroValue 38).run Try.prog W = .ok (.agg (bva z)) W := fun _ => by rw [hz0]; kernel_rfl
  have HZ3 := Lib.hid (show z.length = 128 by rw [hz0]; exact zeroS_length)
  clear hz0 hkm hk hn hm ha hd hB hl hr
  obtain ⟨w1, hw1⟩ : ∃ w1, w1 = w.alloc (.cells #[.slice none 0 0, .slice none 0 0] 52) := ⟨_, rfl⟩
  have B1 := Lib.hid (show Below w.heap.size w w1 by rw [hw1]; exact (Below.refl _ _).alloc (Nat.le_refl _) _)
  have R1 := Lib.hid (show Blk w1 w.heap.size #[.slice none 0 0, .slice none 0 0] 52 by rw [hw1]; exact heap_alloc_new _ _)
  go_enter Try.func25, Try.ntmps25
  go_upto_region 1 with fail
  rw [← hw1]
  clear hw1
  obtain ⟨b, hb⟩ : ∃ b, b = w.heap.size := ⟨_, rfl⟩
  rw [← hb] at R1
  rw [← hb]
  have HBB := Lib.hid (show w.heap.size ≤ b by omega)
  clear hb
  go_wp2_with fail
  refine live_power.mono ?_
  rintro e w2 ⟨p, rfl, F2, h⟩
  have H2 := Lib.hid h
  have R1' := R1
  clear h R1
  go_upto_region 3 with fail
  rw [HKM.out]
  go_wp2_with fail
  refine (live_new H2.out (by decide) (k : Int)).mono ?_
  rintro e w3 ⟨g1, rfl, F3, h, hf3, hb3⟩
  have H3 := Lib.hid h
  clear h hf3 hb3 H2
  go_wp2_with fail
  refine (live_new H3.out (by show 1 < 1000; omega) (k : Int)).mono ?_
  rintro e w4 ⟨g2, rfl, F4, h, hf4, hb4⟩
  have hsee := Mu.see_new k (by have := HKN.out; omega)
  have H4 := Lib.hid (Mu.ld_new (g1 := g1) (g2 := g2) h hsee.1 hsee.2)
  clear h hf4 hb4 H3 hsee
  go_upto_region 5 with fail
  obtain ⟨w5, hw5⟩ : ∃ w5, w5 = w4.alloc (.cells #[.slice none 0 0, .slice none 0 0] 52) := ⟨_, rfl⟩
  rw [← hw5]
  obtain ⟨sb, hsb⟩ : ∃ sb, sb = w4.heap.size := ⟨_, rfl⟩
  rw [← hsb]
  have B5 := Lib.hid (show Below w4.heap.size w4 w5 by rw [hw5]; exact (Below.refl _ _).alloc (Nat.le_refl _) _)
  have PS0 := Lib.hid (show PS p g1 g2 sb w w1 w5 _ F4 (ahead l 0 k) (ahead r 0 k) (2 * 0) #[.slice none 0 0, .slice none 0 0] (.slice none 0 0) (.slice none 0 0) 0 0 ((l.take 0).map sec2) ((r.take 0).map sec2) from
    ⟨by rw [ahead_zero, ahead_zero]; exact H4.out.below B5.out, ⟨by rw [hw5, hsb]; exact heap_alloc_new _ _, by rw [hsb]; exact H4.out.live.bel.size, fun hf => by have := (SysL p [g1, g2] 2).lt H4.out.live.at_ sb hf; omega⟩, rowN_nil, rowN_nil, fun q hq => (by cases hq), fun q hq => (by cases hq), fun q hq => (by cases hq)⟩)
  clear hw5 hsb H4
  go_wp2_with fail
  go_loopw [29] (fun i wr => ∃ (j : Nat) (S : Sy) (F : Nat → Prop) (U V : Option Addr) (cu cv : Nat), j ≤ k ∧ i = .int .i64 j ∧ PS p g1 g2 sb w w1 wr S F (ahead l j k) (ahead r j k) (2 * j) #[.slice U j cu, .slice V j cv] (.slice U j cu) (.slice V j cv) j j ((l.take j).map sec2) ((r.take j).map sec2) ∧ (∀ q, (Value.slice U j cu).ownBlock = some q → w1.heap.size ≤ q) ∧ (∀ q, (Value.slice V j cv).ownBlock = some q → w1.heap.size ≤ q)) (fun i _ => k - (intOf i).toNat)
  case atStart => exact ⟨0, _, F4, none, none, 0, 0, Nat.zero_le _, rfl, PS0.out, fun q hq => (by cases hq), fun q hq => (by cases hq)⟩
  case round =>
    clear PS0 B5
    obtain ⟨j, S, F, U, V, cu, cv, hj, rfl, hps, hu, hv⟩ := hrel
    have P0 := Lib.hid hps
    have HU := Lib.hid hu
    have HV := Lib.hid hv
    have HJ := Lib.hid hj
    have HW0 := Lib.hid (show Below w.heap.size w wr from B1.out.trans (hps.ld.live.bel.mono B1.out.size))
    clear hps hu hv hj
    by_cases hlt : j < k
    · have HLT := Lib.hid hlt
      have j0 : (0 : Int) ≤ (j : Int) := by omega
      have j1 : (j : Int) < (k : Int) := by omega
      have jn : (j : Int) < (n : Int) := by have := HKN.out; omega
      have jm : (j : Int) < (m : Int) := by have := HKN.out; omega
      have hjn : j < l.length ∧ j < r.length := by have := HKN.out; omega
      have wj : IntKind.i64.wrap ((j : Int) + 1) = ((j + 1 : Nat) : Int) := IntWalk.i64_in _ (by have := HKN.out; omega)
      obtain ⟨x, hx⟩ : ∃ x, x = l[j] := ⟨_, rfl⟩
      obtain ⟨y, hy⟩ : ∃ y, y = r[j] := ⟨_, rfl⟩
      obtain ⟨ad, hA1, hz1, hz2⟩ := rd_pair (HA.out wr HW0.out) hjn.1
      obtain ⟨ae, hA2, hz3, hz4⟩ := rd_pair (HD.out wr HW0.out) hjn.2
      subst hA1 hA2
      rw [← hx] at hz2
      rw [← hy] at hz4
      have HC1 := Lib.hid (show ∀ w', Below wr.heap.size wr w' → w'.cell? (ad.add (j * 2)) = some (.int .u8 (x.1.toNat : Int)) ∧ w'.cell? ⟨(ad.add (j * 2)).block, (ad.add (j * 2)).off + 1, none⟩ = some (.int .u8 (x.2.toNat : Int)) from fun w' hb => by
        obtain ⟨a2, h1, _, h2⟩ := rd_pair (HA.out w' (HW0.out.trans (hb.mono HW0.out.size))) hjn.1
        injection h1 with h1; subst h1
        rw [← hx] at h2
        exact ⟨h2 0 _ rfl, h2 1 _ rfl⟩)
      have HC2 := Lib.hid (show ∀ w', Below wr.heap.size wr w' → w'.cell? (ae.add (j * 2)) = some (.int .u8 (y.1.toNat : Int)) ∧ w'.cell? ⟨(ae.add (j * 2)).block, (ae.add (j * 2)).off + 1, none⟩ = some (.int .u8 (y.2.toNat : Int)) from fun w' hb => by
        obtain ⟨a2, h1, _, h2⟩ := rd_pair (HD.out w' (HW0.out.trans (hb.mono HW0.out.size))) hjn.2
        injection h1 with h1; subst h1
        rw [← hy] at h2
        exact ⟨h2 0 _ rfl, h2 1 _ rfl⟩)
      have HSX := Lib.hid (show (ahead l j k).set j (sec2 x) = ahead l (j + 1) k by rw [hx]; exact ahead_set HLT.out HKN.out.1)
      have HSY := Lib.hid (show (ahead r j k).set j (sec2 y) = ahead r (j + 1) k by rw [hy]; exact ahead_set HLT.out HKN.out.2.1)
      have HTX := Lib.hid (show (l.take j).map sec2 ++ [sec2 x] = (l.take (j + 1)).map sec2 by rw [hx]; exact secs_take hjn.1)
      have HTY := Lib.hid (show (r.take j).map sec2 ++ [sec2 y] = (r.take (j + 1)).map sec2 by rw [hy]; exact secs_take hjn.2)
      obtain ⟨u, hu⟩ : ∃ u, u = sec2 x := ⟨_, rfl⟩
      obtain ⟨v, hv⟩ : ∃ v, v = sec2 y := ⟨_, rfl⟩
      have HBU := Lib.hid (show ∀ W, (Instr.build 38 #[(0, .int .u8 (x.1.toNat : Int)), (1, .int .u8 (x.2.toNat : Int))]).run Try.prog W = .ok (.agg (bva u)) W from by rw [hu]; exact build_sec2 x.1 x.2)
      have HBV := Lib.hid (show ∀ W, (Instr.build 38 #[(0, .int .u8 (y.1.toNat : Int)), (1, .int .u8 (y.2.toNat : Int))]).run Try.prog W = .ok (.agg (bva v)) W from by rw [hv]; exact build_sec2 y.1 y.2)
      have HU3 := Lib.hid (show u.length = 128 by rw [hu]; exact sec2_length _)
      have HV3 := Lib.hid (show v.length = 128 by rw [hv]; exact sec2_length _)
      have HIU : Hid ((Try.prog.info? 38).map (·.size) = some (bva u).size) := by rw [bva_size, HU3.out]; exact info_sec
      have HIV : Hid ((Try.prog.info? 38).map (·.size) = some (bva v).size) := by rw [bva_size, HV3.out]; exact info_sec
      rw [← hu] at HSX HTX
      rw [← hv] at HSY HTY
      clear hz1 hz2 hz3 hz4 hlt hx hy hu hv hjn
      go_wp2_with fail
      go_upto_region 8 with fail
      go_cut [14, 15] (fun a14 a15 wx => ∃ q q', a14 = .pointer (some ⟨q, 0, none⟩) ∧ a15 = .pointer (some ⟨q', 0, none⟩) ∧ Blk wx q (bva u) 38 ∧ Blk wx q' (bva v) 38 ∧ wr.heap.size ≤ q ∧ wr.heap.size ≤ q' ∧ Below wr.heap.size wr wx)
      case first =>
        go_wp2_with fail
        refine wp_region_held_drew (S := fun w' => Below wr.heap.size wr w') (by kernel_rfl) (Below.refl _ _).drew (fun hh => ?_)
        have HH := Lib.hid hh
        clear hh
        refine wpAnyH_take (i := 0) (v := ?vP0) rfl (by kernel_rfl) (by kernel_rfl) (by kernel_rfl) (fun _ _ _ h => h) (Or.inl ⟨by rfl, fun w' _ => ?yP0⟩) HH.out ?_
        case yP0 => (go_simp; try with_reducible rfl)
        refine wpAnyH_take (i := 1) (v := ?vP1) rfl (by kernel_rfl) (by kernel_rfl) (by kernel_rfl) (fun _ _ _ h => h) (Or.inl ⟨by rfl, fun w' _ => ?yP1⟩) HH.out ?_
        case yP1 => (go_simp; try with_reducible rfl)
        try simp only [List.getElem_toArray, List.getElem_cons_succ, List.getElem_cons_zero, Act.put, List.setIfInBounds_toArray, List.set_cons_zero, List.set_cons_succ]
        refine wpAnyH_take (i := 2) (v := ?vP2) rfl (by kernel_rfl) (by kernel_rfl) (by kernel_rfl) (fun _ _ _ h => h) (Or.inl ⟨by rfl, fun w' _ => ?yP2⟩) HH.out ?_
        case yP2 => (go_simp; try with_reducible rfl)
        refine wpAnyH_take (i := 3) (v := ?vP3) rfl (by kernel_rfl) (by kernel_rfl) (by kernel_rfl) (fun _ _ _ h => h) (Or.inl ⟨by rfl, fun w' _ => ?yP3⟩) HH.out ?_
        case yP3 => (go_simp; try with_reducible rfl)
        refine wpAnyH_take (i := 4) (v := .int .u8 (x.1.toNat : Int)) rfl (by kernel_rfl) (by kernel_rfl) (by kernel_rfl) (fun _ _ _ h => h) (Or.inl ⟨by rfl, fun w' hw' => ?yP4⟩) HH.out ?_
        case yP4 => (have hc := (HC1.out w' hw').1; go_simp; try with_reducible rfl)
        try simp only [List.getElem_toArray, List.getElem_cons_succ, List.getElem_cons_zero, Act.put, List.setIfInBounds_toArray, List.set_cons_zero, List.set_cons_succ]
        refine wpAnyH_take (i := 5) (v := ?vP5) rfl (by kernel_rfl) (by kernel_rfl) (by kernel_rfl) (fun _ _ _ h => h) (Or.inl ⟨by rfl, fun w' _ => ?yP5⟩) HH.out ?_
        case yP5 => (go_simp; try with_reducible rfl)
        refine wpAnyH_take (i := 6) (v := ?vP6) rfl (by kernel_rfl) (by kernel_rfl) (by kernel_rfl) (fun _ _ _ h => h) (Or.inl ⟨by rfl, fun w' _ => ?yP6⟩) HH.out ?_
        case yP6 => (go_simp; try with_reducible rfl)
        refine wpAnyH_take (i := 7) (v := ?vP7) rfl (by kernel_rfl) (by kernel_rfl) (by kernel_rfl) (fun _ _ _ h => h) (Or.inl ⟨by rfl, fun w' _ => ?yP7⟩) HH.out ?_
        case yP7 => (go_simp; try with_reducible rfl)
        try simp only [List.getElem_toArray, List.getElem_cons_succ, List.getElem_cons_zero, Act.put, List.setIfInBounds_toArray, List.set_cons_zero, List.set_cons_succ]
        refine wpAnyH_take (i := 8) (v := ?vP8) rfl (by kernel_rfl) (by kernel_rfl) (by kernel_rfl) (fun _ _ _ h => h) (Or.inl ⟨by rfl, fun w' _ => ?yP8⟩) HH.out ?_
        case yP8 => (go_simp; try with_reducible rfl)
        refine wpAnyH_take (i := 9) (v := .int .u8 (x.2.toNat : Int)) rfl (by kernel_rfl) (by kernel_rfl) (by kernel_rfl) (fun _ _ _ h => h) (Or.inl ⟨by rfl, fun w' hw' => ?yP9⟩) HH.out ?_
        case yP9 => (have hc := (HC1.out w' hw').2; go_simp; try with_reducible rfl)
        refine wpAnyH_take (i := 10) (v := .agg (bva u)) rfl (by kernel_rfl) (by kernel_rfl) (by kernel_rfl) (fun _ _ _ h => h) (Or.inl ⟨by rfl, fun w' hw' => ?yP10⟩) HH.out ?_
        case yP10 => exact exec_build 38 #[(0, .tmp 36), (1, .tmp 41)] rfl (by simp only [List.map_toArray, List.map_cons, List.map_nil]; exact HBU.out _)
        try simp only [List.getElem_toArray, List.getElem_cons_succ, List.getElem_cons_zero, Act.put, List.setIfInBounds_toArray, List.set_cons_zero, List.set_cons_succ]
        refine wpAnyH_take (i := 11) (v := ?vP11) rfl (by kernel_rfl) (by kernel_rfl) (by kernel_rfl) (fun _ _ _ h => h) (Or.inl ⟨by rfl, fun w' _ => ?yP11⟩) HH.out ?_
        case yP11 => (go_simp; try with_reducible rfl)
        refine wpAnyH_take (i := 12) (v := ?vP12) rfl (by kernel_rfl) (by kernel_rfl) (by kernel_rfl) (fun _ _ _ h => h) (Or.inl ⟨by rfl, fun w' _ => ?yP12⟩) HH.out ?_
        case yP12 => (go_simp; try with_reducible rfl)
        refine wpAnyH_take (i := 13) (v := ?vP13) rfl (by kernel_rfl) (by kernel_rfl) (by kernel_rfl) (fun _ _ _ h => h) (Or.inl ⟨by rfl, fun w' _ => ?yP13⟩) HH.out ?_
        case yP13 => (go_simp; try with_reducible rfl)
        try simp only [List.getElem_toArray, List.getElem_cons_succ, List.getElem_cons_zero, Act.put, List.setIfInBounds_toArray, List.set_cons_zero, List.set_cons_succ]
        refine wpAnyH_take (i := 14) (v := ?vP14) rfl (by kernel_rfl) (by kernel_rfl) (by kernel_rfl) (fun _ _ _ h => h) (Or.inl ⟨by rfl, fun w' _ => ?yP14⟩) HH.out ?_
        case yP14 => (go_simp; try with_reducible rfl)
        refine wpAnyH_take (i := 15) (v := .int .u8 (y.1.toNat : Int)) rfl (by kernel_rfl) (by kernel_rfl) (by kernel_rfl) (fun _ _ _ h => h) (Or.inl ⟨by rfl, fun w' hw' => ?yP15⟩) HH.out ?_
        case yP15 => (have hc := (HC2.out w' hw').1; go_simp; try with_reducible rfl)
        refine wpAnyH_take (i := 16) (v := ?vP16) rfl (by kernel_rfl) (by kernel_rfl) (by kernel_rfl) (fun _ _ _ h => h) (Or.inl ⟨by rfl, fun w' _ => ?yP16⟩) HH.out ?_
        case yP16 => (go_simp; try with_reducible rfl)
        try simp only [List.getElem_toArray, List.getElem_cons_succ, List.getElem_cons_zero, Act.put, List.setIfInBounds_toArray, List.set_cons_zero, List.set_cons_succ]
        refine wpAnyH_take (i := 17) (v := ?vP17) rfl (by kernel_rfl) (by kernel_rfl) (by kernel_rfl) (fun _ _ _ h => h) (Or.inl ⟨by rfl, fun w' _ => ?yP17⟩) HH.out ?_
        case yP17 => (go_simp; try with_reducible rfl)
        refine wpAnyH_take (i := 18) (v := ?vP18) rfl (by kernel_rfl) (by kernel_rfl) (by kernel_rfl) (fun _ _ _ h => h) (Or.inl ⟨by rfl, fun w' _ => ?yP18⟩) HH.out ?_
        case yP18 => (go_simp; try with_reducible rfl)
        refine wpAnyH_take (i := 19) (v := ?vP19) rfl (by kernel_rfl) (by kernel_rfl) (by kernel_rfl) (fun _ _ _ h => h) (Or.inl ⟨by rfl, fun w' _ => ?yP19⟩) HH.out ?_
        case yP19 => (go_simp; try with_reducible rfl)
        try simp only [List.getElem_toArray, List.getElem_cons_succ, List.getElem_cons_zero, Act.put, List.setIfInBounds_toArray, List.set_cons_zero, List.set_cons_succ]
        refine wpAnyH_take (i := 20) (v := .int .u8 (y.2.toNat : Int)) rfl (by kernel_rfl) (by kernel_rfl) (by kernel_rfl) (fun _ _ _ h => h) (Or.inl ⟨by rfl, fun w' hw' => ?yP20⟩) HH.out ?_
        case yP20 => (have hc := (HC2.out w' hw').2; go_simp; try with_reducible rfl)
        refine wpAnyH_take (i := 21) (v := .agg (bva v)) rfl (by kernel_rfl) (by kernel_rfl) (by kernel_rfl) (fun _ _ _ h => h) (Or.inl ⟨by rfl, fun w' hw' => ?yP21⟩) HH.out ?_
        case yP21 => exact exec_build 38 #[(0, .tmp 47), (1, .tmp 52)] rfl (by simp only [List.map_toArray, List.map_cons, List.map_nil]; exact HBV.out _)
        try simp only [List.getElem_toArray, List.getElem_cons_succ, List.getElem_cons_zero, Act.put, List.setIfInBounds_toArray, List.set_cons_zero, List.set_cons_succ]
        refine wpAnyH_ready (rs := [22, 23]) (by kernel_rfl) (by simp) (AllReadyH.cons rfl (fun K hK => ?_) (AllReadyH.cons rfl (fun K hK => ?_) AllReadyH.nil))
        · go_simp
          refine hK.out _ _ ((Below.refl wr.heap.size wr).drew.alloc (Nat.le_refl _) (.cells (bva z) 38)) (fun hh => ?_)
          have HH' := Lib.hid hh
          clear hh hK K HH
          have HH := Lib.hid HH'.out
          clear HH'
          refine wpAnyH_ready (rs := [23]) (by kernel_rfl) (by simp) (AllReadyH.cons rfl (fun K hK => ?_) AllReadyH.nil)
          go_simp
          refine hK.out _ _ (((Below.refl wr.heap.size wr).drew.alloc (Nat.le_refl _) (.cells (bva z) 38)).alloc ((Below.refl wr.heap.size wr).drew.alloc (Nat.le_refl _) (.cells (bva z) 38)).size (.cells (bva z) 38)) (fun hh => ?_)
          have HH' := Lib.hid hh
          clear hh hK K HH
          have HH := Lib.hid HH'.out
          clear HH'
          have hA : Blk ((wr.drew.alloc (.cells (bva z) 38)).alloc (.cells (bva z) 38)) wr.heap.size (bva z) 38 := Blk.below (w := (wr.drew.alloc (.cells (bva z) 38))) (heap_alloc_new _ _) ((Below.refl _ _).alloc (Nat.le_refl _) _)
          have hsz : (wr.drew.alloc (.cells (bva z) 38)).heap.size = wr.heap.size + 1 := Array.size_push _
          have hB : Blk ((wr.drew.alloc (.cells (bva z) 38)).alloc (.cells (bva z) 38)) (wr.heap.size + 1) (bva z) 38 := by rw [← hsz]; exact heap_alloc_new _ _
          have hne : wr.heap.size ≠ (wr.heap.size + 1) := by omega
          obtain ⟨h1, h2, h3, h4, h5⟩ := two_set (w := wr) (x := u) (y := v) hA hB hne (((Below.refl wr.heap.size wr).drew.alloc (Nat.le_refl _) (.cells (bva z) 38)).alloc ((Below.refl wr.heap.size wr).drew.alloc (Nat.le_refl _) (.cells (bva z) 38)).size (.cells (bva z) 38)) (Nat.le_refl _) (Nat.le_succ _)
          try simp only [List.getElem_toArray, List.getElem_cons_succ, List.getElem_cons_zero, Act.put, List.setIfInBounds_toArray, List.set_cons_zero, List.set_cons_succ]
          refine wpAnyH_ready (rs := [24]) (by kernel_rfl) (by simp) (AllReadyH.cons rfl (fun K hK => ?_) AllReadyH.nil)
          rw [if_pos (by rfl)]
          refine wp_store_row 38 (.tmp 14) (.tmp 42) rfl (wr.heap.size) (bva u) rfl rfl 38 (bva z) hA HIU.out (by rw [bva_size, bva_size, HU3.out, HZ3.out]) (bva_one _) ?_
          refine hK.out _ _ h4 (fun hh => ?_)
          have HH' := Lib.hid hh
          clear hh hK K HH
          have HH := Lib.hid HH'.out
          clear HH'
          try simp only [List.getElem_toArray, List.getElem_cons_succ, List.getElem_cons_zero, Act.put]
          refine wpAnyH_ready (rs := [25]) (by kernel_rfl) (by simp) (AllReadyH.cons rfl (fun K hK => ?_) AllReadyH.nil)
          rw [if_pos (by rfl)]
          refine wp_store_row 38 (.tmp 15) (.tmp 53) rfl ((wr.heap.size + 1)) (bva v) rfl rfl 38 (bva z) h1 HIV.out (by rw [bva_size, bva_size, HV3.out, HZ3.out]) (bva_one _) ?_
          refine hK.out _ _ h5 (fun hh => ?_)
          have HH' := Lib.hid hh
          clear hh hK K HH
          have HH := Lib.hid HH'.out
          clear HH'
          try simp only [List.getElem_toArray, List.getElem_cons_succ, List.getElem_cons_zero, Act.put]
          refine wpAnyH_done (by kernel_rfl) ?_ _
          go_wp2_with fail
          go_meet
          exact ⟨wr.heap.size, (wr.heap.size + 1), rfl, rfl, h2, h3, Nat.le_refl _, Nat.le_succ _, h5⟩
        · go_simp
          refine hK.out _ _ ((Below.refl wr.heap.size wr).drew.alloc (Nat.le_refl _) (.cells (bva z) 38)) (fun hh => ?_)
          have HH' := Lib.hid hh
          clear hh hK K HH
          have HH := Lib.hid HH'.out
          clear HH'
          refine wpAnyH_ready (rs := [22]) (by kernel_rfl) (by simp) (AllReadyH.cons rfl (fun K hK => ?_) AllReadyH.nil)
          go_simp
          refine hK.out _ _ (((Below.refl wr.heap.size wr).drew.alloc (Nat.le_refl _) (.cells (bva z) 38)).alloc ((Below.refl wr.heap.size wr).drew.alloc (Nat.le_refl _) (.cells (bva z) 38)).size (.cells (bva z) 38)) (fun hh => ?_)
          have HH' := Lib.hid hh
          clear hh hK K HH
          have HH := Lib.hid HH'.out
          clear HH'
          have hA : Blk ((wr.drew.alloc (.cells (bva z) 38)).alloc (.cells (bva z) 38)) wr.heap.size (bva z) 38 := Blk.below (w := (wr.drew.alloc (.cells (bva z) 38))) (heap_alloc_new _ _) ((Below.refl _ _).alloc (Nat.le_refl _) _)
          have hsz : (wr.drew.alloc (.cells (bva z) 38)).heap.size = wr.heap.size + 1 := Array.size_push _
          have hB : Blk ((wr.drew.alloc (.cells (bva z) 38)).alloc (.cells (bva z) 38)) (wr.heap.size + 1) (bva z) 38 := by rw [← hsz]; exact heap_alloc_new _ _
          have hne : wr.heap.size ≠ (wr.heap.size + 1) := by omega
          obtain ⟨h1, h2, h3, h4, h5⟩ := two_set (w := wr) (x := u) (y := v) hB hA (fun e => hne e.symm) (((Below.refl wr.heap.size wr).drew.alloc (Nat.le_refl _) (.cells (bva z) 38)).alloc ((Below.refl wr.heap.size wr).drew.alloc (Nat.le_refl _) (.cells (bva z) 38)).size (.cells (bva z) 38)) (Nat.le_succ _) (Nat.le_refl _)
          try simp only [List.getElem_toArray, List.getElem_cons_succ, List.getElem_cons_zero, Act.put, List.setIfInBounds_toArray, List.set_cons_zero, List.set_cons_succ]
          refine wpAnyH_ready (rs := [24]) (by kernel_rfl) (by simp) (AllReadyH.cons rfl (fun K hK => ?_) AllReadyH.nil)
          rw [if_pos (by rfl)]
          refine wp_store_row 38 (.tmp 14) (.tmp 42) rfl ((wr.heap.size + 1)) (bva u) rfl rfl 38 (bva z) hB HIU.out (by rw [bva_size, bva_size, HU3.out, HZ3.out]) (bva_one _) ?_
          refine hK.out _ _ h4 (fun hh => ?_)
          have HH' := Lib.hid hh
          clear hh hK K HH
          have HH := Lib.hid HH'.out
          clear HH'
          try simp only [List.getElem_toArray, List.getElem_cons_succ, List.getElem_cons_zero, Act.put]
          refine wpAnyH_ready (rs := [25]) (by kernel_rfl) (by simp) (AllReadyH.cons rfl (fun K hK => ?_) AllReadyH.nil)
          rw [if_pos (by rfl)]
          refine wp_store_row 38 (.tmp 15) (.tmp 53) rfl (wr.heap.size) (bva v) rfl rfl 38 (bva z) h1 HIV.out (by rw [bva_size, bva_size, HV3.out, HZ3.out]) (bva_one _) ?_
          refine hK.out _ _ h5 (fun hh => ?_)
          have HH' := Lib.hid hh
          clear hh hK K HH
          have HH := Lib.hid HH'.out
          clear HH'
          try simp only [List.getElem_toArray, List.getElem_cons_succ, List.getElem_cons_zero, Act.put]
          refine wpAnyH_done (by kernel_rfl) ?_ _
          go_wp2_with fail
          go_meet
          exact ⟨(wr.heap.size + 1), wr.heap.size, rfl, rfl, h2, h3, Nat.le_succ _, Nat.le_refl _, h5⟩
      case rest =>
        obtain ⟨q, q', rfl, rfl, hq, hq', hs, hs', hb⟩ := hcut
        have P1 := Lib.hid (P0.out.below hb)
        have HQU := Lib.hid (show (∀ x, (Value.slice U j cu).ownBlock = some x → x ≠ q ∧ x ≠ q') ∧ (∀ x, (Value.slice V j cv).ownBlock = some x → x ≠ q ∧ x ≠ q') ∧ q ≠ sb ∧ q' ≠ sb from
          ⟨fun x hx => by have := (P0.out.u.1.lt x hx).2; exact ⟨by omega, by omega⟩, fun x hx => by have := (P0.out.v.1.lt x hx).2; exact ⟨by omega, by omega⟩, by have := P0.out.bx.1.lt; omega, by have := P0.out.bx.1.lt; omega⟩)
        have hF := (SysL p [g1, g2] 2).lt P0.out.ld.live.at_
        have Q1 := Lib.hid (show Bx w1 wc F q (bva u) 38 from ⟨hq, Nat.le_trans P0.out.ld.live.bel.size hs, fun hf => by have := hF q hf; omega⟩)
        have Q1' := Lib.hid (show Bx w1 wc F q' (bva v) 38 from ⟨hq', Nat.le_trans P0.out.ld.live.bel.size hs', fun hf => by have := hF q' hf; omega⟩)
        clear hq hq' hs hs' hb hF P0 HC1 HC2 HW0
        go_wp2_with (first
          | (refine wpList_load_row rfl 38 (.tmp 14) rfl _ rfl 38 (bva u) (0, 0) _ Q1.out.1 Try.underlying38 rfl HIU.out ?_))
        refine (Mu.ld_write0 P1.out.ld j (by rw [ahead_length (by have := HLT.out; omega) HKN.out.1]; exact HLT.out) u HU3.out (by have := HLT.out; have := HKN.out; omega)).mono ?_
        rintro e w6 ⟨rfl, S6, F6, h6, hf6, hb6⟩
        rw [HSX.out] at h6
        have P6 := Lib.hid (P1.out.dev h6 hf6 hb6)
        have Q6 := Lib.hid (bx_dev Q1.out hf6 hb6)
        have Q6' := Lib.hid (bx_dev Q1'.out hf6 hb6)
        clear h6 hf6 hb6 P1 Q1 Q1'
        go_wp2_with (first
          | (refine wpList_load_row rfl 38 (.tmp 15) rfl _ rfl 38 (bva v) (0, 0) _ Q6'.out.1 Try.underlying38 rfl HIV.out ?_))
        refine (Mu.ld_write1 P6.out.ld j (by rw [ahead_length (by have := HLT.out; omega) HKN.out.2.1]; exact HLT.out) v HV3.out (by have := HLT.out; have := HKN.out; omega)).mono ?_
        rintro e w7 ⟨rfl, S7, F7, h7, hf7, hb7⟩
        rw [HSY.out] at h7
        have P7 := Lib.hid (P6.out.dev h7 hf7 hb7)
        have Q7 := Lib.hid (bx_dev Q6.out hf7 hb7)
        have Q7' := Lib.hid (bx_dev Q6'.out hf7 hb7)
        clear h7 hf7 hb7 P6 Q6 Q6'
        go_upto_region 11 with fail
        have G0 := Lib.hid (show RS p g1 g2 sb w w1 w7.drew S7 F7 (ahead l (j + 1) k) (ahead r (j + 1) k) (2 * j + 1 + 1) #[.slice U j cu, .slice V j cv] (.slice U j cu) (.slice V j cv) j j ((l.take j).map sec2) ((r.take j).map sec2) [(q, u), (q', v)] from
          ⟨P7.out.below (Below.refl _ _).drew, fun b hb => by
            rcases List.mem_cons.1 hb with rfl | hb
            · exact ⟨(Q7.out.below (Below.refl _ _).drew).1, HQU.out.2.2.1, fun x hx => (HQU.out.1 x hx).1, fun x hx => (HQU.out.2.1 x hx).1⟩
            · rw [List.mem_singleton] at hb; subst hb
              exact ⟨(Q7'.out.below (Below.refl _ _).drew).1, HQU.out.2.2.2, fun x hx => (HQU.out.1 x hx).2, fun x hx => (HQU.out.2.1 x hx).2⟩, HU.out, HV.out⟩)
        clear P7 Q7 Q7'
        have H0 := Lib.hid (show Blk w7.drew q (bva u) 38 ∧ Blk w7.drew q' (bva v) 38 from ⟨(G0.out.bx (q, u) (by simp)).1, (G0.out.bx (q', v) (by simp)).1⟩)
        have HSB := Lib.hid G0.out.ps.bx.1
        refine wp_region_late (S0 := fun w' => Blk w' q (bva u) 38 ∧ Blk w' q' (bva v) 38) (S := fun w' => Blk w' sb #[.slice U j cu, .slice V j cv] 52) (W := [11, 13]) (by kernel_rfl) ?_
        refine wpAnyL_take0 (i := 0) (v := ?vL0) rfl (by kernel_rfl) (by kernel_rfl) (by kernel_rfl) (fun _ _ _ h => h) (by rfl) (Or.inl ⟨by rfl, fun w' hw' => ?yL0⟩) H0.out (.inr HSB.out) ?_
        case yL0 => (go_simp; try with_reducible rfl)
        refine wpAnyL_take (i := 1) (v := .slice U j cu) rfl (by kernel_rfl) (by kernel_rfl) (by kernel_rfl) (fun _ _ _ h => h) (by kernel_rfl) (by rfl) (by rfl) (Or.inl ⟨by rfl, fun w' hw' => ?yL1⟩) ⟨H0.out, HSB.out⟩ ?_
        case yL1 => (have hc := hw'.2.cell 0; go_simp; try with_reducible rfl)
        refine wpAnyL_take0 (i := 2) (v := .agg (bva u)) rfl (by kernel_rfl) (by kernel_rfl) (by kernel_rfl) (fun _ _ _ h => h) (by rfl) (Or.inl ⟨by rfl, fun w' hw' => ?yL2⟩) H0.out (.inr HSB.out) ?_
        case yL2 => exact exec_load 38 (.tmp 14) rfl rfl hw'.1 Try.underlying38 rfl HIU.out
        refine wpAnyL_take0 (i := 5) (v := ?vL5) rfl (by kernel_rfl) (by kernel_rfl) (by kernel_rfl) (fun _ _ _ h => h) (by rfl) (Or.inl ⟨by rfl, fun w' hw' => ?yL5⟩) H0.out (.inr HSB.out) ?_
        case yL5 => (go_simp; try with_reducible rfl)
        refine wpAnyL_take (i := 6) (v := .slice V j cv) rfl (by kernel_rfl) (by kernel_rfl) (by kernel_rfl) (fun _ _ _ h => h) (by kernel_rfl) (by rfl) (by rfl) (Or.inl ⟨by rfl, fun w' hw' => ?yL6⟩) ⟨H0.out, HSB.out⟩ ?_
        case yL6 => (have hc := hw'.2.cell 1; go_simp; try with_reducible rfl)
        refine wpAnyL_take0 (i := 7) (v := .agg (bva v)) rfl (by kernel_rfl) (by kernel_rfl) (by kernel_rfl) (fun _ _ _ h => h) (by rfl) (Or.inl ⟨by rfl, fun w' hw' => ?yL7⟩) H0.out (.inr HSB.out) ?_
        case yL7 => exact exec_load 38 (.tmp 15) rfl rfl hw'.2 Try.underlying38 rfl HIV.out
        try simp only [List.getElem_toArray, List.getElem_cons_succ, List.getElem_cons_zero, Act.put, List.setIfInBounds_toArray, List.set_cons_zero, List.set_cons_succ]
        refine wpAnyL_ready (rs := [3, 8]) (by kernel_rfl) (by simp) (AllReadyL.cons rfl (fun K hK => ?_) (AllReadyL.cons rfl (fun K hK => ?_) AllReadyL.nil))
        · rw [if_pos (by rfl)]
          refine wp_buildSliceN 43 1 #[(0, .tmp 64)] rfl (by simp only [List.map_toArray, List.map_cons, List.map_nil]; exact run_oneN secsElt w7.drew (.agg (bva u)) (by show (bva u).size = 128; rw [bva_size, HU3.out]) (by omega)) ?_
          change K _ (w7.drew.alloc (.cells (bva u) 38))
          have G1' := G0.out.add u
          obtain ⟨v1, hv1⟩ : ∃ v1, v1 = w7.drew.alloc (.cells (bva u) 38) := ⟨_, rfl⟩
          rw [← hv1] at G1'
          rw [← hv1]
          obtain ⟨q1, hq1⟩ : ∃ q1, q1 = w7.drew.heap.size := ⟨_, rfl⟩
          rw [← hq1] at G1'
          rw [← hq1]
          have G1 := Lib.hid G1'
          clear G1' hv1 hq1 G0
          refine hK.out _ _ ⟨⟨(G1.out.bx (q, u) (by simp)).1, (G1.out.bx (q', v) (by simp)).1⟩, .inr G1.out.ps.bx.1⟩ ?_
          clear hK K
          try simp only [List.getElem_toArray, List.getElem_cons_succ, List.getElem_cons_zero, Act.put, List.setIfInBounds_toArray, List.set_cons_zero, List.set_cons_succ]
          refine wpAnyL_ready (rs := [4, 8]) (by kernel_rfl) (by simp) (AllReadyL.cons rfl (fun K hK => ?_) (AllReadyL.cons rfl (fun K hK => ?_) AllReadyL.nil))
          · rw [if_pos (by rfl)]
            refine wp_appN _ (.tmp 63) (.tmp 65) 43 rfl secsElt (base := w.heap.size) (v := .slice U j cu) (n := j) (xs := svs ((l.take j).map sec2)) rfl G1.out.ps.u.1 (m := 1) (A := some ⟨q1, 0, none⟩) rfl (rd_new (G1.out.bx (q1, u) (by simp)).1) (by rw [bv_length, HU3.out]) (bv_one _) (by have := HKN.out; have := HLT.out; omega) (Nat.le_trans B1.out.size G1.out.ps.ld.live.bel.size) ?_
            intro A2 c2 v2 ho hg hl
            have G2 := Lib.hid ((G1.out.app ho hg hl))
            clear ho hg hl G1
            refine hK.out _ _ ⟨⟨(G2.out.bx (q, u) (by simp)).1, (G2.out.bx (q', v) (by simp)).1⟩, .inr G2.out.ps.bx.1⟩ ?_
            clear hK K
            try simp only [List.getElem_toArray, List.getElem_cons_succ, List.getElem_cons_zero, Act.put, List.setIfInBounds_toArray, List.set_cons_zero, List.set_cons_succ]
            refine wpAnyL_take0 (i := 10) (v := ?vL10) rfl (by kernel_rfl) (by kernel_rfl) (by kernel_rfl) (fun _ _ _ h => h) (by rfl) (Or.inl ⟨by rfl, fun w' hw' => ?yL10⟩) ⟨(G2.out.bx (q, u) (by simp)).1, (G2.out.bx (q', v) (by simp)).1⟩ (.inr G2.out.ps.bx.1) ?_
            case yL10 => (go_simp; try with_reducible rfl)
            try simp only [List.getElem_toArray, List.getElem_cons_succ, List.getElem_cons_zero, Act.put, List.setIfInBounds_toArray, List.set_cons_zero, List.set_cons_succ]
            refine wpAnyL_ready (rs := [8]) (by kernel_rfl) (by simp) (AllReadyL.cons rfl (fun K hK => ?_) AllReadyL.nil)
            rw [if_pos (by rfl)]
            refine wp_buildSliceN 43 1 #[(0, .tmp 69)] rfl (by simp only [List.map_toArray, List.map_cons, List.map_nil]; exact run_oneN secsElt v2 (.agg (bva v)) (by show (bva v).size = 128; rw [bva_size, HV3.out]) (by omega)) ?_
            change K _ (v2.alloc (.cells (bva v) 38))
            have G3' := G2.out.add v
            obtain ⟨v3, hv3⟩ : ∃ v3, v3 = v2.alloc (.cells (bva v) 38) := ⟨_, rfl⟩
            rw [← hv3] at G3'
            rw [← hv3]
            obtain ⟨q3, hq3⟩ : ∃ q3, q3 = v2.heap.size := ⟨_, rfl⟩
            rw [← hq3] at G3'
            rw [← hq3]
            have G3 := Lib.hid G3'
            clear G3' hv3 hq3 G2
            refine hK.out _ _ ⟨⟨(G3.out.bx (q, u) (by simp)).1, (G3.out.bx (q', v) (by simp)).1⟩, .inr G3.out.ps.bx.1⟩ ?_
            clear hK K
            try simp only [List.getElem_toArray, List.getElem_cons_succ, List.getElem_cons_zero, Act.put, List.setIfInBounds_toArray, List.set_cons_zero, List.set_cons_succ]
            refine wpAnyL_ready (rs := [9]) (by kernel_rfl) (by simp) (AllReadyL.cons rfl (fun K hK => ?_) AllReadyL.nil)
            rw [if_pos (by rfl)]
            refine wp_appN _ (.tmp 68) (.tmp 70) 43 rfl secsElt (base := w.heap.size) (v := .slice V j cv) (n := j) (xs := svs ((r.take j).map sec2)) rfl G3.out.ps.v.1 (m := 1) (A := some ⟨q3, 0, none⟩) rfl (rd_new (G3.out.bx (q3, v) (by simp)).1) (by rw [bv_length, HV3.out]) (bv_one _) (by have := HKN.out; have := HLT.out; omega) (Nat.le_trans B1.out.size G3.out.ps.ld.live.bel.size) ?_
            intro A4 c4 v4 ho hg hl
            have G4 := Lib.hid ((G3.out.swap.app ho hg hl).swap)
            clear ho hg hl G3
            refine hK.out _ _ ⟨⟨(G4.out.bx (q, u) (by simp)).1, (G4.out.bx (q', v) (by simp)).1⟩, .inr G4.out.ps.bx.1⟩ ?_
            clear hK K
            try simp only [List.getElem_toArray, List.getElem_cons_succ, List.getElem_cons_zero, Act.put, List.setIfInBounds_toArray, List.set_cons_zero, List.set_cons_succ]
            try simp only [List.getElem_toArray, List.getElem_cons_succ, List.getElem_cons_zero, Act.put, List.setIfInBounds_toArray, List.set_cons_zero, List.set_cons_succ]
            refine wpAnyL_ready (rs := [11]) (by kernel_rfl) (by simp) (AllReadyL.cons rfl (fun K hK => ?_) AllReadyL.nil)
            have hc0 : v4.cell? ⟨sb, 0, none⟩ = some (.slice U j cu) := G4.out.ps.bx.1.cell 0
            have hf0 := G4.out.ps.bx.1.free 0
            rw [if_pos (by rfl)]
            go_simp
            have GL' := G4.out.set (cs' := #[.slice A2 (j + 1) c2, .slice V j cv]) 0 (.slice A2 (j + 1) c2) (by simp)
            obtain ⟨vl, hvl⟩ : ∃ vl, vl = v4.setCell ⟨sb, 0, none⟩ (.slice A2 (j + 1) c2) := ⟨_, rfl⟩
            rw [← hvl] at GL'
            rw [← hvl]
            have GL := Lib.hid GL'
            clear GL' hvl hc0 hf0 G4
            refine hK.out _ _ ⟨⟨(GL.out.bx (q, u) (by simp)).1, (GL.out.bx (q', v) (by simp)).1⟩, .inl ⟨11, by simp, by rfl⟩⟩ ?_
            clear hK K
            try simp only [List.getElem_toArray, List.getElem_cons_succ, List.getElem_cons_zero, Act.put, List.setIfInBounds_toArray, List.set_cons_zero, List.set_cons_succ]
            refine wpAnyL_take0 (i := 12) (v := ?vL12) rfl (by kernel_rfl) (by kernel_rfl) (by kernel_rfl) (fun _ _ _ h => h) (by rfl) (Or.inl ⟨by rfl, fun w' hw' => ?yL12⟩) ⟨(GL.out.bx (q, u) (by simp)).1, (GL.out.bx (q', v) (by simp)).1⟩ (.inl ⟨11, by simp, by rfl⟩) ?_
            case yL12 => (go_simp; try with_reducible rfl)
            try simp only [List.getElem_toArray, List.getElem_cons_succ, List.getElem_cons_zero, Act.put, List.setIfInBounds_toArray, List.set_cons_zero, List.set_cons_succ]
            refine wpAnyL_ready (rs := [13]) (by kernel_rfl) (by simp) (AllReadyL.cons rfl (fun K hK => ?_) AllReadyL.nil)
            have hc1 : vl.cell? ⟨sb, 1, none⟩ = some (.slice V j cv) := GL.out.ps.bx.1.cell 1
            have hf1 := GL.out.ps.bx.1.free 1
            rw [if_pos (by rfl)]
            go_simp
            have GM' := GL.out.set (cs' := #[.slice A2 (j + 1) c2, .slice A4 (j + 1) c4]) 1 (.slice A4 (j + 1) c4) (by simp)
            obtain ⟨vm, hvm⟩ : ∃ vm, vm = vl.setCell ⟨sb, 1, none⟩ (.slice A4 (j + 1) c4) := ⟨_, rfl⟩
            rw [← hvm] at GM'
            rw [← hvm]
            have GM := Lib.hid GM'
            clear GM' hvm hc1 hf1 GL
            refine hK.out _ _ ⟨⟨(GM.out.bx (q, u) (by simp)).1, (GM.out.bx (q', v) (by simp)).1⟩, .inl ⟨11, by simp, by rfl⟩⟩ ?_
            clear hK K
            try simp only [List.getElem_toArray, List.getElem_cons_succ, List.getElem_cons_zero, Act.put, List.setIfInBounds_toArray, List.set_cons_zero, List.set_cons_succ]
            refine wpAnyL_done (by kernel_rfl) ?_ _
            have hG := GM.out
            rw [HTX.out, HTY.out] at hG
            have GR := Lib.hid hG
            clear hG GM
            go_wp2_with fail
            go_roundw
            case rel => exact ⟨j + 1, S7, F7, A2, A4, c2, c4, HLT.out, by go_num, GR.out.ps, GR.out.uw, GR.out.vw⟩
            case measure => (have := HLT.out; simp [intOf]; omega)
          · rw [if_pos (by rfl)]
            refine wp_buildSliceN 43 1 #[(0, .tmp 69)] rfl (by simp only [List.map_toArray, List.map_cons, List.map_nil]; exact run_oneN secsElt v1 (.agg (bva v)) (by show (bva v).size = 128; rw [bva_size, HV3.out]) (by omega)) ?_
            change K _ (v1.alloc (.cells (bva v) 38))
            have G5' := G1.out.add v
            obtain ⟨v5, hv5⟩ : ∃ v5, v5 = v1.alloc (.cells (bva v) 38) := ⟨_, rfl⟩
            rw [← hv5] at G5'
            rw [← hv5]
            obtain ⟨q5, hq5⟩ : ∃ q5, q5 = v1.heap.size := ⟨_, rfl⟩
            rw [← hq5] at G5'
            rw [← hq5]
            have G5 := Lib.hid G5'
            clear G5' hv5 hq5 G1
            refine hK.out _ _ ⟨⟨(G5.out.bx (q, u) (by simp)).1, (G5.out.bx (q', v) (by simp)).1⟩, .inr G5.out.ps.bx.1⟩ ?_
            clear hK K
            try simp only [List.getElem_toArray, List.getElem_cons_succ, List.getElem_cons_zero, Act.put, List.setIfInBounds_toArray, List.set_cons_zero, List.set_cons_succ]
            refine wpAnyL_ready (rs := [4]) (by kernel_rfl) (by simp) (AllReadyL.cons rfl (fun K hK => ?_) AllReadyL.nil)
            rw [if_pos (by rfl)]
            refine wp_appN _ (.tmp 63) (.tmp 65) 43 rfl secsElt (base := w.heap.size) (v := .slice U j cu) (n := j) (xs := svs ((l.take j).map sec2)) rfl G5.out.ps.u.1 (m := 1) (A := some ⟨q1, 0, none⟩) rfl (rd_new (G5.out.bx (q1, u) (by simp)).1) (by rw [bv_length, HU3.out]) (bv_one _) (by have := HKN.out; have := HLT.out; omega) (Nat.le_trans B1.out.size G5.out.ps.ld.live.bel.size) ?_
            intro A6 c6 v6 ho hg hl
            have G6 := Lib.hid ((G5.out.app ho hg hl))
            clear ho hg hl G5
            refine hK.out _ _ ⟨⟨(G6.out.bx (q, u) (by simp)).1, (G6.out.bx (q', v) (by simp)).1⟩, .inr G6.out.ps.bx.1⟩ ?_
            clear hK K
            try simp only [List.getElem_toArray, List.getElem_cons_succ, List.getElem_cons_zero, Act.put, List.setIfInBounds_toArray, List.set_cons_zero, List.set_cons_succ]
            refine wpAnyL_take0 (i := 10) (v := ?vL10) rfl (by kernel_rfl) (by kernel_rfl) (by kernel_rfl) (fun _ _ _ h => h) (by rfl) (Or.inl ⟨by rfl, fun w' hw' => ?yL10⟩) ⟨(G6.out.bx (q, u) (by simp)).1, (G6.out.bx (q', v) (by simp)).1⟩ (.inr G6.out.ps.bx.1) ?_
            case yL10 => (go_simp; try with_reducible rfl)
            try simp only [List.getElem_toArray, List.getElem_cons_succ, List.getElem_cons_zero, Act.put, List.setIfInBounds_toArray, List.set_cons_zero, List.set_cons_succ]
            refine wpAnyL_ready (rs := [9]) (by kernel_rfl) (by simp) (AllReadyL.cons rfl (fun K hK => ?_) AllReadyL.nil)
            rw [if_pos (by rfl)]
            refine wp_appN _ (.tmp 68) (.tmp 70) 43 rfl secsElt (base := w.heap.size) (v := .slice V j cv) (n := j) (xs := svs ((r.take j).map sec2)) rfl G6.out.ps.v.1 (m := 1) (A := some ⟨q5, 0, none⟩) rfl (rd_new (G6.out.bx (q5, v) (by simp)).1) (by rw [bv_length, HV3.out]) (bv_one _) (by have := HKN.out; have := HLT.out; omega) (Nat.le_trans B1.out.size G6.out.ps.ld.live.bel.size) ?_
            intro A7 c7 v7 ho hg hl
            have G7 := Lib.hid ((G6.out.swap.app ho hg hl).swap)
            clear ho hg hl G6
            refine hK.out _ _ ⟨⟨(G7.out.bx (q, u) (by simp)).1, (G7.out.bx (q', v) (by simp)).1⟩, .inr G7.out.ps.bx.1⟩ ?_
            clear hK K
            try simp only [List.getElem_toArray, List.getElem_cons_succ, List.getElem_cons_zero, Act.put, List.setIfInBounds_toArray, List.set_cons_zero, List.set_cons_succ]
            try simp only [List.getElem_toArray, List.getElem_cons_succ, List.getElem_cons_zero, Act.put, List.setIfInBounds_toArray, List.set_cons_zero, List.set_cons_succ]
            refine wpAnyL_ready (rs := [11]) (by kernel_rfl) (by simp) (AllReadyL.cons rfl (fun K hK => ?_) AllReadyL.nil)
            have hc0 : v7.cell? ⟨sb, 0, none⟩ = some (.slice U j cu) := G7.out.ps.bx.1.cell 0
            have hf0 := G7.out.ps.bx.1.free 0
            rw [if_pos (by rfl)]
            go_simp
            have GL' := G7.out.set (cs' := #[.slice A6 (j + 1) c6, .slice V j cv]) 0 (.slice A6 (j + 1) c6) (by simp)
            obtain ⟨vl, hvl⟩ : ∃ vl, vl = v7.setCell ⟨sb, 0, none⟩ (.slice A6 (j + 1) c6) := ⟨_, rfl⟩
            rw [← hvl] at GL'
            rw [← hvl]
            have GL := Lib.hid GL'
            clear GL' hvl hc0 hf0 G7
            refine hK.out _ _ ⟨⟨(GL.out.bx (q, u) (by simp)).1, (GL.out.bx (q', v) (by simp)).1⟩, .inl ⟨11, by simp, by rfl⟩⟩ ?_
            clear hK K
            try simp only [List.getElem_toArray, List.getElem_cons_succ, List.getElem_cons_zero, Act.put, List.setIfInBounds_toArray, List.set_cons_zero, List.set_cons_succ]
            refine wpAnyL_take0 (i := 12) (v := ?vL12) rfl (by kernel_rfl) (by kernel_rfl) (by kernel_rfl) (fun _ _ _ h => h) (by rfl) (Or.inl ⟨by rfl, fun w' hw' => ?yL12⟩) ⟨(GL.out.bx (q, u) (by simp)).1, (GL.out.bx (q', v) (by simp)).1⟩ (.inl ⟨11, by simp, by rfl⟩) ?_
            case yL12 => (go_simp; try with_reducible rfl)
            try simp only [List.getElem_toArray, List.getElem_cons_succ, List.getElem_cons_zero, Act.put, List.setIfInBounds_toArray, List.set_cons_zero, List.set_cons_succ]
            refine wpAnyL_ready (rs := [13]) (by kernel_rfl) (by simp) (AllReadyL.cons rfl (fun K hK => ?_) AllReadyL.nil)
            have hc1 : vl.cell? ⟨sb, 1, none⟩ = some (.slice V j cv) := GL.out.ps.bx.1.cell 1
            have hf1 := GL.out.ps.bx.1.free 1
            rw [if_pos (by rfl)]
            go_simp
            have GM' := GL.out.set (cs' := #[.slice A6 (j + 1) c6, .slice A7 (j + 1) c7]) 1 (.slice A7 (j + 1) c7) (by simp)
            obtain ⟨vm, hvm⟩ : ∃ vm, vm = vl.setCell ⟨sb, 1, none⟩ (.slice A7 (j + 1) c7) := ⟨_, rfl⟩
            rw [← hvm] at GM'
            rw [← hvm]
            have GM := Lib.hid GM'
            clear GM' hvm hc1 hf1 GL
            refine hK.out _ _ ⟨⟨(GM.out.bx (q, u) (by simp)).1, (GM.out.bx (q', v) (by simp)).1⟩, .inl ⟨11, by simp, by rfl⟩⟩ ?_
            clear hK K
            try simp only [List.getElem_toArray, List.getElem_cons_succ, List.getElem_cons_zero, Act.put, List.setIfInBounds_toArray, List.set_cons_zero, List.set_cons_succ]
            refine wpAnyL_done (by kernel_rfl) ?_ _
            have hG := GM.out
            rw [HTX.out, HTY.out] at hG
            have GR := Lib.hid hG
            clear hG GM
            go_wp2_with fail
            go_roundw
            case rel => exact ⟨j + 1, S7, F7, A6, A7, c6, c7, HLT.out, by go_num, GR.out.ps, GR.out.uw, GR.out.vw⟩
            case measure => (have := HLT.out; simp [intOf]; omega)
        · rw [if_pos (by rfl)]
          refine wp_buildSliceN 43 1 #[(0, .tmp 69)] rfl (by simp only [List.map_toArray, List.map_cons, List.map_nil]; exact run_oneN secsElt w7.drew (.agg (bva v)) (by show (bva v).size = 128; rw [bva_size, HV3.out]) (by omega)) ?_
          change K _ (w7.drew.alloc (.cells (bva v) 38))
          have G8' := G0.out.add v
          obtain ⟨v8, hv8⟩ : ∃ v8, v8 = w7.drew.alloc (.cells (bva v) 38) := ⟨_, rfl⟩
          rw [← hv8] at G8'
          rw [← hv8]
          obtain ⟨q8, hq8⟩ : ∃ q8, q8 = w7.drew.heap.size := ⟨_, rfl⟩
          rw [← hq8] at G8'
          rw [← hq8]
          have G8 := Lib.hid G8'
          clear G8' hv8 hq8 G0
          refine hK.out _ _ ⟨⟨(G8.out.bx (q, u) (by simp)).1, (G8.out.bx (q', v) (by simp)).1⟩, .inr G8.out.ps.bx.1⟩ ?_
          clear hK K
          try simp only [List.getElem_toArray, List.getElem_cons_succ, List.getElem_cons_zero, Act.put, List.setIfInBounds_toArray, List.set_cons_zero, List.set_cons_succ]
          refine wpAnyL_ready (rs := [3]) (by kernel_rfl) (by simp) (AllReadyL.cons rfl (fun K hK => ?_) AllReadyL.nil)
          rw [if_pos (by rfl)]
          refine wp_buildSliceN 43 1 #[(0, .tmp 64)] rfl (by simp only [List.map_toArray, List.map_cons, List.map_nil]; exact run_oneN secsElt v8 (.agg (bva u)) (by show (bva u).size = 128; rw [bva_size, HU3.out]) (by omega)) ?_
          change K _ (v8.alloc (.cells (bva u) 38))
          have G9' := G8.out.add u
          obtain ⟨v9, hv9⟩ : ∃ v9, v9 = v8.alloc (.cells (bva u) 38) := ⟨_, rfl⟩
          rw [← hv9] at G9'
          rw [← hv9]
          obtain ⟨q9, hq9⟩ : ∃ q9, q9 = v8.heap.size := ⟨_, rfl⟩
          rw [← hq9] at G9'
          rw [← hq9]
          have G9 := Lib.hid G9'
          clear G9' hv9 hq9 G8
          refine hK.out _ _ ⟨⟨(G9.out.bx (q, u) (by simp)).1, (G9.out.bx (q', v) (by simp)).1⟩, .inr G9.out.ps.bx.1⟩ ?_
          clear hK K
          try simp only [List.getElem_toArray, List.getElem_cons_succ, List.getElem_cons_zero, Act.put, List.setIfInBounds_toArray, List.set_cons_zero, List.set_cons_succ]
          refine wpAnyL_ready (rs := [4]) (by kernel_rfl) (by simp) (AllReadyL.cons rfl (fun K hK => ?_) AllReadyL.nil)
          rw [if_pos (by rfl)]
          refine wp_appN _ (.tmp 63) (.tmp 65) 43 rfl secsElt (base := w.heap.size) (v := .slice U j cu) (n := j) (xs := svs ((l.take j).map sec2)) rfl G9.out.ps.u.1 (m := 1) (A := some ⟨q9, 0, none⟩) rfl (rd_new (G9.out.bx (q9, u) (by simp)).1) (by rw [bv_length, HU3.out]) (bv_one _) (by have := HKN.out; have := HLT.out; omega) (Nat.le_trans B1.out.size G9.out.ps.ld.live.bel.size) ?_
          intro A10 c10 v10 ho hg hl
          have G10 := Lib.hid ((G9.out.app ho hg hl))
          clear ho hg hl G9
          refine hK.out _ _ ⟨⟨(G10.out.bx (q, u) (by simp)).1, (G10.out.bx (q', v) (by simp)).1⟩, .inr G10.out.ps.bx.1⟩ ?_
          clear hK K
          try simp only [List.getElem_toArray, List.getElem_cons_succ, List.getElem_cons_zero, Act.put, List.setIfInBounds_toArray, List.set_cons_zero, List.set_cons_succ]
          refine wpAnyL_take0 (i := 10) (v := ?vL10) rfl (by kernel_rfl) (by kernel_rfl) (by kernel_rfl) (fun _ _ _ h => h) (by rfl) (Or.inl ⟨by rfl, fun w' hw' => ?yL10⟩) ⟨(G10.out.bx (q, u) (by simp)).1, (G10.out.bx (q', v) (by simp)).1⟩ (.inr G10.out.ps.bx.1) ?_
          case yL10 => (go_simp; try with_reducible rfl)
          try simp only [List.getElem_toArray, List.getElem_cons_succ, List.getElem_cons_zero, Act.put, List.setIfInBounds_toArray, List.set_cons_zero, List.set_cons_succ]
          refine wpAnyL_ready (rs := [9]) (by kernel_rfl) (by simp) (AllReadyL.cons rfl (fun K hK => ?_) AllReadyL.nil)
          rw [if_pos (by rfl)]
          refine wp_appN _ (.tmp 68) (.tmp 70) 43 rfl secsElt (base := w.heap.size) (v := .slice V j cv) (n := j) (xs := svs ((r.take j).map sec2)) rfl G10.out.ps.v.1 (m := 1) (A := some ⟨q8, 0, none⟩) rfl (rd_new (G10.out.bx (q8, v) (by simp)).1) (by rw [bv_length, HV3.out]) (bv_one _) (by have := HKN.out; have := HLT.out; omega) (Nat.le_trans B1.out.size G10.out.ps.ld.live.bel.size) ?_
          intro A11 c11 v11 ho hg hl
          have G11 := Lib.hid ((G10.out.swap.app ho hg hl).swap)
          clear ho hg hl G10
          refine hK.out _ _ ⟨⟨(G11.out.bx (q, u) (by simp)).1, (G11.out.bx (q', v) (by simp)).1⟩, .inr G11.out.ps.bx.1⟩ ?_
          clear hK K
          try simp only [List.getElem_toArray, List.getElem_cons_succ, List.getElem_cons_zero, Act.put, List.setIfInBounds_toArray, List.set_cons_zero, List.set_cons_succ]
          try simp only [List.getElem_toArray, List.getElem_cons_succ, List.getElem_cons_zero, Act.put, List.setIfInBounds_toArray, List.set_cons_zero, List.set_cons_succ]
          refine wpAnyL_ready (rs := [11]) (by kernel_rfl) (by simp) (AllReadyL.cons rfl (fun K hK => ?_) AllReadyL.nil)
          have hc0 : v11.cell? ⟨sb, 0, none⟩ = some (.slice U j cu) := G11.out.ps.bx.1.cell 0
          have hf0 := G11.out.ps.bx.1.free 0
          rw [if_pos (by rfl)]
          go_simp
          have GL' := G11.out.set (cs' := #[.slice A10 (j + 1) c10, .slice V j cv]) 0 (.slice A10 (j + 1) c10) (by simp)
          obtain ⟨vl, hvl⟩ : ∃ vl, vl = v11.setCell ⟨sb, 0, none⟩ (.slice A10 (j + 1) c10) := ⟨_, rfl⟩
          rw [← hvl] at GL'
          rw [← hvl]
          have GL := Lib.hid GL'
          clear GL' hvl hc0 hf0 G11
          refine hK.out _ _ ⟨⟨(GL.out.bx (q, u) (by simp)).1, (GL.out.bx (q', v) (by simp)).1⟩, .inl ⟨11, by simp, by rfl⟩⟩ ?_
          clear hK K
          try simp only [List.getElem_toArray, List.getElem_cons_succ, List.getElem_cons_zero, Act.put, List.setIfInBounds_toArray, List.set_cons_zero, List.set_cons_succ]
          refine wpAnyL_take0 (i := 12) (v := ?vL12) rfl (by kernel_rfl) (by kernel_rfl) (by kernel_rfl) (fun _ _ _ h => h) (by rfl) (Or.inl ⟨by rfl, fun w' hw' => ?yL12⟩) ⟨(GL.out.bx (q, u) (by simp)).1, (GL.out.bx (q', v) (by simp)).1⟩ (.inl ⟨11, by simp, by rfl⟩) ?_
          case yL12 => (go_simp; try with_reducible rfl)
          try simp only [List.getElem_toArray, List.getElem_cons_succ, List.getElem_cons_zero, Act.put, List.setIfInBounds_toArray, List.set_cons_zero, List.set_cons_succ]
          refine wpAnyL_ready (rs := [13]) (by kernel_rfl) (by simp) (AllReadyL.cons rfl (fun K hK => ?_) AllReadyL.nil)
          have hc1 : vl.cell? ⟨sb, 1, none⟩ = some (.slice V j cv) := GL.out.ps.bx.1.cell 1
          have hf1 := GL.out.ps.bx.1.free 1
          rw [if_pos (by rfl)]
          go_simp
          have GM' := GL.out.set (cs' := #[.slice A10 (j + 1) c10, .slice A11 (j + 1) c11]) 1 (.slice A11 (j + 1) c11) (by simp)
          obtain ⟨vm, hvm⟩ : ∃ vm, vm = vl.setCell ⟨sb, 1, none⟩ (.slice A11 (j + 1) c11) := ⟨_, rfl⟩
          rw [← hvm] at GM'
          rw [← hvm]
          have GM := Lib.hid GM'
          clear GM' hvm hc1 hf1 GL
          refine hK.out _ _ ⟨⟨(GM.out.bx (q, u) (by simp)).1, (GM.out.bx (q', v) (by simp)).1⟩, .inl ⟨11, by simp, by rfl⟩⟩ ?_
          clear hK K
          try simp only [List.getElem_toArray, List.getElem_cons_succ, List.getElem_cons_zero, Act.put, List.setIfInBounds_toArray, List.set_cons_zero, List.set_cons_succ]
          refine wpAnyL_done (by kernel_rfl) ?_ _
          have hG := GM.out
          rw [HTX.out, HTY.out] at hG
          have GR := Lib.hid hG
          clear hG GM
          go_wp2_with fail
          go_roundw
          case rel => exact ⟨j + 1, S7, F7, A10, A11, c10, c11, HLT.out, by go_num, GR.out.ps, GR.out.uw, GR.out.vw⟩
          case measure => (have := HLT.out; simp [intOf]; omega)
    · obtain rfl : j = k := by have := HJ.out; omega
      have j1 : ¬ (j : Int) < (j : Int) := by omega
      clear hlt
      go_wp2_with fail
      refine (Mu.ld_flush0' P0.out.ld).mono ?_
      rintro e w6 ⟨rfl, S6, F6, h6, hw6, hf6, hb6⟩
      have P6 := Lib.hid (P0.out.dev h6 hf6 hb6)
      have HW6 := Lib.hid hw6
      clear h6 hw6 hf6 hb6 P0
      go_wp2_with fail
      refine (Mu.ld_flush1 P6.out.ld HW6.out).mono ?_
      rintro e w7 ⟨rfl, S7, F7, h7, hf7, hb7⟩
      have P7 := Lib.hid (P6.out.dev h7 hf7 hb7)
      clear h7 hf7 hb7 P6 HW6
      go_upto_region 15 with fail
      have P8 := Lib.hid (P7.out.below (Below.refl _ _).drew)
      have R8 := Lib.hid (show Blk w7.drew b #[.slice none 0 0, .slice none 0 0] 52 from R1'.out.below (P8.out.ld.live.bel))
      clear P7
      refine wp_region_held_drew (S := fun w' => Blk w' sb #[.slice U j cu, .slice V j cv] 52) (by kernel_rfl) P8.out.bx.1 (fun hh => ?_)
      have HH := Lib.hid hh
      clear hh
      refine wpAnyH_take (i := 0) (v := ?vZ0) rfl (by kernel_rfl) (by kernel_rfl) (by kernel_rfl) (fun _ _ _ h => h) (Or.inl ⟨by rfl, fun w' _ => ?yZ0⟩) HH.out ?_
      case yZ0 => (go_simp; try with_reducible rfl)
      refine wpAnyH_take (i := 1) (v := ?vZ1) rfl (by kernel_rfl) (by kernel_rfl) (by kernel_rfl) (fun _ _ _ h => h) (Or.inl ⟨by rfl, fun w' _ => ?yZ1⟩) HH.out ?_
      case yZ1 => (go_simp; try with_reducible rfl)
      try simp only [List.getElem_toArray, List.getElem_cons_succ, List.getElem_cons_zero, Act.put, List.setIfInBounds_toArray, List.set_cons_zero, List.set_cons_succ]
      refine wpAnyH_take (i := 2) (v := ?vZ2) rfl (by kernel_rfl) (by kernel_rfl) (by kernel_rfl) (fun _ _ _ h => h) (Or.inl ⟨by rfl, fun w' _ => ?yZ2⟩) HH.out ?_
      case yZ2 => (go_simp; try with_reducible rfl)
      refine wpAnyH_take (i := 3) (v := ?vZ3) rfl (by kernel_rfl) (by kernel_rfl) (by kernel_rfl) (fun _ _ _ h => h) (Or.inl ⟨by rfl, fun w' _ => ?yZ3⟩) HH.out ?_
      case yZ3 => (go_simp; try with_reducible rfl)
      refine wpAnyH_take (i := 5) (v := .agg #[.slice U j cu, .slice V j cv]) rfl (by kernel_rfl) (by kernel_rfl) (by kernel_rfl) (fun _ _ _ h => h) (Or.inl ⟨by rfl, fun w' hw' => ?yZ5⟩) HH.out ?_
      case yZ5 => exact exec_load 52 (.tmp 12) rfl rfl hw' Try.underlying52 rfl secsAV_info
      try simp only [List.getElem_toArray, List.getElem_cons_succ, List.getElem_cons_zero, Act.put, List.setIfInBounds_toArray, List.set_cons_zero, List.set_cons_succ]
      refine wpAnyH_ready (rs := [4]) (by kernel_rfl) (by simp) (AllReadyH.cons rfl (fun K hK => ?_) AllReadyH.nil)
      go_simp
      refine (Mu.lm_new (G := gG) (fun _ _ _ _ _ _ => trivial) P8.out.ld (n := j) (ahead_length (Nat.le_refl _) HKN.out.1) (ahead_length (Nat.le_refl _) HKN.out.2.1)).mono ?_
      rintro e w8 ⟨g, s8, F8, rfl, hlm, hn8, hb8⟩
      have X8 := Lib.hid (bx_dev P8.out.bx hn8 hb8)
      have U8 := Lib.hid (P8.out.u.step hn8 hb8)
      have V8 := Lib.hid (P8.out.v.step hn8 hb8)
      have M8 := Lib.hid hlm
      have R9 := Lib.hid (R1'.out.below hlm.live.bel)
      have HNE := Lib.hid (show b ≠ sb by have := P8.out.bx.2.1; have := R1'.out.lt; omega)
      go_simp
      refine hK.out _ _ X8.out.1 (fun hh => ?_)
      have HH' := Lib.hid hh
      clear hh hK K HH hlm hn8 hb8 P8 R8
      have HH := Lib.hid HH'.out
      clear HH'
      refine wpAnyH_take (i := 6) (v := ?vZ6) rfl (by kernel_rfl) (by kernel_rfl) (by kernel_rfl) (fun _ _ _ h => h) (Or.inl ⟨by rfl, fun w' _ => ?yZ6⟩) HH.out ?_
      case yZ6 => (go_simp; try with_reducible rfl)
      refine wpAnyH_take (i := 7) (v := ?vZ7) rfl (by kernel_rfl) (by kernel_rfl) (by kernel_rfl) (fun _ _ _ h => h) (Or.inl ⟨by rfl, fun w' _ => ?yZ7⟩) HH.out ?_
      case yZ7 => (go_simp; try with_reducible rfl)
      try simp only [List.getElem_toArray, List.getElem_cons_succ, List.getElem_cons_zero, Act.put, List.setIfInBounds_toArray, List.set_cons_zero, List.set_cons_succ]
      refine wpAnyH_take (i := 8) (v := ?vZ8) rfl (by kernel_rfl) (by kernel_rfl) (by kernel_rfl) (fun _ _ _ h => h) (Or.inl ⟨by rfl, fun w' _ => ?yZ8⟩) HH.out ?_
      case yZ8 => (go_simp; try with_reducible rfl)
      try simp only [List.getElem_toArray, List.getElem_cons_succ, List.getElem_cons_zero, Act.put, List.setIfInBounds_toArray, List.set_cons_zero, List.set_cons_succ]
      refine wpAnyH_ready (rs := [9]) (by kernel_rfl) (by simp) (AllReadyH.cons rfl (fun K hK => ?_) AllReadyH.nil)
      rw [if_pos (by rfl)]
      refine wp_store_row 52 (.tmp 7) (.tmp 84) rfl b #[.slice U j cu, .slice V j cv] rfl rfl 52 #[.slice none 0 0, .slice none 0 0] R9.out secsAV_info rfl (by simp [Value.oneCell']) ?_
      have hb9 : But (fun y => y = b) w8 (w8.setRow b #[.slice U j cu, .slice V j cv]) := (But.refl _).setRow (S := fun y => y = b) (.inl rfl) _
      have R10 := Lib.hid (show Blk (w8.setRow b #[.slice U j cu, .slice V j cv]) b #[.slice U j cu, .slice V j cv] 52 from setRow_heap _ _ _ _ _ _ R9.out)
      have hbf : ∀ q, F8 q → q = b → False := fun q hq e => by have := M8.out.live.new q hq; have := R1'.out.lt; omega
      have M9 := Lib.hid (show Mu.LM p g1 g2 gG g w (w8.setRow b #[.slice U j cu, .slice V j cv]) s8 F8 ⟨ahead l j j, ahead r j j, false, false, List.replicate j false, List.replicate j false⟩ 0 from ⟨⟨(ML (Mu.one p g1 g2) gG g).but M8.out.live.at_ hb9 hbf, fun q hq => Nat.le_trans B1.out.size (M8.out.live.new q hq), (B1.out.trans (M8.out.live.bel.mono B1.out.size)).trans (hb9.below (fun k hk e => by have := HBB.out; omega) (Nat.le_trans B1.out.size M8.out.live.bel.size))⟩, M8.out.sees, M8.out.dry⟩)
      have U9 := Lib.hid (show RowN w (w8.setRow b #[.slice U j cu, .slice V j cv]) F8 (.slice U j cu) j ((l.take j).map sec2) from ⟨Own.but U8.out.1 hb9 (fun q hq e => by have := HU.out q hq; have := R1'.out.lt; omega), U8.out.2⟩)
      have V9 := Lib.hid (show RowN w (w8.setRow b #[.slice U j cu, .slice V j cv]) F8 (.slice V j cv) j ((r.take j).map sec2) from ⟨Own.but V8.out.1 hb9 (fun q hq e => by have := HV.out q hq; have := R1'.out.lt; omega), V8.out.2⟩)
      have X9 := Lib.hid (X8.out.1.but hb9 (fun e => HNE.out e.symm))
      refine hK.out _ _ X9.out (fun hh => ?_)
      clear hK K hb9 hbf hh
      refine wpAnyH_done (by kernel_rfl) ?_ _
      go_wp2_with fail
      rw [ahead_all, ahead_all] at M9
      exact bodyPost_ret (v := .tuple #[.pointer (some ⟨g1, 0, none⟩), .pointer (some ⟨g2, 0, none⟩), .pointer (some ⟨g, 0, none⟩), .agg #[.slice U j cu, .slice V j cv]]) (results_pair Try.results25 _ _ b #[.slice U j cu, .slice V j cv] rfl rfl rfl rfl R10.out Try.underlying52 rfl secsAV_info) rfl ⟨p, g1, g2, g, s8, F8, U, V, cu, cv, rfl, M9.out, U9.out, V9.out⟩
end Go.Proofs.Ytnplhagfmfggcaa.Sc
/-
  All that LogPlays carries, as a proposition, and what each step makes of it.
-/
namespace Go.Proofs.Ytnplhagfmfggcaa
open Go.RowKit Kd Mi Sx Sg Lo
theorem rig_info : (Try.prog.info? 73).map (·.size) = some 7 := by kernel_rfl
theorem zero_bodies : ∀ W, (zeroValue 82).run Try.prog W = .ok (.agg (boC (List.replicate 40 nilB))) W := fun _ => by kernel_rfl
theorem zero_gens : ∀ W, (zeroValue 83).run Try.prog W = .ok (.agg (gv (List.replicate 40 0)).toArray) W := fun _ => by kernel_rfl
/-- All that LogPlays carries, behind some acts: the log, and the boxes. -/
structure PlW (p g1 g2 bx gm q a b : Nat) (wb wr : World) (s : Mr (Mu.one p g1 g2)) (F : Nat → Prop) (lg lr : Lg) (L : List (List UInt8)) (gs : List Nat) (bo : List Bo) (AG : Option Addr) (cG bR b9 b10 b11 k : Nat) : Prop where
  lm : LgM p g1 g2 (gdS litS bx) gm q wb wr s lg F (Sc.startM L L (2 + a * b)) (2 * k)
  last : lg.last ≤ k
  rig : Bx wb wr F bR (rigC p g1 g2 gm q a b) 73
  box : Bx wb wr F b9 (rlC lr AG a cG) 79
  own : wr.ownsRow wb.heap.size 77 1 (.slice AG a cG) a (gv lr.gens)
  out : ∀ j, (Value.slice AG a cG).ownBlock = some j → ¬ F j ∧ j ≠ bR ∧ j ≠ b9 ∧ j ≠ b10 ∧ j ≠ b11
  bod : Bx wb wr F b10 (boC bo) 82
  gen : Bx wb wr F b11 (gv gs).toArray 83
  ne : b9 ≠ bR ∧ b10 ≠ bR ∧ b11 ≠ bR ∧ b10 ≠ b9 ∧ b11 ≠ b9 ∧ b11 ≠ b10
/-- And what they say of each other. -/
structure PlS (p g1 g2 bx gm q a b : Nat) (wb wr : World) (s : Mr (Mu.one p g1 g2)) (F : Nat → Prop) (lg lr : Lg) (L : List (List UInt8)) (gs : List Nat) (bo : List Bo) (AG : Option Addr) (cG bR b9 b10 b11 k : Nat) : Prop extends PlW p g1 g2 bx gm q a b wb wr s F lg lr L gs bo AG cG bR b9 b10 b11 k where
  pl : PlI a b lg L gs bo
section
variable {p g1 g2 bx gm q a b : Nat} {wb wr w' : World} {s s' : Mr (Mu.one p g1 g2)} {F F' : Nat → Prop} {lg lg' lr lr' : Lg} {L : List (List UInt8)} {gs : List Nat} {bo : List Bo} {AG AG' : Option Addr} {cG cG' bR b9 b10 b11 k : Nat}
theorem PlW.below (h : PlW p g1 g2 bx gm q a b wb wr s F lg lr L gs bo AG cG bR b9 b10 b11 k) (hb : Below wr.heap.size wr w') : PlW p g1 g2 bx gm q a b wb w' s F lg lr L gs bo AG cG bR b9 b10 b11 k :=
  ⟨h.lm.below hb, h.last, h.rig.below hb, h.box.below hb, own_below h.own hb, h.out, h.bod.below hb, h.gen.below hb, h.ne⟩
theorem PlW.next (h : PlW p g1 g2 bx gm q a b wb wr s F lg lr L gs bo AG cG bR b9 b10 b11 k) : PlW p g1 g2 bx gm q a b wb wr s F lg lr L gs bo AG cG bR b9 b10 b11 (k + 1) :=
  ⟨h.lm.more (by omega), Nat.le_succ_of_le h.last, h.rig, h.box, h.own, h.out, h.bod, h.gen, h.ne⟩
/-- The log did something; the rest is as it was. -/
theorem PlW.code {k' : Nat} {L' : List (List UInt8)} (h : PlW p g1 g2 bx gm q a b wb wr s F lg lr L gs bo AG cG bR b9 b10 b11 k) (hl : LgM p g1 g2 (gdS litS bx) gm q wb w' s' lg' F' (Sc.startM L' L' (2 + a * b)) (2 * k'))
    (hk : lg'.last ≤ k') (h1 : ∀ j, F' j → F j ∨ wr.heap.size ≤ j) (h2 : But F wr w') : PlW p g1 g2 bx gm q a b wb w' s' F' lg' lr L' gs bo AG cG bR b9 b10 b11 k' :=
  ⟨hl, hk, Sc.bx_dev h.rig h1 h2, Sc.bx_dev h.box h1 h2, Own.but h.own h2 (fun j hj hF => (h.out j hj).1 hF), fun j hj => ⟨fun hf => by
    rcases h1 j hf with h3 | h3
    · exact (h.out j hj).1 h3
    · have := (h.own.lt j hj).2; omega, (h.out j hj).2⟩, Sc.bx_dev h.bod h1 h2, Sc.bx_dev h.gen h1 h2, h.ne⟩
/-- A block of none of these is another one. -/
theorem PlW.other {x : Nat} (h : PlW p g1 g2 bx gm q a b wb wr s F lg lr L gs bo AG cG bR b9 b10 b11 k) (hb : But (fun j => j = x) wr w') (hF : ¬F x) (hw : wb.heap.size ≤ x) (hx : x ≠ bR ∧ x ≠ b9 ∧ x ≠ b10 ∧ x ≠ b11) (ho : ∀ j, (Value.slice AG a cG).ownBlock = some j → j ≠ x) : PlW p g1 g2 bx gm q a b wb w' s F lg lr L gs bo AG cG bR b9 b10 b11 k :=
  ⟨lgm_box h.lm hb hF hw, h.last, ⟨h.rig.1.but hb (fun e => hx.1 e.symm), h.rig.2⟩, ⟨h.box.1.but hb (fun e => hx.2.1 e.symm), h.box.2⟩, Own.but h.own hb (fun j hj e => ho j hj e), h.out, ⟨h.bod.1.but hb (fun e => hx.2.2.1 e.symm), h.bod.2⟩, ⟨h.gen.1.but hb (fun e => hx.2.2.2 e.symm), h.gen.2⟩, h.ne⟩
/-- The box of the document's log is stored anew, its row another one. -/
theorem PlW.setbox (h : PlW p g1 g2 bx gm q a b wb wr s F lg lr L gs bo AG cG bR b9 b10 b11 k) (ho : wr.ownsRow wb.heap.size 77 1 (.slice AG' a cG') a (gv lr'.gens)) (hout : ∀ j, (Value.slice AG' a cG').ownBlock = some j → ¬ F j ∧ j ≠ bR ∧ j ≠ b9 ∧ j ≠ b10 ∧ j ≠ b11) :
    PlW p g1 g2 bx gm q a b wb (wr.setRow b9 (rlC lr' AG' a cG')) s F lg lr' L gs bo AG' cG' bR b9 b10 b11 k := by
  have hb : But (fun j => j = b9) wr (wr.setRow b9 (rlC lr' AG' a cG')) := But.setRow (S := fun j => j = b9) (But.refl _) (Or.inl rfl) _
  obtain ⟨n1, n2, n3, n4, n5, n6⟩ := h.ne
  exact ⟨lgm_box h.lm hb h.box.2.2 h.box.2.1, h.last, ⟨h.rig.1.but hb (fun e => n1 e.symm), h.rig.2⟩, ⟨setRow_heap _ _ _ _ _ _ h.box.1, h.box.2⟩, Own.but ho hb (fun j hj e => (hout j hj).2.2.1 e), hout, ⟨h.bod.1.but hb (fun e => n4 e), h.bod.2⟩, ⟨h.gen.1.but hb (fun e => n5 e), h.gen.2⟩, h.ne⟩
/-- A generation of the document's log is stored. -/
theorem PlW.setgen {qb : Nat} (h : PlW p g1 g2 bx gm q a b wb wr s F lg lr L gs bo (some ⟨qb, 0, none⟩) cG bR b9 b10 b11 k) (j v : Nat) :
    PlW p g1 g2 bx gm q a b wb (wr.setCell ⟨qb, j, none⟩ (.int .u64 (v : Int))) s F lg { lr with gens := lr.gens.set j v } L gs bo (some ⟨qb, 0, none⟩) cG bR b9 b10 b11 k := by
  have hb : But (fun j => j = qb) wr (wr.setCell ⟨qb, j, none⟩ (.int .u64 (v : Int))) := But.setCell (S := fun j => j = qb) (But.refl _) (Or.inl rfl) _
  obtain ⟨m1, m2, m3, m4, m5⟩ := h.out qb rfl
  have hw := (h.own.lt qb rfl).1
  exact ⟨lgm_box h.lm hb m1 hw, h.last, ⟨h.rig.1.but hb (fun e => m2 e.symm), h.rig.2⟩, ⟨h.box.1.but hb (fun e => m3 e.symm), h.box.2⟩, by rw [← gv_set]; exact own_cell1 h.own, h.out, ⟨h.bod.1.but hb (fun e => m4 e.symm), h.bod.2⟩, ⟨h.gen.1.but hb (fun e => m5 e.symm), h.gen.2⟩, h.ne⟩
theorem boC_set (l : List Bo) (j : Nat) (u : Bo) : (boC l).setIfInBounds j (boV u) = boC (l.set j u) := by
  simp [boC, List.map_set]
/-- A body is kept. -/
theorem PlW.setbod (h : PlW p g1 g2 bx gm q a b wb wr s F lg lr L gs bo AG cG bR b9 b10 b11 k) (j : Nat) (u : Bo) : PlW p g1 g2 bx gm q a b wb (wr.setCell ⟨b10, j, none⟩ (boV u)) s F lg lr L gs (bo.set j u) AG cG bR b9 b10 b11 k := by
  have hb : But (fun j => j = b10) wr (wr.setCell ⟨b10, j, none⟩ (boV u)) := But.setCell (S := fun j => j = b10) (But.refl _) (Or.inl rfl) _
  obtain ⟨n1, n2, n3, n4, n5, n6⟩ := h.ne
  exact ⟨lgm_box h.lm hb h.bod.2.2 h.bod.2.1, h.last, ⟨h.rig.1.but hb (fun e => n2 e.symm), h.rig.2⟩, ⟨h.box.1.but hb (fun e => n4 e.symm), h.box.2⟩, Own.but h.own hb (fun j hj e => (h.out j hj).2.2.2.1 e), h.out, ⟨by rw [← boC_set]; exact heap_setCell_same _ _ _ _ _ _ h.bod.1, h.bod.2⟩, ⟨h.gen.1.but hb (fun e => n6 e), h.gen.2⟩, h.ne⟩
/-- And its generation. -/
theorem PlW.setgn (h : PlW p g1 g2 bx gm q a b wb wr s F lg lr L gs bo AG cG bR b9 b10 b11 k) (j v : Nat) : PlW p g1 g2 bx gm q a b wb (wr.setCell ⟨b11, j, none⟩ (.int .u64 (v : Int))) s F lg lr L (gs.set j v) bo AG cG bR b9 b10 b11 k := by
  have hb : But (fun j => j = b11) wr (wr.setCell ⟨b11, j, none⟩ (.int .u64 (v : Int))) := But.setCell (S := fun j => j = b11) (But.refl _) (Or.inl rfl) _
  obtain ⟨n1, n2, n3, n4, n5, n6⟩ := h.ne
  exact ⟨lgm_box h.lm hb h.gen.2.2 h.gen.2.1, h.last, ⟨h.rig.1.but hb (fun e => n3 e.symm), h.rig.2⟩, ⟨h.box.1.but hb (fun e => n5 e.symm), h.box.2⟩, Own.but h.own hb (fun j hj e => (h.out j hj).2.2.2.2 e), h.out, ⟨h.bod.1.but hb (fun e => n6 e.symm), h.bod.2⟩, ⟨by rw [← gv_set, ← List.setIfInBounds_toArray]; exact heap_setCell_same _ _ _ _ _ _ h.gen.1, h.gen.2⟩, h.ne⟩
theorem PlS.below (h : PlS p g1 g2 bx gm q a b wb wr s F lg lr L gs bo AG cG bR b9 b10 b11 k) (hb : Below wr.heap.size wr w') : PlS p g1 g2 bx gm q a b wb w' s F lg lr L gs bo AG cG bR b9 b10 b11 k := ⟨h.toPlW.below hb, h.pl⟩
theorem PlS.next (h : PlS p g1 g2 bx gm q a b wb wr s F lg lr L gs bo AG cG bR b9 b10 b11 k) : PlS p g1 g2 bx gm q a b wb wr s F lg lr L gs bo AG cG bR b9 b10 b11 (k + 1) := ⟨h.toPlW.next, h.pl⟩
theorem PlS.code {k' : Nat} {L' : List (List UInt8)} (h : PlS p g1 g2 bx gm q a b wb wr s F lg lr L gs bo AG cG bR b9 b10 b11 k) (hl : LgM p g1 g2 (gdS litS bx) gm q wb w' s' lg' F' (Sc.startM L' L' (2 + a * b)) (2 * k'))
    (hp : PlI a b lg' L' gs bo) (hk : lg'.last ≤ k') (h1 : ∀ j, F' j → F j ∨ wr.heap.size ≤ j) (h2 : But F wr w') : PlS p g1 g2 bx gm q a b wb w' s' F' lg' lr L' gs bo AG cG bR b9 b10 b11 k' := ⟨h.toPlW.code hl hk h1 h2, hp⟩
theorem PlS.setbox (h : PlS p g1 g2 bx gm q a b wb wr s F lg lr L gs bo AG cG bR b9 b10 b11 k) (ho : wr.ownsRow wb.heap.size 77 1 (.slice AG' a cG') a (gv lr'.gens)) (hout : ∀ j, (Value.slice AG' a cG').ownBlock = some j → ¬ F j ∧ j ≠ bR ∧ j ≠ b9 ∧ j ≠ b10 ∧ j ≠ b11) :
    PlS p g1 g2 bx gm q a b wb (wr.setRow b9 (rlC lr' AG' a cG')) s F lg lr' L gs bo AG' cG' bR b9 b10 b11 k := ⟨h.toPlW.setbox ho hout, h.pl⟩
theorem PlS.setgen {qb : Nat} (h : PlS p g1 g2 bx gm q a b wb wr s F lg lr L gs bo (some ⟨qb, 0, none⟩) cG bR b9 b10 b11 k) (j v : Nat) :
    PlS p g1 g2 bx gm q a b wb (wr.setCell ⟨qb, j, none⟩ (.int .u64 (v : Int))) s F lg { lr with gens := lr.gens.set j v } L gs bo (some ⟨qb, 0, none⟩) cG bR b9 b10 b11 k := ⟨h.toPlW.setgen j v, h.pl⟩
theorem gen_le {l : Lg} {t : Nat × Nat × Nat} (hf : l.Fine) (h : l.next = some t) : t.2.2 ≤ l.last + 1 := by
  have new : (freeK l.gens).map (fun k => (k, 0, l.last + 1)) = some t → t.2.2 ≤ l.last + 1 := by
    intro h
    cases hk : freeK l.gens with
    | none => rw [hk] at h; cases h
    | some k => rw [hk] at h; simp only [Option.map_some, Option.some.injEq] at h; rw [← h]; exact Nat.le_refl _
  have old : ∀ i, l.gens.getD i 0 ≤ l.last := fun i => by
    rw [List.getD_eq_getElem?_getD]
    cases hi : l.gens[i]? with
    | none => exact Nat.zero_le _
    | some g => exact hf.le g (List.mem_of_getElem? hi)
  unfold Lg.next at h
  split at h
  · split at h
    · injection h with h; rw [← h]; exact Nat.le_succ_of_le (old _)
    · exact new h
  · exact new h
/-- What is appended: by which way. -/
def apWay (lg : Lg) (L : List (List UInt8)) (u : List UInt8) (at_ er : Int) (lg2 : Lg) (L2 : List (List UInt8)) : Prop :=
  (103 < u.length ∧ at_ = 0 ∧ er = 3 ∧ lg = lg2 ∧ L = L2) ∨ (u.length ≤ 103 ∧ lg.next = none ∧ at_ = 0 ∧ er = 6 ∧ lg = lg2 ∧ L = L2) ∨
  (u.length ≤ 103 ∧ ∃ t, lg.next = some t ∧ at_ = (lg.at_ t : Int) ∧ er = 0 ∧ lg2 = lg.put t ∧ L2 = L.set (lg.at_ t) (sealedS litSumL (lg.at_ t : Int) t.2.2 u))
theorem play_append (h : PlS p g1 g2 bx gm q a b wb wr s F lg lr L gs bo AG cG bR b9 b10 b11 k) (h0 : 0 < b) (hk : k ≤ 1000) (A : Option Addr) (n c : Nat) (u : List UInt8) (hu : u.length = n) (hr : Rd wr.heap.size wr A (bv u)) :
    Calls Try.prog 38 #[.pointer (some ⟨q, 0, none⟩), .slice A n c] wr (fun e w' => ∃ at_ er lg2 L2 s2 F2, e = .returned (.tuple #[.int .i64 at_, .int .i64 er]) ∧ apWay lg L u at_ er lg2 L2 ∧
      PlW p g1 g2 bx gm q a b wb w' s2 F2 lg2 lr L2 gs bo AG cG bR b9 b10 b11 (k + 1) ∧ (∀ j, F2 j → F j ∨ wr.heap.size ≤ j) ∧ But F wr w' ∧ (lg2.last ≤ k + 1)) := by
  have hl := h.last
  by_cases hn : 103 < n
  · refine (lgm_append_long h.lm (by omega) (by omega) A n c u hu hn hr).mono ?_
    rintro e w' ⟨rfl, s', F', hlm, hmv⟩
    exact ⟨0, 3, lg, L, s', F', rfl, .inl ⟨by omega, rfl, rfl, rfl, rfl⟩, h.toPlW.code (hlm.more (by omega)) (by omega) hmv.new hmv.but, hmv.new, hmv.but, by omega⟩
  · cases hx : lg.next with
    | none =>
      refine (lgm_append_full h.lm (by omega) (by omega) hx A n c u hu (by omega) hr).mono ?_
      rintro e w' ⟨rfl, s', F', hlm, hmv⟩
      exact ⟨0, 6, lg, L, s', F', rfl, .inr (.inl ⟨by omega, hx, rfl, rfl, rfl, rfl⟩), h.toPlW.code (hlm.more (by omega)) (by omega) hmv.new hmv.but, hmv.new, hmv.but, by omega⟩
    | some t =>
      have hsz : 0 < lg.size := by rw [h.pl.size]; exact h0
      obtain ⟨h1, h2, h3, h4, h5⟩ := next_at h.pl h.lm.fine h0 hx
      have hg := gen_le h.lm.fine hx
      have hw := one_write (L := L) (M := L) (n := 2 + a * b) (j := lg.at_ t) h5 (sealedS litSumL (lg.at_ t : Int) t.2.2 u)
      have hc := lgm_append h.lm (by omega) (by omega) hsz hx A n c u hu (by omega) hr (by rw [show litS.f = litSumL from rfl, hw])
      rw [show litS.f = litSumL from rfl, hw] at hc
      refine hc.mono ?_
      rintro e w' ⟨rfl, s', F', hlm, hmv⟩
      have hpl : (lg.put t).last ≤ k + 1 := by
        show max lg.last t.2.2 ≤ k + 1
        omega
      exact ⟨_, 0, lg.put t, _, s', F', rfl, .inr (.inr ⟨by omega, t, hx, rfl, rfl, rfl, rfl⟩), h.toPlW.code (hlm.more (by omega)) hpl hmv.new hmv.but, hmv.new, hmv.but, hpl⟩
end
theorem read_out {a b : Nat} {lg : Lg} {L : List (List UInt8)} {gs : List Nat} {bo : List Bo} (h : PlI a b lg L gs bo) {k : Int} (hk : ¬(2 ≤ k ∧ k < 2 + (a : Int) * (b : Int))) (G : Gd) (x : Md) : readX G x lg k = ([], 2) := by
  rw [readX, if_neg (fun hh => hk ⟨hh.1, by rw [h.len, h.size] at hh; exact hh.2.1⟩)]
theorem read_in {a b bx T : Nat} {lg : Lg} {L : List (List UInt8)} {gs : List Nat} {bo : List Bo} (h : PlI a b lg L gs bo) (h2 : 2 ≤ T) (h3 : T < 2 + a * b) :
    readX (gdS litS bx) (Sc.startM L L (2 + a * b)) lg (T : Int) = (if lg.gens.getD ((T - 2) / b) 0 = 0 then ([], 2) else if gs.getD T 0 = lg.gens.getD ((T - 2) / b) 0 then ((bo.getD T nilB).b, 0) else ([], 9) : List UInt8 × Int) := by
  rw [one_readX h3, h.len, h.size, h.seen T h2 h3]
  by_cases h0 : lg.gens.getD ((T - 2) / b) 0 = 0
  · rw [if_neg (fun hh => hh.2.2 h0), if_pos h0]
  · rw [if_pos ⟨h2, h3, h0⟩, if_neg h0]
    by_cases hg : gs.getD T 0 = 0
    · rw [if_pos hg, if_neg (fun e => h0 (by rw [← e]; exact hg))]
    · rw [if_neg hg]
theorem at_of {a b T : Nat} (h0 : 0 < b) (h2 : 2 ≤ T) (h3 : T < 2 + a * b) : ∃ i j : Nat, i = (T - 2) / b ∧ i < a ∧ j < b ∧ (2 + (i : Int) * (b : Int) + (j : Int)) = (T : Int) := by
  refine ⟨(T - 2) / b, (T - 2) % b, rfl, ?_, Nat.mod_lt _ h0, ?_⟩
  · apply Nat.div_lt_of_lt_mul
    rw [Nat.mul_comm]; omega
  · have h := Nat.div_add_mod (T - 2) b
    rw [Nat.mul_comm] at h
    have e : (((T - 2) / b * b : Nat) : Int) = (((T - 2) / b : Nat) : Int) * (b : Int) := Int.natCast_mul _ _
    rw [← e]
    omega
theorem bo_get {bo : List Bo} {T : Nat} (h : T < bo.length) : (boC bo)[T]? = some (boV (bo.getD T nilB)) := by
  simp [boC, List.getD_eq_getElem?_getD, List.getElem?_eq_getElem h]
theorem bo_mem {bo : List Bo} {T : Nat} (h : T < bo.length) : bo.getD T nilB ∈ bo := by
  rw [List.getD_eq_getElem?_getD, List.getElem?_eq_getElem h]
  exact List.getElem_mem h
/-- The bodies lie where the acts' do. -/
def BoOk (w : World) (bo : List Bo) : Prop := ∀ x ∈ bo, Rd w.heap.size w x.A (bv x.b) ∧ x.b.length ≤ x.c ∧ x.c ≤ maxLen
theorem bo_new (w : World) : BoOk w (List.replicate 40 nilB) := fun x hx => by
  rw [(List.mem_replicate.1 hx).2]
  exact ⟨Rd.none, Nat.le_refl _, Nat.zero_le _⟩
end Go.Proofs.Ytnplhagfmfggcaa
/-
  The laws' alike: a log knows what the document's answer says.
-/
namespace Go.Proofs.Ytnplhagfmfggcaa.Lo
open Go.RowKit Kd Mi Sx
attribute [local go_sem ↓] Go.wp_at_zero Go.wp_at_succ
section
variable {p g1 g2 g q : Nat} {G : Gd} {w0 w : World} {s : Mr (Mu.one p g1 g2)} {l : Lg} {F : Nat → Prop} {x : Md} {m : Nat}
set_option maxRecDepth 100000 in
set_option maxHeartbeats 6400000 in
theorem alike_any (h : LgM p g1 g2 G g q w0 w s l F x m) (A : Option Addr) (n c : Nat) (hn : l.gens.length = n) (hs : n ≤ 1000) (hz : l.size ≤ 1000) (hr : Rd w.heap.size w A (gv l.gens)) :
    Calls Try.prog 40 #[.pointer (some ⟨q, 0, none⟩), .agg (rlC l A n c)] w (RetB (.bool true) w) := by
  have HN := Lib.hid hn
  have HS := Lib.hid hs
  have HR0 := Lib.hid hr
  obtain ⟨I, hI⟩ : ∃ I, I = l.headI := ⟨_, rfl⟩
  obtain ⟨J, hJ⟩ : ∃ J, J = l.slotI := ⟨_, rfl⟩
  have HRR := Lib.hid (fun W (hR : Rd W.heap.size W A (gv l.gens)) => rroom_any l A n c hn hs hz h.fine W hR)
  unfold rlC at HRR
  rw [← hI, ← hJ] at HRR
  have HIJ := Lib.hid (show I < 0 → J = 0 from by
    rw [hI, hJ, Lg.headI, Lg.slotI]
    cases l.h with
    | none => exact fun _ => rfl
    | some p => intro hp; exfalso; revert hp; show ¬ ((p.1 : Int) < 0); omega)
  have HHD := Lib.hid (fun W s F (hW : LgM p g1 g2 G g q w0 W s l F x m) => show Calls Try.prog 82 #[.pointer (some ⟨q, 0, none⟩)] W (RetB (.tuple #[.int .i64 I, .int .i64 J]) W) by rw [hI, hJ]; exact lgm_head hW)
  obtain ⟨w1, hw1⟩ : ∃ W, W = w.alloc (.cells (rlC l A n c) 79) := ⟨_, rfl⟩
  have bw1 : Below w.heap.size w w1 := by rw [hw1]; exact (Below.refl _ _).alloc (Nat.le_refl _) _
  have X1 := Lib.hid (show Blk w1 w.heap.size #[.int .i64 (l.size : Int), .int .i64 I, .int .i64 J, .slice A n c, .int .u64 (l.last : Int)] 79 by rw [hw1, hI, hJ]; exact heap_alloc_new _ _)
  have H1 := Lib.hid (h.below bw1)
  have R1 := Lib.hid (hr.below bw1)
  have B1 := Lib.hid bw1
  unfold rlC at hw1
  unfold rlC
  rw [← hI, ← hJ] at hw1
  rw [← hI, ← hJ]
  clear h hn hs hz hr bw1 hI hJ
  go_enter Try.func40, Try.ntmps40
  go_wp2_with fail
  rw [← hw1]
  clear hw1
  refine (HHD.out _ _ _ H1.out).mono ?_
  rintro e w2 ⟨rfl, bw⟩
  have X2 := Lib.hid (X1.out.below bw)
  have H2 := Lib.hid (H1.out.below bw)
  have R2 := Lib.hid (R1.out.below (bw.mono B1.out.size))
  have B2 := Lib.hid (B1.out.trans (bw.mono B1.out.size))
  clear bw X1 H1 R1 B1 HHD
  have c1 := X2.out.cell 1
  have c2 := X2.out.cell 2
  by_cases hneg : I < 0
  · have hj := HIJ.out hneg
    subst hj
    go_wp2_with fail
    clear c1 c2
    refine wp_region_held_drew (S := fun w' => Blk w' w.heap.size #[.int .i64 (l.size : Int), .int .i64 I, .int .i64 0, .slice A n c, .int .u64 (l.last : Int)] 79) (by kernel_rfl) (show Blk (World.drew _) _ _ _ from X2.out) (fun hh => ?_)
    have HH := Lib.hid hh
    clear hh
    obtain ⟨w3, hw3⟩ : ∃ W, W = w2.drew := ⟨_, rfl⟩
    have bd : Below w2.heap.size w2 w3 := by rw [hw3]; exact (Below.refl _ _).drew
    have HL := Lib.hid (H2.out.below bd)
    have RL := Lib.hid (R2.out.below (bd.mono B2.out.size))
    have BL := Lib.hid (B2.out.trans (bd.mono B2.out.size))
    rw [← hw3] at HH
    rw [← hw3]
    clear hw3 bd H2 R2 B2 X2
    try simp only [List.getElem_toArray, List.getElem_cons_succ, List.getElem_cons_zero, Act.put, List.setIfInBounds_toArray, List.set_cons_zero, List.set_cons_succ]
    refine wpAnyH_take (i := 0) (v := ?v2) rfl (by kernel_rfl) (by kernel_rfl) (by kernel_rfl) (fun _ _ _ h => h) (Or.inl ⟨by rfl, fun w' hw' => ?y2⟩) HH.out ?_
    case y2 => (go_simp; try with_reducible rfl)
    try simp only [List.getElem_toArray, List.getElem_cons_zero, Act.put, List.setIfInBounds_toArray, List.set_cons_zero, List.set_cons_succ]
    refine wpAnyH_take (i := 1) (v := ?v3) rfl (by kernel_rfl) (by kernel_rfl) (by kernel_rfl) (fun _ _ _ h => h) (Or.inl ⟨by rfl, fun w' hw' => ?y3⟩) HH.out ?_
    case y3 => (go_simp; try with_reducible rfl)
    try simp only [List.getElem_toArray, List.getElem_cons_succ, List.getElem_cons_zero, Act.put, List.setIfInBounds_toArray, List.set_cons_zero, List.set_cons_succ]
    refine wpAnyH_take (i := 2) (v := .int .i64 I) rfl (by kernel_rfl) (by kernel_rfl) (by kernel_rfl) (fun _ _ _ h => h) (Or.inl ⟨by rfl, fun w' hw' => ?y4⟩) HH.out ?_
    case y4 => (have c0 := hw'.cell 1; go_simp; try with_reducible rfl)
    try simp only [List.getElem_toArray, List.getElem_cons_succ, List.getElem_cons_zero, Act.put, List.setIfInBounds_toArray, List.set_cons_zero, List.set_cons_succ]
    refine wpAnyH_take (i := 3) (v := .bool false) rfl (by kernel_rfl) (by kernel_rfl) (by kernel_rfl) (fun _ _ _ h => h) (Or.inl ⟨by rfl, fun w' hw' => ?y5⟩) HH.out ?_
    case y5 => (go_simp; try with_reducible rfl)
    try simp only [List.getElem_toArray, List.getElem_cons_succ, List.getElem_cons_zero, Act.put, List.setIfInBounds_toArray, List.set_cons_zero, List.set_cons_succ]
    refine wpAnyH_take (i := 4) (v := ?v6) rfl (by kernel_rfl) (by kernel_rfl) (by kernel_rfl) (fun _ _ _ h => h) (Or.inl ⟨by rfl, fun w' hw' => ?y6⟩) HH.out ?_
    case y6 => (go_simp; try with_reducible rfl)
    try simp only [List.getElem_toArray, List.getElem_cons_succ, List.getElem_cons_zero, Act.put, List.setIfInBounds_toArray, List.set_cons_zero, List.set_cons_succ]
    refine wpAnyH_take (i := 5) (v := ?v7) rfl (by kernel_rfl) (by kernel_rfl) (by kernel_rfl) (fun _ _ _ h => h) (Or.inl ⟨by rfl, fun w' hw' => ?y7⟩) HH.out ?_
    case y7 => (go_simp; try with_reducible rfl)
    try simp only [List.getElem_toArray, List.getElem_cons_succ, List.getElem_cons_zero, Act.put, List.setIfInBounds_toArray, List.set_cons_zero, List.set_cons_succ]
    refine wpAnyH_take (i := 6) (v := ?v8) rfl (by kernel_rfl) (by kernel_rfl) (by kernel_rfl) (fun _ _ _ h => h) (Or.inl ⟨by rfl, fun w' hw' => ?y8⟩) HH.out ?_
    case y8 => (go_simp; try with_reducible rfl)
    try simp only [List.getElem_toArray, List.getElem_cons_succ, List.getElem_cons_zero, Act.put, List.setIfInBounds_toArray, List.set_cons_zero, List.set_cons_succ]
    refine wpAnyH_take (i := 7) (v := .bool false) rfl (by kernel_rfl) (by kernel_rfl) (by kernel_rfl) (fun _ _ _ h => h) (Or.inl ⟨by rfl, fun w' hw' => ?y9⟩) HH.out ?_
    case y9 => (go_simp; try with_reducible rfl)
    try simp only [List.getElem_toArray, List.getElem_cons_succ, List.getElem_cons_zero, Act.put, List.setIfInBounds_toArray, List.set_cons_zero, List.set_cons_succ]
    refine wpAnyH_take (i := 8) (v := ?v10) rfl (by kernel_rfl) (by kernel_rfl) (by kernel_rfl) (fun _ _ _ h => h) (Or.inl ⟨by rfl, fun w' hw' => ?y10⟩) HH.out ?_
    case y10 => (go_simp; try with_reducible rfl)
    try simp only [List.getElem_toArray, List.getElem_cons_succ, List.getElem_cons_zero, Act.put, List.setIfInBounds_toArray, List.set_cons_zero, List.set_cons_succ]
    refine wpAnyH_take (i := 9) (v := ?v11) rfl (by kernel_rfl) (by kernel_rfl) (by kernel_rfl) (fun _ _ _ h => h) (Or.inl ⟨by rfl, fun w' hw' => ?y11⟩) HH.out ?_
    case y11 => (go_simp; try with_reducible rfl)
    try simp only [List.getElem_toArray, List.getElem_cons_succ, List.getElem_cons_zero, Act.put, List.setIfInBounds_toArray, List.set_cons_zero, List.set_cons_succ]
    refine wpAnyH_take (i := 10) (v := ?v12) rfl (by kernel_rfl) (by kernel_rfl) (by kernel_rfl) (fun _ _ _ h => h) (Or.inl ⟨by rfl, fun w' hw' => ?y12⟩) HH.out ?_
    case y12 => (go_simp; try with_reducible rfl)
    try simp only [List.getElem_toArray, List.getElem_cons_succ, List.getElem_cons_zero, Act.put, List.setIfInBounds_toArray, List.set_cons_zero, List.set_cons_succ]
    refine wpAnyH_take (i := 12) (v := .agg #[.int .i64 (l.size : Int), .int .i64 I, .int .i64 0, .slice A n c, .int .u64 (l.last : Int)]) rfl (by kernel_rfl) (by kernel_rfl) (by kernel_rfl) (fun _ _ _ h => h) (Or.inl ⟨by rfl, fun w' hw' => ?y1⟩) HH.out ?_
    case y1 => exact exec_load 79 (.tmp 3) rfl rfl hw' Try.underlying79 rfl rfl
    try simp only [List.getElem_toArray, List.getElem_cons_succ, List.getElem_cons_zero, Act.put, List.setIfInBounds_toArray, List.set_cons_zero, List.set_cons_succ]
    refine wpAnyH_ready (rs := [11]) (by kernel_rfl) (by simp) (AllReadyH.cons rfl (fun K hK => ?_) AllReadyH.nil)
    rw [if_pos (by rfl)]
    go_simp
    refine (lgm_room HL.out).mono ?_
    rintro e x1 ⟨rfl, bw⟩
    have HL2 := Lib.hid (HL.out.below bw)
    have RL2 := Lib.hid (RL.out.below (bw.mono (by have := BL.out.size; exact this)))
    have BL2 := Lib.hid (BL.out.trans (bw.mono BL.out.size))
    go_simp
    refine hK.out _ _ (HH.out.below bw) (fun hh => ?_)
    have HH' := Lib.hid hh
    clear hh hK K HH bw HL RL BL
    have HH := Lib.hid HH'.out
    have HL := Lib.hid HL2.out
    have RL := Lib.hid RL2.out
    have BL := Lib.hid BL2.out
    clear HH' HL2 RL2 BL2
    try simp only [List.getElem_toArray, List.getElem_cons_succ, List.getElem_cons_zero, Act.put, List.setIfInBounds_toArray, List.set_cons_zero, List.set_cons_succ]
    refine wpAnyH_ready (rs := [13]) (by kernel_rfl) (by simp) (AllReadyH.cons rfl (fun K hK => ?_) AllReadyH.nil)
    rw [if_pos (by rfl)]
    go_simp
    refine (HRR.out _ (RL.out.more (by have := BL.out.size; exact this))).mono ?_
    rintro e x2 ⟨rfl, bw⟩
    have HL2 := Lib.hid (HL.out.below bw)
    have RL2 := Lib.hid (RL.out.below (bw.mono (by have := BL.out.size; exact this)))
    have BL2 := Lib.hid (BL.out.trans (bw.mono BL.out.size))
    go_simp
    refine hK.out _ _ (HH.out.below bw) (fun hh => ?_)
    have HH' := Lib.hid hh
    clear hh hK K HH bw HL RL BL
    have HH := Lib.hid HH'.out
    have HL := Lib.hid HL2.out
    have RL := Lib.hid RL2.out
    have BL := Lib.hid BL2.out
    clear HH' HL2 RL2 BL2
    try simp only [List.getElem_toArray, List.getElem_cons_succ, List.getElem_cons_zero, Act.put, List.setIfInBounds_toArray, List.set_cons_zero, List.set_cons_succ]
    refine wpAnyH_take (i := 14) (v := .bool false) rfl (by kernel_rfl) (by kernel_rfl) (by kernel_rfl) (fun _ _ _ h => h) (Or.inl ⟨by rfl, fun w' hw' => ?y13⟩) HH.out ?_
    case y13 => (go_simp; try with_reducible rfl)
    try simp only [List.getElem_toArray, List.getElem_cons_succ, List.getElem_cons_zero, Act.put, List.setIfInBounds_toArray, List.set_cons_zero, List.set_cons_succ]
    refine wpAnyH_take (i := 15) (v := ?v14) rfl (by kernel_rfl) (by kernel_rfl) (by kernel_rfl) (fun _ _ _ h => h) (Or.inl ⟨by rfl, fun w' hw' => ?y14⟩) HH.out ?_
    case y14 => (go_simp; try with_reducible rfl)
    try simp only [List.getElem_toArray, List.getElem_cons_succ, List.getElem_cons_zero, Act.put, List.setIfInBounds_toArray, List.set_cons_zero, List.set_cons_succ]
    refine wpAnyH_done (by kernel_rfl) ?_ _
    have X4 := Lib.hid HH.out
    clear HH HRR
    have c3 := X4.out.cell 3
    go_wp2_with fail
    go_loopw [39] (fun i wr => ∃ k : Nat, k ≤ n ∧ i = .int .i64 (k : Int) ∧ Hid (LgM p g1 g2 G g q w0 wr s l F x m) ∧ Hid (Blk wr w.heap.size #[.int .i64 (l.size : Int), .int .i64 I, .int .i64 0, .slice A n c, .int .u64 (l.last : Int)] 79) ∧ Hid (Below w.heap.size w wr)) (fun i _ => n - (intOf i).toNat)
    case atStart => exact ⟨0, Nat.zero_le _, rfl, HL, X4, BL⟩
    case round =>
      obtain ⟨k, hk, rfl, HR, XR, BR⟩ := hrel
      have HK := Lib.hid hk
      by_cases hlt : k < n
      · have HLT := Lib.hid hlt
        have j0 : (0 : Int) ≤ (k : Int) := by omega
        have j1 : (k : Int) < (n : Int) := by omega
        have wp1 : IntKind.i64.wrap ((k : Int) + 1) = ((k + 1 : Nat) : Int) := IntWalk.i64_in _ (by have := HS.out; omega)
        have RR := HR0.out.below BR.out
        obtain ⟨ad, hA, _, hcell⟩ := RR _ _ (gv_get (l := l.gens) (k := k) (by rw [HN.out]; exact hlt))
        subst hA
        obtain ⟨gk, hgk⟩ : ∃ gk, gk = l.gens.getD k 0 := ⟨_, rfl⟩
        rw [← hgk] at hcell
        have HG := Lib.hid (show Calls Try.prog 83 #[.pointer (some ⟨q, 0, none⟩), .int .i64 (k : Int)] wr (RetB (.int .u64 (gk : Int)) wr) by
          have hc := lgm_gen HR.out (k : Int) (by omega) (by have := HS.out; omega)
          rw [if_pos j0, Int.toNat_natCast, ← hgk] at hc
          exact hc)
        clear hlt hk RR hgk
        go_wp2_with fail
        refine HG.out.mono ?_
        rintro e x5 ⟨rfl, bw⟩
        have HR2 := Lib.hid (HR.out.below bw)
        have XR2 := Lib.hid (XR.out.below bw)
        have BR2 := Lib.hid (BR.out.trans (bw.mono BR.out.size))
        clear bw HR XR BR HG hcell
        go_wp2_with fail
        go_round
        case rel => exact ⟨k + 1, HLT.out, rfl, HR2, XR2, BR2⟩
        case measure => have := HLT.out; simp [intOf]; omega
      · have hd : ¬ (k : Int) < (n : Int) := by omega
        have HG := Lib.hid (show Calls Try.prog 83 #[.pointer (some ⟨q, 0, none⟩), .int .i64 (-1)] wr (RetB (.int .u64 0) wr) from lgm_gen HR.out (-1) (by omega) (by omega))
        clear hlt hk
        go_wp2_with fail
        refine HG.out.mono ?_
        rintro e x5 ⟨rfl, bw⟩
        have HR2 := Lib.hid (HR.out.below bw)
        have XR2 := Lib.hid (XR.out.below bw)
        have BR2 := Lib.hid (BR.out.trans (bw.mono BR.out.size))
        clear bw HR XR BR HG
        have c3 := XR2.out.cell 3
        have HG := Lib.hid (show Calls Try.prog 83 #[.pointer (some ⟨q, 0, none⟩), .int .i64 (n : Int)] x5 (RetB (.int .u64 0) x5) by
          have hc := lgm_gen HR2.out (n : Int) (by omega) (by have := HS.out; omega)
          rw [if_pos (by omega), Int.toNat_natCast, show l.gens.getD n 0 = 0 by rw [List.getD_eq_getElem?_getD, List.getElem?_eq_none (by rw [HN.out]; exact Nat.le_refl _)]; rfl] at hc
          exact hc)
        go_wp2_with fail
        refine HG.out.mono ?_
        rintro e x6 ⟨rfl, bw⟩
        go_wp2_with fail
        go_ret
        exact ⟨rfl, BR2.out.trans (bw.mono BR2.out.size)⟩
  · go_wp2_with fail
    clear c1 c2
    refine wp_region_held_drew (S := fun w' => Blk w' w.heap.size #[.int .i64 (l.size : Int), .int .i64 I, .int .i64 J, .slice A n c, .int .u64 (l.last : Int)] 79) (by kernel_rfl) (show Blk (World.drew _) _ _ _ from X2.out) (fun hh => ?_)
    have HH := Lib.hid hh
    clear hh
    obtain ⟨w3, hw3⟩ : ∃ W, W = w2.drew := ⟨_, rfl⟩
    have bd : Below w2.heap.size w2 w3 := by rw [hw3]; exact (Below.refl _ _).drew
    have HL := Lib.hid (H2.out.below bd)
    have RL := Lib.hid (R2.out.below (bd.mono B2.out.size))
    have BL := Lib.hid (B2.out.trans (bd.mono B2.out.size))
    rw [← hw3] at HH
    rw [← hw3]
    clear hw3 bd H2 R2 B2 X2
    try simp only [List.getElem_toArray, List.getElem_cons_succ, List.getElem_cons_zero, Act.put, List.setIfInBounds_toArray, List.set_cons_zero, List.set_cons_succ]
    refine wpAnyH_take (i := 0) (v := ?v16) rfl (by kernel_rfl) (by kernel_rfl) (by kernel_rfl) (fun _ _ _ h => h) (Or.inl ⟨by rfl, fun w' hw' => ?y16⟩) HH.out ?_
    case y16 => (go_simp; try with_reducible rfl)
    try simp only [List.getElem_toArray, List.getElem_cons_zero, Act.put, List.setIfInBounds_toArray, List.set_cons_zero, List.set_cons_succ]
    refine wpAnyH_take (i := 1) (v := ?v17) rfl (by kernel_rfl) (by kernel_rfl) (by kernel_rfl) (fun _ _ _ h => h) (Or.inl ⟨by rfl, fun w' hw' => ?y17⟩) HH.out ?_
    case y17 => (go_simp; try with_reducible rfl)
    try simp only [List.getElem_toArray, List.getElem_cons_succ, List.getElem_cons_zero, Act.put, List.setIfInBounds_toArray, List.set_cons_zero, List.set_cons_succ]
    refine wpAnyH_take (i := 2) (v := .int .i64 I) rfl (by kernel_rfl) (by kernel_rfl) (by kernel_rfl) (fun _ _ _ h => h) (Or.inl ⟨by rfl, fun w' hw' => ?y18⟩) HH.out ?_
    case y18 => (have c0 := hw'.cell 1; go_simp; try with_reducible rfl)
    try simp only [List.getElem_toArray, List.getElem_cons_succ, List.getElem_cons_zero, Act.put, List.setIfInBounds_toArray, List.set_cons_zero, List.set_cons_succ]
    refine wpAnyH_take (i := 3) (v := .bool false) rfl (by kernel_rfl) (by kernel_rfl) (by kernel_rfl) (fun _ _ _ h => h) (Or.inl ⟨by rfl, fun w' hw' => ?y19⟩) HH.out ?_
    case y19 => (go_simp; try with_reducible rfl)
    try simp only [List.getElem_toArray, List.getElem_cons_succ, List.getElem_cons_zero, Act.put, List.setIfInBounds_toArray, List.set_cons_zero, List.set_cons_succ]
    refine wpAnyH_take (i := 4) (v := ?v20) rfl (by kernel_rfl) (by kernel_rfl) (by kernel_rfl) (fun _ _ _ h => h) (Or.inl ⟨by rfl, fun w' hw' => ?y20⟩) HH.out ?_
    case y20 => (go_simp; try with_reducible rfl)
    try simp only [List.getElem_toArray, List.getElem_cons_succ, List.getElem_cons_zero, Act.put, List.setIfInBounds_toArray, List.set_cons_zero, List.set_cons_succ]
    refine wpAnyH_take (i := 5) (v := ?v21) rfl (by kernel_rfl) (by kernel_rfl) (by kernel_rfl) (fun _ _ _ h => h) (Or.inl ⟨by rfl, fun w' hw' => ?y21⟩) HH.out ?_
    case y21 => (go_simp; try with_reducible rfl)
    try simp only [List.getElem_toArray, List.getElem_cons_succ, List.getElem_cons_zero, Act.put, List.setIfInBounds_toArray, List.set_cons_zero, List.set_cons_succ]
    refine wpAnyH_take (i := 6) (v := ?v22) rfl (by kernel_rfl) (by kernel_rfl) (by kernel_rfl) (fun _ _ _ h => h) (Or.inl ⟨by rfl, fun w' hw' => ?y22⟩) HH.out ?_
    case y22 => (go_simp; try with_reducible rfl)
    try simp only [List.getElem_toArray, List.getElem_cons_succ, List.getElem_cons_zero, Act.put, List.setIfInBounds_toArray, List.set_cons_zero, List.set_cons_succ]
    refine wpAnyH_take (i := 7) (v := .bool false) rfl (by kernel_rfl) (by kernel_rfl) (by kernel_rfl) (fun _ _ _ h => h) (Or.inl ⟨by rfl, fun w' hw' => ?y23⟩) HH.out ?_
    case y23 => (go_simp; try with_reducible rfl)
    try simp only [List.getElem_toArray, List.getElem_cons_succ, List.getElem_cons_zero, Act.put, List.setIfInBounds_toArray, List.set_cons_zero, List.set_cons_succ]
    refine wpAnyH_take (i := 8) (v := ?v24) rfl (by kernel_rfl) (by kernel_rfl) (by kernel_rfl) (fun _ _ _ h => h) (Or.inl ⟨by rfl, fun w' hw' => ?y24⟩) HH.out ?_
    case y24 => (go_simp; try with_reducible rfl)
    try simp only [List.getElem_toArray, List.getElem_cons_succ, List.getElem_cons_zero, Act.put, List.setIfInBounds_toArray, List.set_cons_zero, List.set_cons_succ]
    refine wpAnyH_take (i := 9) (v := ?v25) rfl (by kernel_rfl) (by kernel_rfl) (by kernel_rfl) (fun _ _ _ h => h) (Or.inl ⟨by rfl, fun w' hw' => ?y25⟩) HH.out ?_
    case y25 => (go_simp; try with_reducible rfl)
    try simp only [List.getElem_toArray, List.getElem_cons_succ, List.getElem_cons_zero, Act.put, List.setIfInBounds_toArray, List.set_cons_zero, List.set_cons_succ]
    refine wpAnyH_take (i := 10) (v := ?v26) rfl (by kernel_rfl) (by kernel_rfl) (by kernel_rfl) (fun _ _ _ h => h) (Or.inl ⟨by rfl, fun w' hw' => ?y26⟩) HH.out ?_
    case y26 => (go_simp; try with_reducible rfl)
    try simp only [List.getElem_toArray, List.getElem_cons_succ, List.getElem_cons_zero, Act.put, List.setIfInBounds_toArray, List.set_cons_zero, List.set_cons_succ]
    refine wpAnyH_take (i := 12) (v := .agg #[.int .i64 (l.size : Int), .int .i64 I, .int .i64 J, .slice A n c, .int .u64 (l.last : Int)]) rfl (by kernel_rfl) (by kernel_rfl) (by kernel_rfl) (fun _ _ _ h => h) (Or.inl ⟨by rfl, fun w' hw' => ?y15⟩) HH.out ?_
    case y15 => exact exec_load 79 (.tmp 3) rfl rfl hw' Try.underlying79 rfl rfl
    try simp only [List.getElem_toArray, List.getElem_cons_succ, List.getElem_cons_zero, Act.put, List.setIfInBounds_toArray, List.set_cons_zero, List.set_cons_succ]
    refine wpAnyH_ready (rs := [11]) (by kernel_rfl) (by simp) (AllReadyH.cons rfl (fun K hK => ?_) AllReadyH.nil)
    rw [if_pos (by rfl)]
    go_simp
    refine (lgm_room HL.out).mono ?_
    rintro e x1 ⟨rfl, bw⟩
    have HL2 := Lib.hid (HL.out.below bw)
    have RL2 := Lib.hid (RL.out.below (bw.mono (by have := BL.out.size; exact this)))
    have BL2 := Lib.hid (BL.out.trans (bw.mono BL.out.size))
    go_simp
    refine hK.out _ _ (HH.out.below bw) (fun hh => ?_)
    have HH' := Lib.hid hh
    clear hh hK K HH bw HL RL BL
    have HH := Lib.hid HH'.out
    have HL := Lib.hid HL2.out
    have RL := Lib.hid RL2.out
    have BL := Lib.hid BL2.out
    clear HH' HL2 RL2 BL2
    try simp only [List.getElem_toArray, List.getElem_cons_succ, List.getElem_cons_zero, Act.put, List.setIfInBounds_toArray, List.set_cons_zero, List.set_cons_succ]
    refine wpAnyH_ready (rs := [13]) (by kernel_rfl) (by simp) (AllReadyH.cons rfl (fun K hK => ?_) AllReadyH.nil)
    rw [if_pos (by rfl)]
    go_simp
    refine (HRR.out _ (RL.out.more (by have := BL.out.size; exact this))).mono ?_
    rintro e x2 ⟨rfl, bw⟩
    have HL2 := Lib.hid (HL.out.below bw)
    have RL2 := Lib.hid (RL.out.below (bw.mono (by have := BL.out.size; exact this)))
    have BL2 := Lib.hid (BL.out.trans (bw.mono BL.out.size))
    go_simp
    refine hK.out _ _ (HH.out.below bw) (fun hh => ?_)
    have HH' := Lib.hid hh
    clear hh hK K HH bw HL RL BL
    have HH := Lib.hid HH'.out
    have HL := Lib.hid HL2.out
    have RL := Lib.hid RL2.out
    have BL := Lib.hid BL2.out
    clear HH' HL2 RL2 BL2
    try simp only [List.getElem_toArray, List.getElem_cons_succ, List.getElem_cons_zero, Act.put, List.setIfInBounds_toArray, List.set_cons_zero, List.set_cons_succ]
    refine wpAnyH_take (i := 14) (v := .bool false) rfl (by kernel_rfl) (by kernel_rfl) (by kernel_rfl) (fun _ _ _ h => h) (Or.inl ⟨by rfl, fun w' hw' => ?y27⟩) HH.out ?_
    case y27 => (go_simp; try with_reducible rfl)
    try simp only [List.getElem_toArray, List.getElem_cons_succ, List.getElem_cons_zero, Act.put, List.setIfInBounds_toArray, List.set_cons_zero, List.set_cons_succ]
    refine wpAnyH_take (i := 15) (v := ?v28) rfl (by kernel_rfl) (by kernel_rfl) (by kernel_rfl) (fun _ _ _ h => h) (Or.inl ⟨by rfl, fun w' hw' => ?y28⟩) HH.out ?_
    case y28 => (go_simp; try with_reducible rfl)
    try simp only [List.getElem_toArray, List.getElem_cons_succ, List.getElem_cons_zero, Act.put, List.setIfInBounds_toArray, List.set_cons_zero, List.set_cons_succ]
    refine wpAnyH_done (by kernel_rfl) ?_ _
    have X4 := Lib.hid HH.out
    clear HH HRR
    have c3 := X4.out.cell 3
    go_wp2_with fail
    go_loopw [39] (fun i wr => ∃ k : Nat, k ≤ n ∧ i = .int .i64 (k : Int) ∧ Hid (LgM p g1 g2 G g q w0 wr s l F x m) ∧ Hid (Blk wr w.heap.size #[.int .i64 (l.size : Int), .int .i64 I, .int .i64 J, .slice A n c, .int .u64 (l.last : Int)] 79) ∧ Hid (Below w.heap.size w wr)) (fun i _ => n - (intOf i).toNat)
    case atStart => exact ⟨0, Nat.zero_le _, rfl, HL, X4, BL⟩
    case round =>
      obtain ⟨k, hk, rfl, HR, XR, BR⟩ := hrel
      have HK := Lib.hid hk
      by_cases hlt : k < n
      · have HLT := Lib.hid hlt
        have j0 : (0 : Int) ≤ (k : Int) := by omega
        have j1 : (k : Int) < (n : Int) := by omega
        have wp1 : IntKind.i64.wrap ((k : Int) + 1) = ((k + 1 : Nat) : Int) := IntWalk.i64_in _ (by have := HS.out; omega)
        have RR := HR0.out.below BR.out
        obtain ⟨ad, hA, _, hcell⟩ := RR _ _ (gv_get (l := l.gens) (k := k) (by rw [HN.out]; exact hlt))
        subst hA
        obtain ⟨gk, hgk⟩ : ∃ gk, gk = l.gens.getD k 0 := ⟨_, rfl⟩
        rw [← hgk] at hcell
        have HG := Lib.hid (show Calls Try.prog 83 #[.pointer (some ⟨q, 0, none⟩), .int .i64 (k : Int)] wr (RetB (.int .u64 (gk : Int)) wr) by
          have hc := lgm_gen HR.out (k : Int) (by omega) (by have := HS.out; omega)
          rw [if_pos j0, Int.toNat_natCast, ← hgk] at hc
          exact hc)
        clear hlt hk RR hgk
        go_wp2_with fail
        refine HG.out.mono ?_
        rintro e x5 ⟨rfl, bw⟩
        have HR2 := Lib.hid (HR.out.below bw)
        have XR2 := Lib.hid (XR.out.below bw)
        have BR2 := Lib.hid (BR.out.trans (bw.mono BR.out.size))
        clear bw HR XR BR HG hcell
        go_wp2_with fail
        go_round
        case rel => exact ⟨k + 1, HLT.out, rfl, HR2, XR2, BR2⟩
        case measure => have := HLT.out; simp [intOf]; omega
      · have hd : ¬ (k : Int) < (n : Int) := by omega
        have HG := Lib.hid (show Calls Try.prog 83 #[.pointer (some ⟨q, 0, none⟩), .int .i64 (-1)] wr (RetB (.int .u64 0) wr) from lgm_gen HR.out (-1) (by omega) (by omega))
        clear hlt hk
        go_wp2_with fail
        refine HG.out.mono ?_
        rintro e x5 ⟨rfl, bw⟩
        have HR2 := Lib.hid (HR.out.below bw)
        have XR2 := Lib.hid (XR.out.below bw)
        have BR2 := Lib.hid (BR.out.trans (bw.mono BR.out.size))
        clear bw HR XR BR HG
        have c3 := XR2.out.cell 3
        have HG := Lib.hid (show Calls Try.prog 83 #[.pointer (some ⟨q, 0, none⟩), .int .i64 (n : Int)] x5 (RetB (.int .u64 0) x5) by
          have hc := lgm_gen HR2.out (n : Int) (by omega) (by have := HS.out; omega)
          rw [if_pos (by omega), Int.toNat_natCast, show l.gens.getD n 0 = 0 by rw [List.getD_eq_getElem?_getD, List.getElem?_eq_none (by rw [HN.out]; exact Nat.le_refl _)]; rfl] at hc
          exact hc)
        go_wp2_with fail
        refine HG.out.mono ?_
        rintro e x6 ⟨rfl, bw⟩
        go_wp2_with fail
        go_ret
        exact ⟨rfl, BR2.out.trans (bw.mono BR2.out.size)⟩
end
end Go.Proofs.Ytnplhagfmfggcaa.Lo
