/-
  Texts of this seat, one behind the other: MiSync, MiRepeat, MiNew, MiMd, MiMd2, MiMd3, MuMd, MuMd2, MuMd3, MiLaw, MuLaw, LoNew, LoRead, LoRl, LoGo, LoSeen, ScWalk, ScStep, ScAll, ScMd, ScStart, SxGood, SxGd, LoIf, LoPow, MuTorn, LoTwP, MuTornL, LoLaw, LoNewL, MuDevs.
-/
import Derived.Laws.Bits64b
import Derived.OrdersHeld
import Derived.Deep.RegionHeld
import Derived.Maps.RangeWalk
import Derived.Test.YtnplhagfmfggcaaGreatLz3
/-
  The contracts of catchUp and Sync.
-/
namespace Go.Proofs.YtnplhagfmfggcaaGreat.Mi
open Go.RowKit Kd
attribute [local go_sem ↓] Go.wp_at_zero Go.wp_at_succ
section
variable {C : Duo} {G : Gd} {g : Nat} {w : World} {s : Mr C} {F : Nat → Prop}
/-- One place of a device catches up. -/
def Mr.catch1 (G : Gd) (s : Mr C) (i n : Nat) : Mr C := if (s.st i).getD n false && right C G s (1 - i) n then (s.mend i n (rightV C G s (1 - i) n)).2 else s
def Mr.catchTo (G : Gd) (s : Mr C) (i : Nat) : Nat → Mr C
  | 0 => s
  | n + 1 => (s.catchTo G i n).catch1 G i n
theorem mend_ok {k i n : Nat} {x : List UInt8} (h : s.ok k) : (s.mend i n x).2.ok k := by
  unfold Mr.mend; dsimp only; split
  · exact Mr.ok.put h
  · exact h
theorem mend_most {i n : Nat} {x : List UInt8} (hi : i < 2) : C.most (s.mend i n x).2.d ≤ C.most s.d + 1 := by
  unfold Mr.mend; dsimp only; split
  · rw [put_d]; exact C.wr_most hi
  · exact C.wr_most hi
theorem catch1_ok {k i n : Nat} (h : s.ok k) : (s.catch1 G i n).ok k := by
  unfold Mr.catch1; split
  · exact mend_ok h
  · exact h
theorem catch1_most {i n : Nat} (hi : i < 2) : C.most (s.catch1 G i n).d ≤ C.most s.d + 1 := by
  unfold Mr.catch1; split
  · exact mend_most hi
  · exact Nat.le_succ _
theorem catchTo_ok {k i : Nat} (h : s.ok k) : ∀ n, (s.catchTo G i n).ok k
  | 0 => h
  | n + 1 => catch1_ok (catchTo_ok h n)
theorem catchTo_most {i : Nat} (hi : i < 2) : ∀ n, C.most (s.catchTo G i n).d ≤ C.most s.d + n
  | 0 => Nat.le_refl _
  | n + 1 => Nat.le_trans (catch1_most hi) (by have := catchTo_most hi n; omega)
theorem pin_cell {A B : Option Addr} {n c m e : Nat} {w : World} {s : Mr C} (h : (ML C (G.at A n c B m e) g).At w s F) {i : Nat} (hi : i < 2) :
    w.cell? ⟨g, 2 + i, none⟩ = some (if i = 0 then .slice A n c else .slice B m e) ∧ (s.st i).length = (if i = 0 then n else m) := by
  obtain ⟨A', n', c', B', m', e', F1, h, _⟩ := h
  obtain ⟨rfl, rfl, rfl, rfl, rfl, rfl⟩ := h.pin
  rcases two hi with rfl | rfl
  · exact ⟨h.blk.cell 2, h.an⟩
  · exact ⟨h.blk.cell 3, h.bn⟩
/-- What Sync makes of a mirror, and tells. -/
def Mr.caught (G : Gd) (s : Mr C) (k : Nat) : Mr C := (s.catchTo G 0 k).catchTo G 1 k
def Mr.sync (G : Gd) (s : Mr C) (k : Nat) : Int × Mr C :=
  if C.there s.d 0 && C.there s.d 1 then
    (if (s.caught G k).flushed = (true, true) then (if cnt (((s.caught G k).fl0 0).fl0 1).a = 0 ∧ cnt (((s.caught G k).fl0 0).fl0 1).b = 0 then 0 else 9) else 13, ((s.caught G k).fl0 0).fl0 1)
  else (13, s)
end
end Go.Proofs.YtnplhagfmfggcaaGreat.Mi
/-
  The contract of slices.Repeat of one bool.
-/
namespace Go.Proofs.YtnplhagfmfggcaaGreat.Mi
open Go.RowKit Kd
attribute [local go_sem ↓] Go.wp_at_zero Go.wp_at_succ
theorem mask_small (a : Nat) (ha : a < 4294967296) : bits .and .u64 (a : Int) 4294967295 = (a : Int) := by
  have h := bits_and_u64_nat a 4294967295 (by omega) (by omega)
  rw [show a &&& 4294967295 = a % 4294967296 from Nat.and_two_pow_sub_one_eq_mod a 32, Nat.mod_eq_of_lt ha] at h
  exact h
theorem mul_one (w : World) (N : Nat) (hN : N ≤ 4096) : Calls Tryz.prog 90 #[.int .u64 1, .int .u64 N] w (Ret0 (.tuple #[.int .u64 0, .int .u64 N]) w) := by
  have a1 : bits .and .u64 1 4294967295 = 1 := by decide
  have a0 : bits .and .u64 0 4294967295 = 0 := by decide
  have aN : bits .and .u64 (N : Int) 4294967295 = N := mask_small N (by omega)
  have dN : (N : Int) / 4294967296 = 0 := by omega
  have wN : IntKind.u64.wrap (N : Int) = N := IntWalk.u64_in _ (by omega)
  have w0 : IntKind.u64.wrap 0 = 0 := by decide
  clear hN
  go_enter Tryz.func90, Tryz.ntmps90
  go_wp2_with fail
  exact bodyPost_ret (results_tmp2 Tryz.results90 _ _ _) rfl ⟨by rfl, rfl⟩
theorem mul_u (w : World) (N : Nat) (hN : N ≤ 4096) : Calls Tryz.prog 65 #[.int .u64 1, .int .u64 N] w (Ret0 (.tuple #[.int .u64 0, .int .u64 N]) w) := by
  have HN := Lib.hid hN
  clear hN
  go_enter Tryz.func65, Tryz.ntmps65
  go_wp2_with fail
  refine (mul_one _ N HN.out).mono ?_
  rintro e _ ⟨rfl, rfl⟩
  go_wp2_with fail
  exact bodyPost_ret (results_tmp2 Tryz.results65 _ _ _) rfl ⟨rfl, rfl⟩
theorem info_boolW : (Tryz.prog.info? 4).map (fun i => (i.zero, i.size, i.bytes)) = some (some (.bool false), 1, 1) := by kernel_rfl
theorem info_bool : (Tryz.prog.info? 4).map (·.size) = some 1 := by kernel_rfl
/-- A row whose first n cells are b. -/
structure Fst (w0 w : World) (g N n : Nat) (b : Bool) : Prop where
  cells : ∃ cur : Array Value, w.heap[g]? = some (.cells cur 4 (0, 0)) ∧ cur.size = N ∧ ∀ i, i < n → cur[i]? = some (.bool b)
  le : n ≤ N
  bel : Below w0.heap.size w0 w
theorem splice_get {α : Type} (L : List α) (o : Nat) (cs : List α) (h : o + cs.length ≤ L.length) (i : Nat) : (splice L o cs)[i]? = if i < o then L[i]? else if i < o + cs.length then cs[i - o]? else L[i]? := by
  unfold splice
  have ht : (L.take o).length = o := by rw [List.length_take]; omega
  by_cases h1 : i < o
  · rw [if_pos h1, List.getElem?_append_left (by omega), List.getElem?_take, if_pos h1]
  · rw [if_neg h1, List.getElem?_append_right (by omega), ht]
    by_cases h2 : i < o + cs.length
    · rw [if_pos h2, List.getElem?_append_left (by omega)]
    · rw [if_neg h2, List.getElem?_append_right (by omega), List.getElem?_drop]
      congr 1; omega
/-- A copy of the first cells behind them. -/
theorem Fst.copy {w0 w : World} {g N n : Nat} {b : Bool} (h : Fst w0 w g N n b) (hg : w0.heap.size ≤ g) (m : Nat) (hm : m = Nat.min n (N - n)) (k1 k2 : Nat) :
    ∃ w', (Builtin.copy_ #[93, 93] 3 #[.slice (some ⟨g, n, none⟩) (N - n) k1, .slice (some ⟨g, 0, none⟩) n k2]).run Tryz.prog w = .ok (goInt m) w' ∧ Fst w0 w' g N (n + m) b := by
  obtain ⟨cur, hc, hs, hb⟩ := h.cells
  have hle := h.le
  have hmn : m ≤ n ∧ m ≤ N - n := by rw [hm]; exact ⟨Nat.min_le_left _ _, Nat.min_le_right _ _⟩
  have hr := run_copyN (P := Tryz.prog) w 93 93 3 4 1 Tryz.underlying93 info_bool g n (N - n) k1 ⟨g, 0, none⟩ n k2 cur 4 (List.replicate m (.bool b)) hc
    (by rw [List.length_replicate, Nat.mul_one, hm]) (fun j v hv => by
      have hj : j < m := by have := (List.getElem?_eq_some_iff.1 hv).1; rwa [List.length_replicate] at this
      rw [List.getElem?_replicate, if_pos hj] at hv
      rw [Addr.add_mid, Nat.zero_add, ← hv, ← hb j (by omega)]
      exact Blk.cell (show Blk w g cur 4 from hc) j) (by rw [List.length_replicate]; omega) (fun v hv => by rw [List.eq_of_mem_replicate hv]; rfl)
  rw [← hm] at hr
  refine ⟨_, hr, ⟨⟨_, setRow_heap _ _ _ _ _ _ hc, ?_, fun i hi => ?_⟩, by omega, below_setRow h.bel hg _⟩⟩
  · rw [List.size_toArray, length_splice _ _ _ (by rw [List.length_replicate, Array.length_toList]; omega), Array.length_toList]; exact hs
  · rw [List.getElem?_toArray, splice_get _ _ _ (by rw [List.length_replicate, Array.length_toList]; omega), List.length_replicate]
    split
    · rw [Array.getElem?_toList]; exact hb i (by omega)
    · rw [List.getElem?_replicate, if_pos (by omega)]
theorem Fst.row {w0 w : World} {g N : Nat} {b : Bool} (h : Fst w0 w g N N b) (hg : w0.heap.size ≤ g) (hN : N ≤ maxLen) : w.ownsRow w0.heap.size 4 1 (.slice (some ⟨g, 0, none⟩) N N) N (bs (List.replicate N b)) := by
  obtain ⟨cur, hc, hs, hb⟩ := h.cells
  refine ⟨by rw [bs_length, List.length_replicate, Nat.mul_one], .inr ⟨g, N, cur, rfl, hg, hc, Nat.le_refl _, hN, by rw [hs, Nat.mul_one], ?_⟩⟩
  apply List.ext_getElem?
  intro i
  rw [List.getElem?_take, Nat.mul_one, bs, List.getElem?_map, List.getElem?_replicate]
  split
  · rw [Array.getElem?_toList, hb i (by assumption)]; rfl
  · rfl
set_option maxRecDepth 100000 in
set_option maxHeartbeats 6400000 in
theorem repeat_any {w : World} {a : Addr} {b : Bool} {c : Nat} (hb : w.cell? a = some (.bool b)) (N : Nat) (hN : N ≤ 4096) :
    Calls Tryz.prog 40 #[.slice (some a) 1 c, .int .i64 N] w (fun e w' => ∃ g, e = .returned (.slice (some ⟨g, 0, none⟩) N N) ∧ w'.ownsRow w.heap.size 4 1 (.slice (some ⟨g, 0, none⟩) N N) N (bs (List.replicate N b)) ∧ Below w.heap.size w w') := by
  have HN := Lib.hid hN
  have HB := Lib.hid hb
  obtain ⟨i0, hi, hz0, hz1, hz2⟩ := info_parts info_boolW
  have n0 : (0 : Int) ≤ (N : Int) := by omega
  have n1 : (N : Int) ≤ 4096 := by omega
  have wu : IntKind.u64.wrap (N : Int) = N := IntWalk.u64_in _ (by omega)
  have wi : IntKind.i64.wrap (N : Int) = N := IntWalk.i64_in _ (by omega)
  have w1 : IntKind.u64.wrap 1 = 1 := by decide
  clear hN
  go_enter Tryz.func40, Tryz.ntmps40
  go_wp2_with fail
  refine (mul_u _ N HN.out).mono ?_
  rintro e _ ⟨rfl, rfl⟩
  go_wp2_with (at_make; apply Classical.byContradiction; intro hneg)
  refine hneg ?_
  clear hneg
  refine wpList_make_full _ rfl _ _ _ rfl w.heap.size 4 i0 _ 1 Tryz.underlying93 hi hz0 hz1 .i64 .i64 _ _ N rfl rfl rfl rfl (by rw [hz2]; have := HN.out; omega) (by have := HN.out; unfold maxLen; omega) (Nat.le_refl _) ?_
  intro w1 hown hg
  have HO1 := Lib.hid hown
  have HG1 := Lib.hid (below_of_grown8 hg)
  have HMC := Lib.hid hg
  clear hown hg
  obtain ⟨g, hge⟩ : ∃ g, g = w.heap.size := ⟨_, rfl⟩
  rw [← hge]
  rw [← hge] at HO1
  have HGE := Lib.hid (show w.heap.size ≤ g by omega)
  have F0 := Lib.hid (show Fst w w1 g N 0 b from by
    rcases HO1.out.2 with ⟨h0, _⟩ | ⟨g', cap, cur, h0, _, h2, _, _, h5, _⟩
    · cases h0
    · injection h0 with h0 _ h7
      injection h0 with h0
      injection h0 with h0
      subst h0 h7
      exact ⟨⟨cur, h2, by rw [h5, Nat.mul_one], fun i hi => absurd hi (Nat.not_lt_zero _)⟩, Nat.zero_le _, HG1.out⟩)
  have hab : a.block < w.heap.size := block_lt_of_cell HB.out
  have HB1 := Lib.hid (show w1.cell? a = some (.bool b) from by rw [HG1.out.cell hab]; exact HB.out)
  clear hge HO1 hab
  have HCP := Lib.hid (show ∃ w2, (Builtin.copy_ #[93, 93] 3 #[.slice (some ⟨g, 0, none⟩) N N, .slice (some a) 1 c]).run Tryz.prog w1 = .ok (goInt (Nat.min 1 N)) w2 ∧ Fst w w2 g N (Nat.min 1 N) b from by
    obtain ⟨cur, hc, hs, _⟩ := F0.out.cells
    have hm1 : Nat.min 1 N ≤ 1 ∧ Nat.min 1 N ≤ N := ⟨Nat.min_le_left _ _, Nat.min_le_right _ _⟩
    have hr := run_copyN (P := Tryz.prog) w1 93 93 3 4 1 Tryz.underlying93 info_bool g 0 N N a 1 c cur 4 (List.replicate (Nat.min 1 N) (.bool b)) hc
      (by rw [List.length_replicate, Nat.mul_one]) (fun j v hv => by
        have hj : j < Nat.min 1 N := by have := (List.getElem?_eq_some_iff.1 hv).1; rwa [List.length_replicate] at this
        rw [List.getElem?_replicate, if_pos hj] at hv
        obtain rfl : j = 0 := by omega
        rw [show a.add 0 = a by rw [add_zero], ← hv]
        exact HB1.out) (by rw [List.length_replicate]; omega) (fun v hv => by rw [List.eq_of_mem_replicate hv]; rfl)
    refine ⟨_, hr, ⟨⟨_, setRow_heap _ _ _ _ _ _ hc, ?_, fun i hi => ?_⟩, hm1.2, below_setRow F0.out.bel HGE.out _⟩⟩
    · rw [List.size_toArray, length_splice _ _ _ (by rw [List.length_replicate, Array.length_toList]; omega), Array.length_toList]; exact hs
    · rw [List.getElem?_toArray, splice_get _ _ _ (by rw [List.length_replicate, Array.length_toList]; omega), List.length_replicate, if_neg (Nat.not_lt_zero _), if_pos (by omega), List.getElem?_replicate, if_pos (by omega)])
  obtain ⟨m0, hm0⟩ : ∃ m0, m0 = Nat.min 1 N := ⟨_, rfl⟩
  rw [← hm0] at HCP
  have HM0 := Lib.hid hm0
  obtain ⟨w2, hcp, hf2⟩ := HCP.out
  have F2 := Lib.hid hf2
  have hcq : (Builtin.copy_ #[93, 93] 3 #[.slice (some ⟨g, 0, none⟩) N N, .slice (some a) 1 c]).run Tryz.prog w1 = .ok (.int .i64 m0) w2 := hcp
  clear hm0 hcp hf2 HCP F0 HMC HG1 HB1
  go_wp2_with fail
  go_loopw [8] (fun x wr => ∃ n : Nat, x = .int .i64 n ∧ Fst w wr g N n b ∧ (n = 0 → N = 0)) (fun x _ => N - (intOf x).toNat)
  case atStart => exact ⟨m0, rfl, F2.out, fun h => by have h1 := HM0.out; rw [h] at h1; have : Nat.min 1 N = min 1 N := rfl; omega⟩
  case round =>
    clear F2 HM0 hcq
    obtain ⟨n, rfl, hf, hnz⟩ := hrel
    have FF := Lib.hid hf
    have HNZ := Lib.hid hnz
    clear hf hnz
    by_cases hlt : n < N
    · have HLT := Lib.hid hlt
      have m0 : (0 : Int) ≤ (n : Int) := by omega
      have m1 : (n : Int) < (N : Int) := by omega
      have m2 : (n : Int) ≤ (N : Int) := by omega
      have m3 : ¬ N = n := by omega
      have e1 : (N : Int) - (n : Int) = ((N - n : Nat) : Int) := by omega
      obtain ⟨k, hk⟩ : ∃ k, k = Nat.min n (N - n) := ⟨_, rfl⟩
      have HK := Lib.hid hk
      have HKB := Lib.hid (show k ≤ n ∧ k ≤ N - n by rw [hk]; exact ⟨Nat.min_le_left _ _, Nat.min_le_right _ _⟩)
      have HK0 := Lib.hid (show 0 < k by
        have h1 : n ≠ 0 := fun h => by have := HNZ.out h; omega
        have : Nat.min n (N - n) = min n (N - n) := rfl
        omega)
      have wk : IntKind.i64.wrap ((n : Int) + (k : Int)) = ((n + k : Nat) : Int) := by rw [show (n : Int) + (k : Int) = ((n + k : Nat) : Int) by omega]; exact IntWalk.i64_in _ (by have := HKB.out; have := HN.out; omega)
      have HCP := Lib.hid (show ∀ W, W = wr.drew → ∃ w', (Builtin.copy_ #[93, 93] 3 #[.slice (some ⟨g, n, none⟩) (N - n) (N - n), .slice (some ⟨g, 0, none⟩) n N]).run Tryz.prog W = .ok (goInt k) w' ∧ Fst w w' g N (n + k) b from fun W hW => by
        subst hW
        have hf : Fst w wr.drew g N n b := ⟨FF.out.cells, FF.out.le, FF.out.bel.drew⟩
        exact hf.copy HGE.out k HK.out _ _)
      clear hlt hk
      go_wp2_with fail
      refine wp_region_held_drew (S := fun _ => True) (by kernel_rfl) trivial (fun hh => ?_)
      have HH := Lib.hid hh
      clear hh
      refine wpAnyH_take (i := 0) (v := ?vR0) rfl (by kernel_rfl) (by kernel_rfl) (by kernel_rfl) (fun _ _ _ h => h) (Or.inl ⟨by rfl, fun w' _ => ?yR0⟩) HH.out ?_
      case yR0 => (go_simp; try with_reducible rfl)
      refine wpAnyH_take (i := 1) (v := ?vR1) rfl (by kernel_rfl) (by kernel_rfl) (by kernel_rfl) (fun _ _ _ h => h) (Or.inl ⟨by rfl, fun w' _ => ?yR1⟩) HH.out ?_
      case yR1 => (go_simp; try with_reducible rfl)
      try simp only [List.getElem_toArray, List.getElem_cons_succ, List.getElem_cons_zero, Act.put, List.setIfInBounds_toArray, List.set_cons_zero, List.set_cons_succ]
      refine wpAnyH_take (i := 2) (v := ?vR2) rfl (by kernel_rfl) (by kernel_rfl) (by kernel_rfl) (fun _ _ _ h => h) (Or.inl ⟨by rfl, fun w' _ => ?yR2⟩) HH.out ?_
      case yR2 => (go_simp; try with_reducible rfl)
      refine wpAnyH_take (i := 3) (v := ?vR3) rfl (by kernel_rfl) (by kernel_rfl) (by kernel_rfl) (fun _ _ _ h => h) (Or.inl ⟨by rfl, fun w' _ => ?yR3⟩) HH.out ?_
      case yR3 => (go_simp; try with_reducible rfl)
      refine wpAnyH_take (i := 4) (v := ?vR4) rfl (by kernel_rfl) (by kernel_rfl) (by kernel_rfl) (fun _ _ _ h => h) (Or.inl ⟨by rfl, fun w' _ => ?yR4⟩) HH.out ?_
      case yR4 => (go_simp; try with_reducible rfl)
      try simp only [List.getElem_toArray, List.getElem_cons_succ, List.getElem_cons_zero, Act.put, List.setIfInBounds_toArray, List.set_cons_zero, List.set_cons_succ]
      refine wpAnyH_take (i := 5) (v := ?vR5) rfl (by kernel_rfl) (by kernel_rfl) (by kernel_rfl) (fun _ _ _ h => h) (Or.inl ⟨by rfl, fun w' _ => ?yR5⟩) HH.out ?_
      case yR5 => (go_simp; try with_reducible rfl)
      refine wpAnyH_take (i := 6) (v := ?vR6) rfl (by kernel_rfl) (by kernel_rfl) (by kernel_rfl) (fun _ _ _ h => h) (Or.inl ⟨by rfl, fun w' _ => ?yR6⟩) HH.out ?_
      case yR6 => (go_simp; try with_reducible rfl)
      try simp only [List.getElem_toArray, List.getElem_cons_succ, List.getElem_cons_zero, Act.put, List.setIfInBounds_toArray, List.set_cons_zero, List.set_cons_succ]
      refine wpAnyH_ready (rs := [7]) (by kernel_rfl) (by simp) (AllReadyH.cons rfl (fun K hK => ?_) AllReadyH.nil)
      obtain ⟨w3, hcp, hf3⟩ := HCP.out _ rfl
      have F3 := Lib.hid hf3
      have HC3 := Lib.hid hcp
      clear hcp hf3 HCP
      refine step_copyR (by rfl) (.tmp 41) (.tmp 44) 93 93 rfl _ _ rfl rfl HC3.out ?_
      refine hK.out _ _ trivial (fun hh => ?_)
      have HH' := Lib.hid hh
      clear hh hK K HH FF HC3
      have HH := Lib.hid HH'.out
      clear HH'
      refine wpAnyH_take (i := 8) (v := ?vR8) rfl (by kernel_rfl) (by kernel_rfl) (by kernel_rfl) (fun _ _ _ h => h) (Or.inl ⟨by rfl, fun w' _ => ?yR8⟩) HH.out ?_
      case yR8 => (go_simp; try with_reducible rfl)
      refine wpAnyH_take (i := 9) (v := ?vR9) rfl (by kernel_rfl) (by kernel_rfl) (by kernel_rfl) (fun _ _ _ h => h) (Or.inl ⟨by rfl, fun w' _ => ?yR9⟩) HH.out ?_
      case yR9 => (go_simp; try with_reducible rfl)
      try simp only [List.getElem_toArray, List.getElem_cons_succ, List.getElem_cons_zero, Act.put, List.setIfInBounds_toArray, List.set_cons_zero, List.set_cons_succ]
      refine wpAnyH_done (by kernel_rfl) ?_ _
      go_wp2_with fail
      go_roundw
      case rel => exact ⟨n + k, by go_num, F3.out, fun h => by have := HK0.out; omega⟩
      case measure => (have := HLT.out; have := HK0.out; simp [intOf]; omega)
    · obtain rfl : n = N := by have := FF.out.le; omega
      clear hlt
      go_wp2_with fail
      go_ret
      exact ⟨g, rfl, FF.out.row HGE.out (by have := HN.out; unfold maxLen; omega), FF.out.bel⟩
end Go.Proofs.YtnplhagfmfggcaaGreat.Mi
/-
  The contract of mirror.New.
-/
namespace Go.Proofs.YtnplhagfmfggcaaGreat.Mi
open Go.RowKit Kd
attribute [local go_sem ↓] Go.wp_at_zero Go.wp_at_succ
section
variable {C : Duo} {G : Gd} {g : Nat} {w w1 w' : World} {s : Mr C} {A B : Option Addr} {n c m e : Nat} {F1 F : Nat → Prop}
def Mr.row (s : Mr C) (i : Nat) (l : List Bool) : Mr C := if i = 0 then ⟨s.d, l, s.b⟩ else ⟨s.d, s.a, l⟩
/-- A new row of what is stale. -/
theorem ml_setrow (hR : ∀ A n c B m e, G.R A n c B m e) (h : (ML C G g).At w s F) (hb : Below w.heap.size w w1) {q k i : Nat} {l : List Bool} (ho : w1.ownsRow w.heap.size 4 1 (.slice (some ⟨q, 0, none⟩) k k) k (bs l)) (hl : l.length = k) (hi : i < 2) :
    Mv (ML C G g) w F (w1.setCell ⟨g, 2 + i, none⟩ (.slice (some ⟨q, 0, none⟩) k k)) (s.row i l) (fun x => F x ∨ x = q) := by
  obtain ⟨A, n, c, B, m, e, F1, h, h1, h2⟩ := h
  have hlt := h.lt
  have hq := (ho.lt q rfl)
  have h0 : MrR C G g w1 s A n c B m e F1 := h.but (T := fun _ => False) (but_below hb) (fun _ _ h => h)
  have hT : But (fun x => x = g) w1 (w1.setCell ⟨g, 2 + i, none⟩ (.slice (some ⟨q, 0, none⟩) k k)) := but_one _
  have hgw : g < w.heap.size := h.blk.lt
  have ho0 : w1.ownsRow 0 4 1 (.slice (some ⟨q, 0, none⟩) k k) k (bs l) := ⟨ho.1, by
    rcases ho.2 with h3 | ⟨g', cap, cur, h3, _, h4⟩
    · exact .inl h3
    · exact .inr ⟨g', cap, cur, h3, Nat.zero_le _, h4⟩⟩
  have hfin : ∀ x, (F x ∨ x = q) → x < (w1.setCell ⟨g, 2 + i, none⟩ (.slice (some ⟨q, 0, none⟩) k k)).heap.size := by
    rintro x (hx | rfl)
    · exact Nat.lt_of_lt_of_le (h2 x hx) (Nat.le_trans hb.size hT.size)
    · exact Nat.lt_of_lt_of_le hq.2 hT.size
  have hnew : ∀ x, (F x ∨ x = q) → F x ∨ w.heap.size ≤ x := by
    rintro x (hx | rfl)
    · exact .inl hx
    · exact .inr hq.1
  have hbt : But F w (w1.setCell ⟨g, 2 + i, none⟩ (.slice (some ⟨q, 0, none⟩) k k)) := (but_below hb).trans (hT.mono (fun x hx => h1 x (.inl hx)))
  have hoT := Own.but ho0 hT (fun x hx hx' => by injection hx with hx; replace hx : q = x := hx; omega)
  have hdT := C.L.but h0.d hT (fun x hx hx' => h.ag (hx' ▸ hx))
  have hgb : ∀ x ∈ G.l, Blk (w1.setCell ⟨g, 2 + i, none⟩ (.slice (some ⟨q, 0, none⟩) k k)) x.1 x.2.1 x.2.2 ∧ ¬ F1 x.1 := fun x hx => ⟨(h0.gb x hx).1.but hT (fun hx' => h0.box_ne hx h0.blk (.inr rfl) hx'), (h0.gb x hx).2⟩
  rcases two hi with rfl | rfl
  · refine ⟨⟨some ⟨q, 0, none⟩, k, k, B, m, e, F1, ⟨blk_setN8 h0.blk 2 _, hoT, Own.but h0.b hT (fun x hx hx' => h.rows.2 x hx hx'), hl, h.bn, hdT, h.ag, ?_, h.ab, ?_, hR _ _ _ _ _ _, hgb⟩, ?_, hfin⟩, hnew, hbt⟩
    · intro x hx hf
      injection hx with hx; replace hx : q = x := hx
      have := C.L.lt h.d x hf; omega
    · intro x hx hx'
      injection hx with hx; replace hx : q = x := hx
      have := hlt x (.inr (.inr (.inl hx'))); omega
    · rintro x (hx | hx | hx | hx)
      · exact .inl (h1 x (.inl hx))
      · injection hx with hx; exact .inr hx.symm
      · exact .inl (h1 x (.inr (.inr (.inl hx))))
      · exact .inl (h1 x (.inr (.inr (.inr hx))))
  · refine ⟨⟨A, n, c, some ⟨q, 0, none⟩, k, k, F1, ⟨blk_setN8 h0.blk 3 _, Own.but h0.a hT (fun x hx hx' => h.rows.1 x hx hx'), hoT, h.an, hl, hdT, h.ag, h.aa, ?_, ?_, hR _ _ _ _ _ _, hgb⟩, ?_, hfin⟩, hnew, hbt⟩
    · intro x hx hf
      injection hx with hx; replace hx : q = x := hx
      have := C.L.lt h.d x hf; omega
    · intro x hx hx'
      injection hx' with hx'; replace hx' : q = x := hx'
      have := hlt x (.inr (.inl hx)); omega
    · rintro x (hx | hx | hx | hx)
      · exact .inl (h1 x (.inl hx))
      · exact .inl (h1 x (.inr (.inl hx)))
      · injection hx with hx; exact .inr hx.symm
      · exact .inl (h1 x (.inr (.inr (.inr hx))))
/-- How many places a mirror has; a new one. -/
def Duo.places (C : Duo) (d : C.L.St) : Nat := min (C.len d 0) (C.len d 1)
def newM (C : Duo) (d : C.L.St) : Mr C := ⟨d, List.replicate (C.places d) (!(C.there d 0)), List.replicate (C.places d) (!(C.there d 1))⟩
theorem ml_new (hR : ∀ A n c B m e, G.R A n c B m e) {d : C.L.St} (h : C.L.At w d F1) (hG : ∀ x ∈ G.l, Blk w x.1 x.2.1 x.2.2 ∧ ¬ F1 x.1) (hw1 : w1 = w.alloc (.cells (mrC C G none 0 0 none 0 0) 96)) : (ML C G w.heap.size).At w1 ⟨d, [], []⟩ (fun x => (F1 x ∨ ∃ y ∈ G.l, x = y.1) ∨ x = w.heap.size) := by
  have hb : Below w.heap.size w w1 := by rw [hw1]; exact (Below.refl _ _).alloc (Nat.le_refl _) _
  refine ⟨none, 0, 0, none, 0, 0, F1, ⟨by rw [hw1]; exact heap_alloc_new _ _, ⟨rfl, .inl ⟨rfl, rfl⟩⟩, ⟨rfl, .inl ⟨rfl, rfl⟩⟩, rfl, rfl, C.L.below h hb, fun hf => by have := C.L.lt h _ hf; omega, fun q hq => (by cases hq), fun q hq => (by cases hq), fun q hq => (by cases hq), hR _ _ _ _ _ _, fun x hx => ⟨(hG x hx).1.below hb, (hG x hx).2⟩⟩, ?_, ?_⟩
  · rintro x (hx | hx | hx | hx | hx)
    · exact .inr hx
    · cases hx
    · cases hx
    · exact .inl (.inl hx)
    · exact .inl (.inr hx)
  · rintro x ((hx | ⟨y, hy, rfl⟩) | rfl)
    · exact Nat.lt_of_lt_of_le (C.L.lt h x hx) hb.size
    · exact Nat.lt_of_lt_of_le (hG y hy).1.lt hb.size
    · rw [hw1]; simp
theorem ml_len (h : (ML C G g).At w s F) {i : Nat} (hi : i < 2) : Calls Tryz.prog 41 #[.pointer (C.ptr i)] w (RetB (.int .i64 (C.len s.d i : Int)) w) := by
  obtain ⟨F1, hd, _⟩ := ml_dev h
  exact C.clen hd hi
theorem ml_lenle (h : (ML C G g).At w s F) {i : Nat} (hi : i < 2) : C.len s.d i ≤ 4096 := by
  obtain ⟨F1, hd, _⟩ := ml_dev h
  exact C.len_le hd hi
theorem ml_rowcell (h : (ML C G g).At w s F) {i : Nat} (hi : i < 2) : (∃ v, w.cell? ⟨g, 2 + i, none⟩ = some v) ∧ w.frozen? ⟨g, 2 + i, none⟩ = false ∧ g < w.heap.size := by
  obtain ⟨A, n, c, B, m, e, F1, h, _⟩ := h
  rcases two hi with rfl | rfl
  · exact ⟨⟨_, h.blk.cell 2⟩, h.blk.free 2, h.blk.lt⟩
  · exact ⟨⟨_, h.blk.cell 3⟩, h.blk.free 3, h.blk.lt⟩
theorem own_moreN {w : World} {base base' n size : Nat} {e : TypeId} {v : Value} {xs : List Value} (h : w.ownsRow base e size v n xs) (hb : base' ≤ base) : w.ownsRow base' e size v n xs :=
  ⟨h.1, h.2.imp id (fun ⟨g, cap, cur, h1, h2, h3⟩ => ⟨g, cap, cur, h1, Nat.le_trans hb h2, h3⟩)⟩
theorem gd_cell (G : Gd) : G.v.oneCell' = true := by unfold Gd.v; split <;> rfl
theorem gd_form (G : Gd) : G.v = .nilFunc ∨ ∃ k c, G.v = .func (.func k) #[] c := by
  unfold Gd.v; split
  · exact .inl rfl
  · exact .inr ⟨_, _, rfl⟩
theorem build_mir (p q : Option Addr) (gv : Value) (hg : gv = .nilFunc ∨ ∃ k c, gv = .func (.func k) #[] c) (W : World) : (Instr.build 96 #[(0, .agg #[.pointer p, .pointer q]), (2, gv)]).run Tryz.prog W = .ok (.agg #[.pointer p, .pointer q, .slice none 0 0, .slice none 0 0, gv]) W := by
  rcases hg with rfl | ⟨k, c, rfl⟩ <;> kernel_rfl
theorem build_two (p q : Option Addr) (W : World) : (Instr.build 92 #[(0, .pointer p), (1, .pointer q)]).run Tryz.prog W = .ok (.agg #[.pointer p, .pointer q]) W := by kernel_rfl
set_option maxRecDepth 100000 in
set_option maxHeartbeats 12800000 in
theorem new_anyG (hR : ∀ A n c B m e, G.R A n c B m e) {d : C.L.St} (h : C.L.At w d F1) (hG : ∀ x ∈ G.l, Blk w x.1 x.2.1 x.2.2 ∧ ¬ F1 x.1) {FF : Nat → Prop} (hFF : FF = fun x => F1 x ∨ ∃ y ∈ G.l, x = y.1) :
    Calls Tryz.prog 13 #[.pointer (C.ptr 0), .pointer (C.ptr 1), G.v] w (fun e w' => ∃ g F', e = .returned (.pointer (some ⟨g, 0, none⟩)) ∧ (ML C G g).At w' (newM C d) F' ∧ (∀ q, F' q → FF q ∨ w.heap.size ≤ q) ∧ But FF w w') := by
  obtain ⟨w1, hw1⟩ : ∃ w1, w1 = w.alloc (.cells (mrC C G none 0 0 none 0 0) 96) := ⟨_, rfl⟩
  have H := Lib.hid h
  have HA := Lib.hid (show (ML C G w.heap.size).At w1 ⟨d, [], []⟩ (fun x => FF x ∨ x = w.heap.size) from by rw [hFF]; exact ml_new hR h hG hw1)
  have HR := Lib.hid hR
  obtain ⟨p, hp⟩ : ∃ p, p = C.ptr 0 := ⟨_, rfl⟩
  obtain ⟨q, hq⟩ : ∃ q, q = C.ptr 1 := ⟨_, rfl⟩
  have hgf := gd_form G
  obtain ⟨gv, hgv⟩ : ∃ gv, gv = G.v := ⟨_, rfl⟩
  have HL0 := Lib.hid (show ∀ W s' F', (ML C G w.heap.size).At W s' F' → s'.d = d → Calls Tryz.prog 41 #[.pointer p] W (RetB (.int .i64 (C.len d 0 : Int)) W) from fun W s' F' h hd => by rw [hp, ← hd]; exact ml_len h (by omega))
  have HL1 := Lib.hid (show ∀ W s' F', (ML C G w.heap.size).At W s' F' → s'.d = d → Calls Tryz.prog 41 #[.pointer q] W (RetB (.int .i64 (C.len d 1 : Int)) W) from fun W s' F' h hd => by rw [hq, ← hd]; exact ml_len h (by omega))
  have HLE := Lib.hid (show C.places d ≤ 4096 from Nat.le_trans (Nat.min_le_left _ _) (C.len_le h (i := 0) (by omega)))
  have HBM := Lib.hid (build_mir p q gv (by rw [hgv]; exact hgf))
  have HB2 := Lib.hid (build_two p q)
  have HMC : mrC C G none 0 0 none 0 0 = #[.pointer p, .pointer q, .slice none 0 0, .slice none 0 0, gv] := by rw [mrC, hp, hq, hgv]
  rw [HMC] at hw1
  rw [← hp, ← hq, ← hgv]
  have BW1 := Lib.hid (show Below w.heap.size w w1 from by rw [hw1]; exact (Below.refl _ _).alloc (Nat.le_refl _) _)
  obtain ⟨g, hg⟩ : ∃ g, g = w.heap.size := ⟨_, rfl⟩
  rw [← hg] at HA HL0 HL1
  have HG := Lib.hid hg
  obtain ⟨x, hx⟩ : ∃ x, x = C.there d 0 := ⟨_, rfl⟩
  obtain ⟨y, hy⟩ : ∃ y, y = C.there d 1 := ⟨_, rfl⟩
  obtain ⟨k, hk⟩ : ∃ k, k = C.places d := ⟨_, rfl⟩
  have HN := Lib.hid (show newM C d = ⟨d, List.replicate k (!x), List.replicate k (!y)⟩ by rw [newM, hx, hy, hk])
  obtain ⟨la, hla⟩ : ∃ la, la = C.len d 0 := ⟨_, rfl⟩
  obtain ⟨lb, hlb⟩ : ∃ lb, lb = C.len d 1 := ⟨_, rfl⟩
  rw [← hla] at HL0
  rw [← hlb] at HL1
  have HKM := Lib.hid (show (if lb < la then (lb : Int) else (la : Int)) = (k : Int) by rw [hk, Duo.places, ← hla, ← hlb]; split <;> omega)
  rw [← hk] at HLE
  have HET := Lib.hid (each_there HA.out)
  rw [show (Mr.d (⟨d, [], []⟩ : Mr C)) = d from rfl, ← hx, ← hy] at HET
  rw [HN.out]
  clear hp hq hgf hgv HMC h hG hFF hR hx hy hk hla hlb HN
  go_enter Tryz.func13, Tryz.ntmps13
  go_wp2_with (first
    | (refine wpList_build rfl 92 #[(0, .tmp 10), (1, .tmp 11)] rfl (v := .agg #[.pointer p, .pointer q]) ?hbld ?_; case hbld => (simp only [List.map_toArray, List.map_cons, List.map_nil]; exact HB2.out _))
    | (refine wpList_build rfl 96 #[(0, .tmp 12), (2, .tmp 13)] rfl (v := .agg #[.pointer p, .pointer q, .slice none 0 0, .slice none 0 0, gv]) ?hbld ?_; case hbld => (simp only [List.map_toArray, List.map_cons, List.map_nil]; exact HBM.out _)))
  rw [← hw1, ← hg]
  clear hw1 hg
  refine HET.out.mono ?_
  rintro e w2 ⟨rfl, F2, hm2⟩
  have M2 := Lib.hid hm2
  clear hm2 HET HB2 HBM
  go_wp2_with fail
  go_loopw [19] (fun i wr => ∃ (j : Nat) (F' : Nat → Prop) (s' : Mr C), i = .int .i64 j ∧ Mv (ML C G g) w1 (fun x => FF x ∨ x = g) wr s' F' ∧ s'.d = d ∧ ((j = 0 ∧ s' = ⟨d, [], []⟩) ∨ (j = 1 ∧ s' = ⟨d, List.replicate k (!x), []⟩) ∨ (j = 2 ∧ s' = ⟨d, List.replicate k (!x), List.replicate k (!y)⟩))) (fun i _ => 2 - (intOf i).toNat)
  case atStart => exact ⟨0, F2, _, rfl, M2.out, rfl, .inl ⟨rfl, rfl⟩⟩
  case round =>
    clear M2
    obtain ⟨j, F', s', rfl, hm, hsd, hj⟩ := hrel
    have M := Lib.hid hm
    have HSD := Lib.hid hsd
    clear hm hsd
    rcases hj with ⟨rfl, hs⟩ | ⟨rfl, hs⟩ | ⟨rfl, hs⟩
    · skip
      have HS := Lib.hid hs
      clear hs
      go_wp2_with (refine wpList_execg8 (o := { dst := some 22, op := .index 80 (.tmp 18) (.tmp 19), type := _, pos := _, after := _, guard := _ }) (v := .bool x) (w' := wr) rfl ?hix ?_; case hix => kernel_rfl)
      refine wp_region_held_drew (S := fun _ => True) (by kernel_rfl) trivial (fun hh => ?_)
      have HH := Lib.hid hh
      clear hh
      refine wpAnyH_take (i := 0) (v := ?vN00) rfl (by kernel_rfl) (by kernel_rfl) (by kernel_rfl) (fun _ _ _ h => h) (Or.inl ⟨by rfl, fun w' _ => ?yN00⟩) HH.out ?_
      case yN00 => (go_simp; try with_reducible rfl)
      refine wpAnyH_take (i := 1) (v := ?vN01) rfl (by kernel_rfl) (by kernel_rfl) (by kernel_rfl) (fun _ _ _ h => h) (Or.inl ⟨by rfl, fun w' _ => ?yN01⟩) HH.out ?_
      case yN01 => (go_simp; try with_reducible rfl)
      try simp only [List.getElem_toArray, List.getElem_cons_succ, List.getElem_cons_zero, Act.put, List.setIfInBounds_toArray, List.set_cons_zero, List.set_cons_succ]
      refine wpAnyH_take (i := 2) (v := ?vN02) rfl (by kernel_rfl) (by kernel_rfl) (by kernel_rfl) (fun _ _ _ h => h) (Or.inl ⟨by rfl, fun w' _ => ?yN02⟩) HH.out ?_
      case yN02 => (go_simp; try with_reducible rfl)
      refine wpAnyH_take (i := 3) (v := ?vN03) rfl (by kernel_rfl) (by kernel_rfl) (by kernel_rfl) (fun _ _ _ h => h) (Or.inl ⟨by rfl, fun w' _ => ?yN03⟩) HH.out ?_
      case yN03 => (go_simp; try with_reducible rfl)
      refine wpAnyH_take (i := 5) (v := ?vN05) rfl (by kernel_rfl) (by kernel_rfl) (by kernel_rfl) (fun _ _ _ h => h) (Or.inl ⟨by rfl, fun w' _ => ?yN05⟩) HH.out ?_
      case yN05 => (go_simp; try with_reducible rfl)
      try simp only [List.getElem_toArray, List.getElem_cons_succ, List.getElem_cons_zero, Act.put, List.setIfInBounds_toArray, List.set_cons_zero, List.set_cons_succ]
      refine wpAnyH_take (i := 7) (v := ?vN07) rfl (by kernel_rfl) (by kernel_rfl) (by kernel_rfl) (fun _ _ _ h => h) (Or.inl ⟨by rfl, fun w' _ => ?yN07⟩) HH.out ?_
      case yN07 => (go_simp; try with_reducible rfl)
      refine wpAnyH_take (i := 11) (v := ?vN011) rfl (by kernel_rfl) (by kernel_rfl) (by kernel_rfl) (fun _ _ _ h => h) (Or.inl ⟨by rfl, fun w' _ => ?yN011⟩) HH.out ?_
      case yN011 => (go_simp; try with_reducible rfl)
      refine wpAnyH_take (i := 12) (v := ?vN012) rfl (by kernel_rfl) (by kernel_rfl) (by kernel_rfl) (fun _ _ _ h => h) (Or.inl ⟨by rfl, fun w' _ => ?yN012⟩) HH.out ?_
      case yN012 => (go_simp; try with_reducible rfl)
      try simp only [List.getElem_toArray, List.getElem_cons_succ, List.getElem_cons_zero, Act.put, List.setIfInBounds_toArray, List.set_cons_zero, List.set_cons_succ]
      refine wpAnyH_ready (rs := [4, 6]) (by kernel_rfl) (by simp) (AllReadyH.cons rfl (fun K hK => ?_) (AllReadyH.cons rfl (fun K hK => ?_) AllReadyH.nil))
      · skip
        go_simp
        refine hK.out _ _ trivial (fun hh => ?_)
        have HH' := Lib.hid hh
        clear hh hK K HH
        have HH := Lib.hid HH'.out
        clear HH'
        have B1 := Lib.hid (show Below wr.heap.size wr (World.alloc wr.drew (.cells #[.bool (!x)] 4)) from ((Below.refl wr.heap.size wr).drew).alloc ((Below.refl wr.heap.size wr).drew).size _)
        have X1 := Lib.hid (show Blk (World.alloc wr.drew (.cells #[.bool (!x)] 4)) wr.drew.heap.size #[.bool (!x)] 4 from heap_alloc_new _ _)
        try simp only [List.getElem_toArray, List.getElem_cons_succ, List.getElem_cons_zero, Act.put, List.setIfInBounds_toArray, List.set_cons_zero, List.set_cons_succ]
        refine wpAnyH_ready (rs := [6]) (by kernel_rfl) (by simp) (AllReadyH.cons rfl (fun K hK => ?_) AllReadyH.nil)
        go_simp
        refine (HL0.out _ _ _ ((ML C G g).below M.out.at_ (B1.out)) HSD.out).mono ?_
        rintro e v2 ⟨rfl, bw⟩
        have B2 := Lib.hid ((B1.out).trans (bw.mono (B1.out).size))
        have X2 := Lib.hid (Blk.below (X1.out) bw)
        clear bw
        go_simp
        refine hK.out _ _ trivial (fun hh => ?_)
        have HH' := Lib.hid hh
        clear hh hK K HH
        have HH := Lib.hid HH'.out
        clear HH'
        try simp only [List.getElem_toArray, List.getElem_cons_succ, List.getElem_cons_zero, Act.put, List.setIfInBounds_toArray, List.set_cons_zero, List.set_cons_succ]
        refine wpAnyH_ready (rs := [8]) (by kernel_rfl) (by simp) (AllReadyH.cons rfl (fun K hK => ?_) AllReadyH.nil)
        go_simp
        refine (HL1.out _ _ _ ((ML C G g).below M.out.at_ (B2.out)) HSD.out).mono ?_
        rintro e v3 ⟨rfl, bw⟩
        have B3 := Lib.hid ((B2.out).trans (bw.mono (B2.out).size))
        have X3 := Lib.hid (Blk.below (X2.out) bw)
        clear bw
        go_simp
        refine hK.out _ _ trivial (fun hh => ?_)
        have HH' := Lib.hid hh
        clear hh hK K HH
        have HH := Lib.hid HH'.out
        clear HH'
        try simp only [List.getElem_toArray, List.getElem_cons_succ, List.getElem_cons_zero, Act.put, List.setIfInBounds_toArray, List.set_cons_zero, List.set_cons_succ]
        refine wpAnyH_take (i := 9) (v := .int .i64 (k : Int)) rfl (by kernel_rfl) (by kernel_rfl) (by kernel_rfl) (fun _ _ _ h => h) (Or.inl ⟨by rfl, fun w' hw' => ?ym39⟩) HH.out ?_
        case ym39 => (go_simp; exact HKM.out)
        try simp only [List.getElem_toArray, List.getElem_cons_succ, List.getElem_cons_zero, Act.put, List.setIfInBounds_toArray, List.set_cons_zero, List.set_cons_succ]
        refine wpAnyH_ready (rs := [10]) (by kernel_rfl) (by simp) (AllReadyH.cons rfl (fun K hK => ?_) AllReadyH.nil)
        go_simp
        refine (repeat_any (a := ⟨wr.drew.heap.size, 0, none⟩) ((X3.out).cell 0) k HLE.out).mono ?_
        rintro e v9 ⟨q9, rfl, ho9, bw9⟩
        have HS9 := Lib.hid (ml_setrow HR.out M.out.at_ ((B3.out).trans (bw9.mono (B3.out).size)) (own_moreN ho9 (B3.out).size) (List.length_replicate ..) (i := 0) (by omega))
        obtain ⟨⟨u9, c9⟩, f9, _⟩ := ml_rowcell ((ML C G g).below M.out.at_ ((B3.out).trans (bw9.mono (B3.out).size))) (i := 0) (by omega)
        have c9' : v9.cell? ⟨g, 2, none⟩ = some u9 := c9
        have f9' : v9.frozen? ⟨g, 2, none⟩ = false := f9
        clear bw9 ho9 c9 f9
        go_simp
        refine hK.out _ _ trivial (fun hh => ?_)
        have HH' := Lib.hid hh
        clear hh hK K HH
        have HH := Lib.hid HH'.out
        clear HH'
        try simp only [List.getElem_toArray, List.getElem_cons_succ, List.getElem_cons_zero, Act.put, List.setIfInBounds_toArray, List.set_cons_zero, List.set_cons_succ]
        refine wpAnyH_take (i := 13) (v := ?vz313) rfl (by kernel_rfl) (by kernel_rfl) (by kernel_rfl) (fun _ _ _ h => h) (Or.inl ⟨by rfl, fun w' _ => ?yz313⟩) HH.out ?_
        case yz313 => (go_simp; try with_reducible rfl)
        try simp only [List.getElem_toArray, List.getElem_cons_succ, List.getElem_cons_zero, Act.put, List.setIfInBounds_toArray, List.set_cons_zero, List.set_cons_succ]
        refine wpAnyH_ready (rs := [14]) (by kernel_rfl) (by simp) (AllReadyH.cons rfl (fun K hK => ?_) AllReadyH.nil)
        go_simp
        refine hK.out _ _ trivial (fun hh => ?_)
        have HH' := Lib.hid hh
        clear hh hK K HH
        have HH := Lib.hid HH'.out
        clear HH'
        refine wpAnyH_done (by kernel_rfl) ?_ _
        go_wp2_with fail
        go_roundw
        case rel => exact ⟨1, _, _, rfl, M.out.trans HS9.out, HSD.out, .inr (.inl ⟨rfl, by rw [HS.out]; rfl⟩)⟩
        case measure => simp [intOf]
      · skip
        go_simp
        refine (HL0.out _ _ _ ((ML C G g).below M.out.at_ ((Below.refl wr.heap.size wr).drew)) HSD.out).mono ?_
        rintro e v4 ⟨rfl, bw⟩
        have B4 := Lib.hid (((Below.refl wr.heap.size wr).drew).trans (bw.mono ((Below.refl wr.heap.size wr).drew).size))
        clear bw
        go_simp
        refine hK.out _ _ trivial (fun hh => ?_)
        have HH' := Lib.hid hh
        clear hh hK K HH
        have HH := Lib.hid HH'.out
        clear HH'
        try simp only [List.getElem_toArray, List.getElem_cons_succ, List.getElem_cons_zero, Act.put, List.setIfInBounds_toArray, List.set_cons_zero, List.set_cons_succ]
        refine wpAnyH_ready (rs := [4, 8]) (by kernel_rfl) (by simp) (AllReadyH.cons rfl (fun K hK => ?_) (AllReadyH.cons rfl (fun K hK => ?_) AllReadyH.nil))
        · skip
          go_simp
          refine hK.out _ _ trivial (fun hh => ?_)
          have HH' := Lib.hid hh
          clear hh hK K HH
          have HH := Lib.hid HH'.out
          clear HH'
          have B5 := Lib.hid (show Below wr.heap.size wr (World.alloc v4 (.cells #[.bool (!x)] 4)) from (B4.out).alloc (B4.out).size _)
          have X5 := Lib.hid (show Blk (World.alloc v4 (.cells #[.bool (!x)] 4)) v4.heap.size #[.bool (!x)] 4 from heap_alloc_new _ _)
          try simp only [List.getElem_toArray, List.getElem_cons_succ, List.getElem_cons_zero, Act.put, List.setIfInBounds_toArray, List.set_cons_zero, List.set_cons_succ]
          refine wpAnyH_ready (rs := [8]) (by kernel_rfl) (by simp) (AllReadyH.cons rfl (fun K hK => ?_) AllReadyH.nil)
          go_simp
          refine (HL1.out _ _ _ ((ML C G g).below M.out.at_ (B5.out)) HSD.out).mono ?_
          rintro e v6 ⟨rfl, bw⟩
          have B6 := Lib.hid ((B5.out).trans (bw.mono (B5.out).size))
          have X6 := Lib.hid (Blk.below (X5.out) bw)
          clear bw
          go_simp
          refine hK.out _ _ trivial (fun hh => ?_)
          have HH' := Lib.hid hh
          clear hh hK K HH
          have HH := Lib.hid HH'.out
          clear HH'
          try simp only [List.getElem_toArray, List.getElem_cons_succ, List.getElem_cons_zero, Act.put, List.setIfInBounds_toArray, List.set_cons_zero, List.set_cons_succ]
          refine wpAnyH_take (i := 9) (v := .int .i64 (k : Int)) rfl (by kernel_rfl) (by kernel_rfl) (by kernel_rfl) (fun _ _ _ h => h) (Or.inl ⟨by rfl, fun w' hw' => ?ym69⟩) HH.out ?_
          case ym69 => (go_simp; exact HKM.out)
          try simp only [List.getElem_toArray, List.getElem_cons_succ, List.getElem_cons_zero, Act.put, List.setIfInBounds_toArray, List.set_cons_zero, List.set_cons_succ]
          refine wpAnyH_ready (rs := [10]) (by kernel_rfl) (by simp) (AllReadyH.cons rfl (fun K hK => ?_) AllReadyH.nil)
          go_simp
          refine (repeat_any (a := ⟨v4.heap.size, 0, none⟩) ((X6.out).cell 0) k HLE.out).mono ?_
          rintro e v9 ⟨q9, rfl, ho9, bw9⟩
          have HS9 := Lib.hid (ml_setrow HR.out M.out.at_ ((B6.out).trans (bw9.mono (B6.out).size)) (own_moreN ho9 (B6.out).size) (List.length_replicate ..) (i := 0) (by omega))
          obtain ⟨⟨u9, c9⟩, f9, _⟩ := ml_rowcell ((ML C G g).below M.out.at_ ((B6.out).trans (bw9.mono (B6.out).size))) (i := 0) (by omega)
          have c9' : v9.cell? ⟨g, 2, none⟩ = some u9 := c9
          have f9' : v9.frozen? ⟨g, 2, none⟩ = false := f9
          clear bw9 ho9 c9 f9
          go_simp
          refine hK.out _ _ trivial (fun hh => ?_)
          have HH' := Lib.hid hh
          clear hh hK K HH
          have HH := Lib.hid HH'.out
          clear HH'
          try simp only [List.getElem_toArray, List.getElem_cons_succ, List.getElem_cons_zero, Act.put, List.setIfInBounds_toArray, List.set_cons_zero, List.set_cons_succ]
          refine wpAnyH_take (i := 13) (v := ?vz613) rfl (by kernel_rfl) (by kernel_rfl) (by kernel_rfl) (fun _ _ _ h => h) (Or.inl ⟨by rfl, fun w' _ => ?yz613⟩) HH.out ?_
          case yz613 => (go_simp; try with_reducible rfl)
          try simp only [List.getElem_toArray, List.getElem_cons_succ, List.getElem_cons_zero, Act.put, List.setIfInBounds_toArray, List.set_cons_zero, List.set_cons_succ]
          refine wpAnyH_ready (rs := [14]) (by kernel_rfl) (by simp) (AllReadyH.cons rfl (fun K hK => ?_) AllReadyH.nil)
          go_simp
          refine hK.out _ _ trivial (fun hh => ?_)
          have HH' := Lib.hid hh
          clear hh hK K HH
          have HH := Lib.hid HH'.out
          clear HH'
          refine wpAnyH_done (by kernel_rfl) ?_ _
          go_wp2_with fail
          go_roundw
          case rel => exact ⟨1, _, _, rfl, M.out.trans HS9.out, HSD.out, .inr (.inl ⟨rfl, by rw [HS.out]; rfl⟩)⟩
          case measure => simp [intOf]
        · skip
          go_simp
          refine (HL1.out _ _ _ ((ML C G g).below M.out.at_ (B4.out)) HSD.out).mono ?_
          rintro e v7 ⟨rfl, bw⟩
          have B7 := Lib.hid ((B4.out).trans (bw.mono (B4.out).size))
          clear bw
          go_simp
          refine hK.out _ _ trivial (fun hh => ?_)
          have HH' := Lib.hid hh
          clear hh hK K HH
          have HH := Lib.hid HH'.out
          clear HH'
          try simp only [List.getElem_toArray, List.getElem_cons_succ, List.getElem_cons_zero, Act.put, List.setIfInBounds_toArray, List.set_cons_zero, List.set_cons_succ]
          refine wpAnyH_take (i := 9) (v := .int .i64 (k : Int)) rfl (by kernel_rfl) (by kernel_rfl) (by kernel_rfl) (fun _ _ _ h => h) (Or.inl ⟨by rfl, fun w' hw' => ?ym79⟩) HH.out ?_
          case ym79 => (go_simp; exact HKM.out)
          try simp only [List.getElem_toArray, List.getElem_cons_succ, List.getElem_cons_zero, Act.put, List.setIfInBounds_toArray, List.set_cons_zero, List.set_cons_succ]
          refine wpAnyH_ready (rs := [4]) (by kernel_rfl) (by simp) (AllReadyH.cons rfl (fun K hK => ?_) AllReadyH.nil)
          go_simp
          refine hK.out _ _ trivial (fun hh => ?_)
          have HH' := Lib.hid hh
          clear hh hK K HH
          have HH := Lib.hid HH'.out
          clear HH'
          have B8 := Lib.hid (show Below wr.heap.size wr (World.alloc v7 (.cells #[.bool (!x)] 4)) from (B7.out).alloc (B7.out).size _)
          have X8 := Lib.hid (show Blk (World.alloc v7 (.cells #[.bool (!x)] 4)) v7.heap.size #[.bool (!x)] 4 from heap_alloc_new _ _)
          try simp only [List.getElem_toArray, List.getElem_cons_succ, List.getElem_cons_zero, Act.put, List.setIfInBounds_toArray, List.set_cons_zero, List.set_cons_succ]
          refine wpAnyH_ready (rs := [10]) (by kernel_rfl) (by simp) (AllReadyH.cons rfl (fun K hK => ?_) AllReadyH.nil)
          go_simp
          refine (repeat_any (a := ⟨v7.heap.size, 0, none⟩) ((X8.out).cell 0) k HLE.out).mono ?_
          rintro e v9 ⟨q9, rfl, ho9, bw9⟩
          have HS9 := Lib.hid (ml_setrow HR.out M.out.at_ ((B8.out).trans (bw9.mono (B8.out).size)) (own_moreN ho9 (B8.out).size) (List.length_replicate ..) (i := 0) (by omega))
          obtain ⟨⟨u9, c9⟩, f9, _⟩ := ml_rowcell ((ML C G g).below M.out.at_ ((B8.out).trans (bw9.mono (B8.out).size))) (i := 0) (by omega)
          have c9' : v9.cell? ⟨g, 2, none⟩ = some u9 := c9
          have f9' : v9.frozen? ⟨g, 2, none⟩ = false := f9
          clear bw9 ho9 c9 f9
          go_simp
          refine hK.out _ _ trivial (fun hh => ?_)
          have HH' := Lib.hid hh
          clear hh hK K HH
          have HH := Lib.hid HH'.out
          clear HH'
          try simp only [List.getElem_toArray, List.getElem_cons_succ, List.getElem_cons_zero, Act.put, List.setIfInBounds_toArray, List.set_cons_zero, List.set_cons_succ]
          refine wpAnyH_take (i := 13) (v := ?vz813) rfl (by kernel_rfl) (by kernel_rfl) (by kernel_rfl) (fun _ _ _ h => h) (Or.inl ⟨by rfl, fun w' _ => ?yz813⟩) HH.out ?_
          case yz813 => (go_simp; try with_reducible rfl)
          try simp only [List.getElem_toArray, List.getElem_cons_succ, List.getElem_cons_zero, Act.put, List.setIfInBounds_toArray, List.set_cons_zero, List.set_cons_succ]
          refine wpAnyH_ready (rs := [14]) (by kernel_rfl) (by simp) (AllReadyH.cons rfl (fun K hK => ?_) AllReadyH.nil)
          go_simp
          refine hK.out _ _ trivial (fun hh => ?_)
          have HH' := Lib.hid hh
          clear hh hK K HH
          have HH := Lib.hid HH'.out
          clear HH'
          refine wpAnyH_done (by kernel_rfl) ?_ _
          go_wp2_with fail
          go_roundw
          case rel => exact ⟨1, _, _, rfl, M.out.trans HS9.out, HSD.out, .inr (.inl ⟨rfl, by rw [HS.out]; rfl⟩)⟩
          case measure => simp [intOf]
    · skip
      have HS := Lib.hid hs
      clear hs
      go_wp2_with (refine wpList_execg8 (o := { dst := some 22, op := .index 80 (.tmp 18) (.tmp 19), type := _, pos := _, after := _, guard := _ }) (v := .bool y) (w' := wr) rfl ?hix ?_; case hix => kernel_rfl)
      refine wp_region_held_drew (S := fun _ => True) (by kernel_rfl) trivial (fun hh => ?_)
      have HH := Lib.hid hh
      clear hh
      refine wpAnyH_take (i := 0) (v := ?vN10) rfl (by kernel_rfl) (by kernel_rfl) (by kernel_rfl) (fun _ _ _ h => h) (Or.inl ⟨by rfl, fun w' _ => ?yN10⟩) HH.out ?_
      case yN10 => (go_simp; try with_reducible rfl)
      refine wpAnyH_take (i := 1) (v := ?vN11) rfl (by kernel_rfl) (by kernel_rfl) (by kernel_rfl) (fun _ _ _ h => h) (Or.inl ⟨by rfl, fun w' _ => ?yN11⟩) HH.out ?_
      case yN11 => (go_simp; try with_reducible rfl)
      try simp only [List.getElem_toArray, List.getElem_cons_succ, List.getElem_cons_zero, Act.put, List.setIfInBounds_toArray, List.set_cons_zero, List.set_cons_succ]
      refine wpAnyH_take (i := 2) (v := ?vN12) rfl (by kernel_rfl) (by kernel_rfl) (by kernel_rfl) (fun _ _ _ h => h) (Or.inl ⟨by rfl, fun w' _ => ?yN12⟩) HH.out ?_
      case yN12 => (go_simp; try with_reducible rfl)
      refine wpAnyH_take (i := 3) (v := ?vN13) rfl (by kernel_rfl) (by kernel_rfl) (by kernel_rfl) (fun _ _ _ h => h) (Or.inl ⟨by rfl, fun w' _ => ?yN13⟩) HH.out ?_
      case yN13 => (go_simp; try with_reducible rfl)
      refine wpAnyH_take (i := 5) (v := ?vN15) rfl (by kernel_rfl) (by kernel_rfl) (by kernel_rfl) (fun _ _ _ h => h) (Or.inl ⟨by rfl, fun w' _ => ?yN15⟩) HH.out ?_
      case yN15 => (go_simp; try with_reducible rfl)
      try simp only [List.getElem_toArray, List.getElem_cons_succ, List.getElem_cons_zero, Act.put, List.setIfInBounds_toArray, List.set_cons_zero, List.set_cons_succ]
      refine wpAnyH_take (i := 7) (v := ?vN17) rfl (by kernel_rfl) (by kernel_rfl) (by kernel_rfl) (fun _ _ _ h => h) (Or.inl ⟨by rfl, fun w' _ => ?yN17⟩) HH.out ?_
      case yN17 => (go_simp; try with_reducible rfl)
      refine wpAnyH_take (i := 11) (v := ?vN111) rfl (by kernel_rfl) (by kernel_rfl) (by kernel_rfl) (fun _ _ _ h => h) (Or.inl ⟨by rfl, fun w' _ => ?yN111⟩) HH.out ?_
      case yN111 => (go_simp; try with_reducible rfl)
      refine wpAnyH_take (i := 12) (v := ?vN112) rfl (by kernel_rfl) (by kernel_rfl) (by kernel_rfl) (fun _ _ _ h => h) (Or.inl ⟨by rfl, fun w' _ => ?yN112⟩) HH.out ?_
      case yN112 => (go_simp; try with_reducible rfl)
      try simp only [List.getElem_toArray, List.getElem_cons_succ, List.getElem_cons_zero, Act.put, List.setIfInBounds_toArray, List.set_cons_zero, List.set_cons_succ]
      refine wpAnyH_ready (rs := [4, 6]) (by kernel_rfl) (by simp) (AllReadyH.cons rfl (fun K hK => ?_) (AllReadyH.cons rfl (fun K hK => ?_) AllReadyH.nil))
      · skip
        go_simp
        refine hK.out _ _ trivial (fun hh => ?_)
        have HH' := Lib.hid hh
        clear hh hK K HH
        have HH := Lib.hid HH'.out
        clear HH'
        have B9 := Lib.hid (show Below wr.heap.size wr (World.alloc wr.drew (.cells #[.bool (!y)] 4)) from ((Below.refl wr.heap.size wr).drew).alloc ((Below.refl wr.heap.size wr).drew).size _)
        have X9 := Lib.hid (show Blk (World.alloc wr.drew (.cells #[.bool (!y)] 4)) wr.drew.heap.size #[.bool (!y)] 4 from heap_alloc_new _ _)
        try simp only [List.getElem_toArray, List.getElem_cons_succ, List.getElem_cons_zero, Act.put, List.setIfInBounds_toArray, List.set_cons_zero, List.set_cons_succ]
        refine wpAnyH_ready (rs := [6]) (by kernel_rfl) (by simp) (AllReadyH.cons rfl (fun K hK => ?_) AllReadyH.nil)
        go_simp
        refine (HL0.out _ _ _ ((ML C G g).below M.out.at_ (B9.out)) HSD.out).mono ?_
        rintro e v10 ⟨rfl, bw⟩
        have B10 := Lib.hid ((B9.out).trans (bw.mono (B9.out).size))
        have X10 := Lib.hid (Blk.below (X9.out) bw)
        clear bw
        go_simp
        refine hK.out _ _ trivial (fun hh => ?_)
        have HH' := Lib.hid hh
        clear hh hK K HH
        have HH := Lib.hid HH'.out
        clear HH'
        try simp only [List.getElem_toArray, List.getElem_cons_succ, List.getElem_cons_zero, Act.put, List.setIfInBounds_toArray, List.set_cons_zero, List.set_cons_succ]
        refine wpAnyH_ready (rs := [8]) (by kernel_rfl) (by simp) (AllReadyH.cons rfl (fun K hK => ?_) AllReadyH.nil)
        go_simp
        refine (HL1.out _ _ _ ((ML C G g).below M.out.at_ (B10.out)) HSD.out).mono ?_
        rintro e v11 ⟨rfl, bw⟩
        have B11 := Lib.hid ((B10.out).trans (bw.mono (B10.out).size))
        have X11 := Lib.hid (Blk.below (X10.out) bw)
        clear bw
        go_simp
        refine hK.out _ _ trivial (fun hh => ?_)
        have HH' := Lib.hid hh
        clear hh hK K HH
        have HH := Lib.hid HH'.out
        clear HH'
        try simp only [List.getElem_toArray, List.getElem_cons_succ, List.getElem_cons_zero, Act.put, List.setIfInBounds_toArray, List.set_cons_zero, List.set_cons_succ]
        refine wpAnyH_take (i := 9) (v := .int .i64 (k : Int)) rfl (by kernel_rfl) (by kernel_rfl) (by kernel_rfl) (fun _ _ _ h => h) (Or.inl ⟨by rfl, fun w' hw' => ?ym119⟩) HH.out ?_
        case ym119 => (go_simp; exact HKM.out)
        try simp only [List.getElem_toArray, List.getElem_cons_succ, List.getElem_cons_zero, Act.put, List.setIfInBounds_toArray, List.set_cons_zero, List.set_cons_succ]
        refine wpAnyH_ready (rs := [10]) (by kernel_rfl) (by simp) (AllReadyH.cons rfl (fun K hK => ?_) AllReadyH.nil)
        go_simp
        refine (repeat_any (a := ⟨wr.drew.heap.size, 0, none⟩) ((X11.out).cell 0) k HLE.out).mono ?_
        rintro e v9 ⟨q9, rfl, ho9, bw9⟩
        have HS9 := Lib.hid (ml_setrow HR.out M.out.at_ ((B11.out).trans (bw9.mono (B11.out).size)) (own_moreN ho9 (B11.out).size) (List.length_replicate ..) (i := 1) (by omega))
        obtain ⟨⟨u9, c9⟩, f9, _⟩ := ml_rowcell ((ML C G g).below M.out.at_ ((B11.out).trans (bw9.mono (B11.out).size))) (i := 1) (by omega)
        have c9' : v9.cell? ⟨g, 3, none⟩ = some u9 := c9
        have f9' : v9.frozen? ⟨g, 3, none⟩ = false := f9
        clear bw9 ho9 c9 f9
        go_simp
        refine hK.out _ _ trivial (fun hh => ?_)
        have HH' := Lib.hid hh
        clear hh hK K HH
        have HH := Lib.hid HH'.out
        clear HH'
        try simp only [List.getElem_toArray, List.getElem_cons_succ, List.getElem_cons_zero, Act.put, List.setIfInBounds_toArray, List.set_cons_zero, List.set_cons_succ]
        refine wpAnyH_take (i := 13) (v := ?vz1113) rfl (by kernel_rfl) (by kernel_rfl) (by kernel_rfl) (fun _ _ _ h => h) (Or.inl ⟨by rfl, fun w' _ => ?yz1113⟩) HH.out ?_
        case yz1113 => (go_simp; try with_reducible rfl)
        try simp only [List.getElem_toArray, List.getElem_cons_succ, List.getElem_cons_zero, Act.put, List.setIfInBounds_toArray, List.set_cons_zero, List.set_cons_succ]
        refine wpAnyH_ready (rs := [14]) (by kernel_rfl) (by simp) (AllReadyH.cons rfl (fun K hK => ?_) AllReadyH.nil)
        go_simp
        refine hK.out _ _ trivial (fun hh => ?_)
        have HH' := Lib.hid hh
        clear hh hK K HH
        have HH := Lib.hid HH'.out
        clear HH'
        refine wpAnyH_done (by kernel_rfl) ?_ _
        go_wp2_with fail
        go_roundw
        case rel => exact ⟨2, _, _, rfl, M.out.trans HS9.out, HSD.out, .inr (.inr ⟨rfl, by rw [HS.out]; rfl⟩)⟩
        case measure => simp [intOf]
      · skip
        go_simp
        refine (HL0.out _ _ _ ((ML C G g).below M.out.at_ ((Below.refl wr.heap.size wr).drew)) HSD.out).mono ?_
        rintro e v12 ⟨rfl, bw⟩
        have B12 := Lib.hid (((Below.refl wr.heap.size wr).drew).trans (bw.mono ((Below.refl wr.heap.size wr).drew).size))
        clear bw
        go_simp
        refine hK.out _ _ trivial (fun hh => ?_)
        have HH' := Lib.hid hh
        clear hh hK K HH
        have HH := Lib.hid HH'.out
        clear HH'
        try simp only [List.getElem_toArray, List.getElem_cons_succ, List.getElem_cons_zero, Act.put, List.setIfInBounds_toArray, List.set_cons_zero, List.set_cons_succ]
        refine wpAnyH_ready (rs := [4, 8]) (by kernel_rfl) (by simp) (AllReadyH.cons rfl (fun K hK => ?_) (AllReadyH.cons rfl (fun K hK => ?_) AllReadyH.nil))
        · skip
          go_simp
          refine hK.out _ _ trivial (fun hh => ?_)
          have HH' := Lib.hid hh
          clear hh hK K HH
          have HH := Lib.hid HH'.out
          clear HH'
          have B13 := Lib.hid (show Below wr.heap.size wr (World.alloc v12 (.cells #[.bool (!y)] 4)) from (B12.out).alloc (B12.out).size _)
          have X13 := Lib.hid (show Blk (World.alloc v12 (.cells #[.bool (!y)] 4)) v12.heap.size #[.bool (!y)] 4 from heap_alloc_new _ _)
          try simp only [List.getElem_toArray, List.getElem_cons_succ, List.getElem_cons_zero, Act.put, List.setIfInBounds_toArray, List.set_cons_zero, List.set_cons_succ]
          refine wpAnyH_ready (rs := [8]) (by kernel_rfl) (by simp) (AllReadyH.cons rfl (fun K hK => ?_) AllReadyH.nil)
          go_simp
          refine (HL1.out _ _ _ ((ML C G g).below M.out.at_ (B13.out)) HSD.out).mono ?_
          rintro e v14 ⟨rfl, bw⟩
          have B14 := Lib.hid ((B13.out).trans (bw.mono (B13.out).size))
          have X14 := Lib.hid (Blk.below (X13.out) bw)
          clear bw
          go_simp
          refine hK.out _ _ trivial (fun hh => ?_)
          have HH' := Lib.hid hh
          clear hh hK K HH
          have HH := Lib.hid HH'.out
          clear HH'
          try simp only [List.getElem_toArray, List.getElem_cons_succ, List.getElem_cons_zero, Act.put, List.setIfInBounds_toArray, List.set_cons_zero, List.set_cons_succ]
          refine wpAnyH_take (i := 9) (v := .int .i64 (k : Int)) rfl (by kernel_rfl) (by kernel_rfl) (by kernel_rfl) (fun _ _ _ h => h) (Or.inl ⟨by rfl, fun w' hw' => ?ym149⟩) HH.out ?_
          case ym149 => (go_simp; exact HKM.out)
          try simp only [List.getElem_toArray, List.getElem_cons_succ, List.getElem_cons_zero, Act.put, List.setIfInBounds_toArray, List.set_cons_zero, List.set_cons_succ]
          refine wpAnyH_ready (rs := [10]) (by kernel_rfl) (by simp) (AllReadyH.cons rfl (fun K hK => ?_) AllReadyH.nil)
          go_simp
          refine (repeat_any (a := ⟨v12.heap.size, 0, none⟩) ((X14.out).cell 0) k HLE.out).mono ?_
          rintro e v9 ⟨q9, rfl, ho9, bw9⟩
          have HS9 := Lib.hid (ml_setrow HR.out M.out.at_ ((B14.out).trans (bw9.mono (B14.out).size)) (own_moreN ho9 (B14.out).size) (List.length_replicate ..) (i := 1) (by omega))
          obtain ⟨⟨u9, c9⟩, f9, _⟩ := ml_rowcell ((ML C G g).below M.out.at_ ((B14.out).trans (bw9.mono (B14.out).size))) (i := 1) (by omega)
          have c9' : v9.cell? ⟨g, 3, none⟩ = some u9 := c9
          have f9' : v9.frozen? ⟨g, 3, none⟩ = false := f9
          clear bw9 ho9 c9 f9
          go_simp
          refine hK.out _ _ trivial (fun hh => ?_)
          have HH' := Lib.hid hh
          clear hh hK K HH
          have HH := Lib.hid HH'.out
          clear HH'
          try simp only [List.getElem_toArray, List.getElem_cons_succ, List.getElem_cons_zero, Act.put, List.setIfInBounds_toArray, List.set_cons_zero, List.set_cons_succ]
          refine wpAnyH_take (i := 13) (v := ?vz1413) rfl (by kernel_rfl) (by kernel_rfl) (by kernel_rfl) (fun _ _ _ h => h) (Or.inl ⟨by rfl, fun w' _ => ?yz1413⟩) HH.out ?_
          case yz1413 => (go_simp; try with_reducible rfl)
          try simp only [List.getElem_toArray, List.getElem_cons_succ, List.getElem_cons_zero, Act.put, List.setIfInBounds_toArray, List.set_cons_zero, List.set_cons_succ]
          refine wpAnyH_ready (rs := [14]) (by kernel_rfl) (by simp) (AllReadyH.cons rfl (fun K hK => ?_) AllReadyH.nil)
          go_simp
          refine hK.out _ _ trivial (fun hh => ?_)
          have HH' := Lib.hid hh
          clear hh hK K HH
          have HH := Lib.hid HH'.out
          clear HH'
          refine wpAnyH_done (by kernel_rfl) ?_ _
          go_wp2_with fail
          go_roundw
          case rel => exact ⟨2, _, _, rfl, M.out.trans HS9.out, HSD.out, .inr (.inr ⟨rfl, by rw [HS.out]; rfl⟩)⟩
          case measure => simp [intOf]
        · skip
          go_simp
          refine (HL1.out _ _ _ ((ML C G g).below M.out.at_ (B12.out)) HSD.out).mono ?_
          rintro e v15 ⟨rfl, bw⟩
          have B15 := Lib.hid ((B12.out).trans (bw.mono (B12.out).size))
          clear bw
          go_simp
          refine hK.out _ _ trivial (fun hh => ?_)
          have HH' := Lib.hid hh
          clear hh hK K HH
          have HH := Lib.hid HH'.out
          clear HH'
          try simp only [List.getElem_toArray, List.getElem_cons_succ, List.getElem_cons_zero, Act.put, List.setIfInBounds_toArray, List.set_cons_zero, List.set_cons_succ]
          refine wpAnyH_take (i := 9) (v := .int .i64 (k : Int)) rfl (by kernel_rfl) (by kernel_rfl) (by kernel_rfl) (fun _ _ _ h => h) (Or.inl ⟨by rfl, fun w' hw' => ?ym159⟩) HH.out ?_
          case ym159 => (go_simp; exact HKM.out)
          try simp only [List.getElem_toArray, List.getElem_cons_succ, List.getElem_cons_zero, Act.put, List.setIfInBounds_toArray, List.set_cons_zero, List.set_cons_succ]
          refine wpAnyH_ready (rs := [4]) (by kernel_rfl) (by simp) (AllReadyH.cons rfl (fun K hK => ?_) AllReadyH.nil)
          go_simp
          refine hK.out _ _ trivial (fun hh => ?_)
          have HH' := Lib.hid hh
          clear hh hK K HH
          have HH := Lib.hid HH'.out
          clear HH'
          have B16 := Lib.hid (show Below wr.heap.size wr (World.alloc v15 (.cells #[.bool (!y)] 4)) from (B15.out).alloc (B15.out).size _)
          have X16 := Lib.hid (show Blk (World.alloc v15 (.cells #[.bool (!y)] 4)) v15.heap.size #[.bool (!y)] 4 from heap_alloc_new _ _)
          try simp only [List.getElem_toArray, List.getElem_cons_succ, List.getElem_cons_zero, Act.put, List.setIfInBounds_toArray, List.set_cons_zero, List.set_cons_succ]
          refine wpAnyH_ready (rs := [10]) (by kernel_rfl) (by simp) (AllReadyH.cons rfl (fun K hK => ?_) AllReadyH.nil)
          go_simp
          refine (repeat_any (a := ⟨v15.heap.size, 0, none⟩) ((X16.out).cell 0) k HLE.out).mono ?_
          rintro e v9 ⟨q9, rfl, ho9, bw9⟩
          have HS9 := Lib.hid (ml_setrow HR.out M.out.at_ ((B16.out).trans (bw9.mono (B16.out).size)) (own_moreN ho9 (B16.out).size) (List.length_replicate ..) (i := 1) (by omega))
          obtain ⟨⟨u9, c9⟩, f9, _⟩ := ml_rowcell ((ML C G g).below M.out.at_ ((B16.out).trans (bw9.mono (B16.out).size))) (i := 1) (by omega)
          have c9' : v9.cell? ⟨g, 3, none⟩ = some u9 := c9
          have f9' : v9.frozen? ⟨g, 3, none⟩ = false := f9
          clear bw9 ho9 c9 f9
          go_simp
          refine hK.out _ _ trivial (fun hh => ?_)
          have HH' := Lib.hid hh
          clear hh hK K HH
          have HH := Lib.hid HH'.out
          clear HH'
          try simp only [List.getElem_toArray, List.getElem_cons_succ, List.getElem_cons_zero, Act.put, List.setIfInBounds_toArray, List.set_cons_zero, List.set_cons_succ]
          refine wpAnyH_take (i := 13) (v := ?vz1613) rfl (by kernel_rfl) (by kernel_rfl) (by kernel_rfl) (fun _ _ _ h => h) (Or.inl ⟨by rfl, fun w' _ => ?yz1613⟩) HH.out ?_
          case yz1613 => (go_simp; try with_reducible rfl)
          try simp only [List.getElem_toArray, List.getElem_cons_succ, List.getElem_cons_zero, Act.put, List.setIfInBounds_toArray, List.set_cons_zero, List.set_cons_succ]
          refine wpAnyH_ready (rs := [14]) (by kernel_rfl) (by simp) (AllReadyH.cons rfl (fun K hK => ?_) AllReadyH.nil)
          go_simp
          refine hK.out _ _ trivial (fun hh => ?_)
          have HH' := Lib.hid hh
          clear hh hK K HH
          have HH := Lib.hid HH'.out
          clear HH'
          refine wpAnyH_done (by kernel_rfl) ?_ _
          go_wp2_with fail
          go_roundw
          case rel => exact ⟨2, _, _, rfl, M.out.trans HS9.out, HSD.out, .inr (.inr ⟨rfl, by rw [HS.out]; rfl⟩)⟩
          case measure => simp [intOf]
    · have HS := Lib.hid hs
      clear hs
      go_wp2_with fail
      go_ret
      refine ⟨g, F', rfl, by rw [← HS.out]; exact M.out.at_, fun q hq => ?_, ?_⟩
      · rcases M.out.new q hq with (h1 | h1) | h1
        · exact .inl h1
        · exact .inr (by rw [h1, HG.out]; exact Nat.le_refl _)
        · exact .inr (Nat.le_trans BW1.out.size h1)
      · exact but_step (but_below (T := FF) BW1.out) M.out.but (fun q hq => hq.imp id (fun e => by rw [e, HG.out]; exact Nat.le_refl _))
theorem new_any (hR : ∀ A n c B m e, G.R A n c B m e) {d : C.L.St} (h : C.L.At w d F1) (hl : G.l = [] := by rfl) :
    Calls Tryz.prog 13 #[.pointer (C.ptr 0), .pointer (C.ptr 1), G.v] w (fun e w' => ∃ g F', e = .returned (.pointer (some ⟨g, 0, none⟩)) ∧ (ML C G g).At w' (newM C d) F' ∧ (∀ q, F' q → F1 q ∨ w.heap.size ≤ q) ∧ But F1 w w') := by
  have hF : (fun x => F1 x ∨ ∃ y ∈ G.l, x = y.1) = F1 := funext fun x => propext ⟨fun hx => hx.elim id (fun ⟨y, hy, _⟩ => by rw [hl] at hy; cases hy), .inl⟩
  exact new_anyG hR h (fun x hx => by rw [hl] at hx; cases hx) hF.symm
end
end Go.Proofs.YtnplhagfmfggcaaGreat.Mi
/-
  A mirror of two devices of powers of their own that never fail, as the document tells of it: two lists, which of them are there, what is stale. No program.
-/
namespace Go.Proofs.YtnplhagfmfggcaaGreat.Mi
open Kd
structure Md where
  l0 : List (List UInt8)
  l1 : List (List UInt8)
  o0 : Bool
  o1 : Bool
  a : List Bool
  b : List Bool
def Md.l (x : Md) (i : Nat) : List (List UInt8) := if i = 0 then x.l0 else x.l1
def Md.o (x : Md) (i : Nat) : Bool := if i = 0 then x.o0 else x.o1
def Md.st (x : Md) (i : Nat) : List Bool := if i = 0 then x.a else x.b
def Md.setL (x : Md) (i k : Nat) (y : List UInt8) : Md := if i = 0 then { x with l0 := x.l0.set k y } else { x with l1 := x.l1.set k y }
def Md.put (x : Md) (i k : Nat) (v : Bool) : Md := if i = 0 then { x with a := x.a.set k v } else { x with b := x.b.set k v }
/-- A sector is written to a device, if it is there. -/
def Md.wd (x : Md) (i k : Nat) (y : List UInt8) : Md := if x.o i then x else x.setL i k y
def Md.has (x : Md) (n : Int) : Bool := decide (0 ≤ n) && decide (n < x.a.length)
section
variable {p1 g1 p2 g2 : Nat}
abbrev Two (p1 g1 p2 g2 : Nat) : Duo := duo (uno p1 g1) (uno p2 g2)
structure Sees (s : Mr (Two p1 g1 p2 g2)) (x : Md) (m : Nat) : Prop where
  d0 : See s.d.1 x.l0 x.o0 m
  d1 : See s.d.2 x.l1 x.o1 m
  a : s.a = x.a
  b : s.b = x.b
  n0 : x.l0.length = x.a.length
  n1 : x.l1.length = x.a.length
  nb : x.b.length = x.a.length
variable {s : Mr (Two p1 g1 p2 g2)} {x : Md} {m : Nat} {G : Gd}
theorem Sees.more (h : Sees s x m) {m' : Nat} (hm : m ≤ m') : Sees s x m' := ⟨h.d0.more hm, h.d1.more hm, h.a, h.b, h.n0, h.n1, h.nb⟩
theorem Sees.ok (h : Sees s x m) : s.ok x.a.length := ⟨by rw [h.a], by rw [h.b]; exact h.nb⟩
theorem Sees.st (h : Sees s x m) (i : Nat) : s.st i = x.st i := by
  unfold Mr.st Md.st; split
  · exact h.a
  · exact h.b
theorem Sees.most (h : Sees s x m) : (Two p1 g1 p2 g2).most s.d ≤ m := by
  have h0 := h.d0.few
  have h1 := h.d1.few
  show max (mostS s.d.1) (mostS s.d.2) ≤ m
  unfold mostS
  rw [if_pos h.d0.ds, if_pos h.d1.ds]
  omega
theorem Sees.has (h : Sees s x m) (n : Int) : Mi.has s n = x.has n := by rw [Mi.has, Md.has, h.a]
theorem Sees.rd (h : Sees s x m) {i : Nat} (hi : i < 2) (n : Int) :
    (Two p1 g1 p2 g2).rd s.d i n = (if x.o i then 13 else if n < 0 ∨ (x.a.length : Int) ≤ n then 2 else 0, if x.o i = false ∧ 0 ≤ n ∧ n < (x.a.length : Int) then (x.l i).getD n.toNat zeroS else zeroS) := by
  rcases two hi with rfl | rfl
  · show (refuseN s.d.1.p (s.d.1.at 0) n, readS s.d.1.p (s.d.1.at 0) n) = _
    rw [h.d0.refuse, h.d0.read, h.n0]; rfl
  · show (refuseN s.d.2.p (s.d.2.at 0) n, readS s.d.2.p (s.d.2.at 0) n) = _
    rw [h.d1.refuse, h.d1.read, h.n1]; rfl
theorem Sees.there (h : Sees s x m) {i : Nat} (hi : i < 2) : (Two p1 g1 p2 g2).there s.d i = !(x.o i) := by
  have hp : ((Two p1 g1 p2 g2).ptr i).isSome = true := by rcases two hi with rfl | rfl <;> rfl
  rw [Duo.there, hp, h.rd hi]
  cases x.o i
  · show (true && ((if false = true then (13 : Int) else if (0 : Int) < 0 ∨ (x.a.length : Int) ≤ 0 then 2 else 0) != 13)) = true
    rw [if_neg (by simp)]
    split <;> rfl
  · rfl
/-- A place's reading. -/
theorem Sees.rd_at (h : Sees s x m) {i k : Nat} (hi : i < 2) (hk : k < x.a.length) : (Two p1 g1 p2 g2).rd s.d i (k : Int) = (if x.o i then 13 else 0, if x.o i then zeroS else (x.l i).getD k zeroS) := by
  rw [h.rd hi]
  cases x.o i
  · simp only [Bool.false_eq_true, if_false, true_and]
    rw [if_neg (by omega), if_pos ⟨by omega, by omega⟩, Int.toNat_natCast]
  · simp
theorem Sees.rdOk (h : Sees s x m) {i k : Nat} (hi : i < 2) (hk : k < x.a.length) : Mi.rdOk (Two p1 g1 p2 g2) G s.d i (k : Int) = (!(x.o i) && G.f k ((x.l i).getD k zeroS)) := by
  rw [Mi.rdOk, h.rd_at hi hk]
  cases x.o i <;> rfl
/-- Does a device have a place right? -/
def Md.right (f : Int → List UInt8 → Bool) (x : Md) (i k : Nat) : Bool := !((x.st i).getD k false) && (!(x.o i) && f k ((x.l i).getD k zeroS))
theorem Sees.right (h : Sees s x m) {i k : Nat} (hi : i < 2) (hk : k < x.a.length) : Mi.right (Two p1 g1 p2 g2) G s i k = x.right G.f i k := by
  rw [Mi.right, Md.right, h.st, h.rdOk hi hk]
theorem Sees.rightV (h : Sees s x m) {i k : Nat} (hi : i < 2) (hk : k < x.a.length) (hr : x.right G.f i k = true) : Mi.rightV (Two p1 g1 p2 g2) G s i k = (x.l i).getD k zeroS := by
  have ho : x.o i = false := by
    rw [Md.right] at hr
    cases ho : x.o i
    · rfl
    · rw [ho] at hr; simp at hr
  rw [Mi.rightV, h.right hi hk, hr, if_pos rfl, h.rd_at hi hk, ho]; rfl
/-! ### Writing -/
theorem Sees.put (h : Sees s x m) (i k : Nat) (v : Bool) : Sees (s.put i k v) (x.put i k v) m := by
  unfold Mr.put Md.put
  split
  · exact ⟨h.d0, h.d1, by show s.a.set k v = x.a.set k v; rw [h.a], h.b, by show x.l0.length = (x.a.set k v).length; rw [List.length_set]; exact h.n0, by show x.l1.length = (x.a.set k v).length; rw [List.length_set]; exact h.n1, by show x.b.length = (x.a.set k v).length; rw [List.length_set]; exact h.nb⟩
  · exact ⟨h.d0, h.d1, h.a, by show s.b.set k v = x.b.set k v; rw [h.b], h.n0, h.n1, by show (x.b.set k v).length = x.a.length; rw [List.length_set]; exact h.nb⟩
theorem Sees.wd (h : Sees s x m) {i k : Nat} (hi : i < 2) (hk : k < x.a.length) (y : List UInt8) :
    ((Two p1 g1 p2 g2).wr s.d i (k : Int) y).1 = (if x.o i then 13 else 0) ∧ Sees (s.dev ((Two p1 g1 p2 g2).wr s.d i (k : Int) y).2) (x.wd i k y) (m + 1) := by
  rcases two hi with rfl | rfl
  · cases ho : x.o0 with
    | true =>
      have hw := h.d0.write_no (n := (k : Int)) (x := y) (by rw [ho]; simp)
      have e : (Two p1 g1 p2 g2).wr s.d 0 (k : Int) y = (13, s.d) := by
        show ((s.d.1.write 0 k y).1, ((s.d.1.write 0 k y).2, s.d.2)) = _
        rw [hw, ho]; rfl
      rw [e]
      refine ⟨by rw [show x.o 0 = true from ho]; rfl, ?_⟩
      rw [Md.wd, show x.o 0 = true from ho, if_pos rfl]
      exact h.more (Nat.le_succ _)
    | false =>
      obtain ⟨h1, h2⟩ := h.d0.write_yes (x := y) ho (k := k) (by rw [h.n0]; exact hk)
      refine ⟨by show (s.d.1.write 0 k y).1 = _; rw [h1, show x.o 0 = false from ho]; rfl, ?_⟩
      rw [Md.wd, show x.o 0 = false from ho, if_neg (by simp)]
      exact ⟨h2, h.d1.more (Nat.le_succ _), h.a, h.b, by show (x.l0.set k y).length = _; rw [List.length_set]; exact h.n0, h.n1, h.nb⟩
  · cases ho : x.o1 with
    | true =>
      have hw := h.d1.write_no (n := (k : Int)) (x := y) (by rw [ho]; simp)
      have e : (Two p1 g1 p2 g2).wr s.d 1 (k : Int) y = (13, s.d) := by
        show ((s.d.2.write 0 k y).1, (s.d.1, (s.d.2.write 0 k y).2)) = _
        rw [hw, ho]; rfl
      rw [e]
      refine ⟨by rw [show x.o 1 = true from ho]; rfl, ?_⟩
      rw [Md.wd, show x.o 1 = true from ho, if_pos rfl]
      exact h.more (Nat.le_succ _)
    | false =>
      obtain ⟨h1, h2⟩ := h.d1.write_yes (x := y) ho (k := k) (by rw [h.n1]; exact hk)
      refine ⟨by show (s.d.2.write 0 k y).1 = _; rw [h1, show x.o 1 = false from ho]; rfl, ?_⟩
      rw [Md.wd, show x.o 1 = false from ho, if_neg (by simp)]
      exact ⟨h.d0.more (Nat.le_succ _), h2, h.a, h.b, h.n0, by show (x.l1.set k y).length = _; rw [List.length_set]; exact h.n1, h.nb⟩
theorem wd_o (x : Md) (i k j : Nat) (y : List UInt8) : (x.wd i k y).o j = x.o j := by
  unfold Md.wd Md.setL Md.o; (repeat' split) <;> rfl
theorem wd_a (x : Md) (i k : Nat) (y : List UInt8) : (x.wd i k y).a = x.a := by
  unfold Md.wd Md.setL; (repeat' split) <;> rfl
/-- What Write, and Choose, tell and make of it. -/
def Md.write (x : Md) (n : Int) (y : List UInt8) : Int × Md :=
  if x.has n then (if x.o0 && x.o1 then (13, x) else (0, (((x.wd 0 n.toNat y).wd 1 n.toNat y).put 0 n.toNat x.o0).put 1 n.toNat x.o1)) else (2, x)
theorem has_place {x : Md} {n : Int} (h : x.has n = true) : ∃ k : Nat, n = (k : Int) ∧ k < x.a.length := by
  rw [Md.has] at h
  simp at h
  exact ⟨n.toNat, by omega, by omega⟩
theorem eq13 (o : Bool) : ((if o then (13 : Int) else 0) == 0) = !o := by cases o <;> rfl
theorem Sees.write (h : Sees s x m) (n : Int) (y : List UInt8) : (s.write n y).1 = (x.write n y).1 ∧ Sees (s.write n y).2 (x.write n y).2 (m + 2) := by
  rw [Mr.write, Md.write, h.has]
  cases hh : x.has n with
  | false => exact ⟨rfl, h.more (by omega)⟩
  | true =>
    obtain ⟨k, rfl, hk⟩ := has_place hh
    rw [if_pos rfl, if_pos rfl, Int.toNat_natCast]
    obtain ⟨e0, h0⟩ := h.wd (i := 0) (by omega) hk y
    obtain ⟨e1, h1⟩ := h0.wd (i := 1) (by omega) (by rw [wd_a]; exact hk) y
    have e1' : ((Two p1 g1 p2 g2).wr (s.w0 (k : Int) y 0).d 1 (k : Int) y).1 = _ := e1
    rw [wd_o] at e1'
    rw [e0, e1', eq13, eq13]
    have h2 : Sees ((s.w0 (k : Int) y 0).w0 (k : Int) y 1) ((x.wd 0 k y).wd 1 k y) (m + 1 + 1) := h1
    rw [Mr.reach, show x.o 0 = x.o0 from rfl, show x.o 1 = x.o1 from rfl]
    cases ho0 : x.o0 <;> cases ho1 : x.o1
    · exact ⟨rfl, (h2.put 0 k false).put 1 k false⟩
    · exact ⟨rfl, (h2.put 0 k false).put 1 k true⟩
    · exact ⟨rfl, (h2.put 0 k true).put 1 k false⟩
    · refine ⟨rfl, ?_⟩
      have hx : (x.wd 0 k y).wd 1 k y = x := by
        have h3 : x.wd 0 k y = x := by rw [Md.wd, show x.o 0 = true from ho0, if_pos rfl]
        rw [h3, Md.wd, show x.o 1 = true from ho1, if_pos rfl]
      rw [hx] at h2
      exact h2
end
end Go.Proofs.YtnplhagfmfggcaaGreat.Mi
/-
  .. and what Choose, Flush, Read, Heal, Both, Sync, New, Out and Rot make of it. No program.
-/
namespace Go.Proofs.YtnplhagfmfggcaaGreat.Mi
open Kd
section
variable {p1 g1 p2 g2 : Nat} {s : Mr (Two p1 g1 p2 g2)} {x : Md} {m : Nat} {G : Gd}
theorem list_set_self {α : Type} (l : List α) (k : Nat) (d : α) : l.set k (l.getD k d) = l := by
  apply List.ext_getElem?
  intro j
  rw [List.getElem?_set]
  split
  · rename_i h; subst h
    split
    · rename_i h; rw [List.getD_eq_getElem?_getD, List.getElem?_eq_getElem h]; rfl
    · rename_i h; rw [List.getElem?_eq_none (by omega)]
  · rfl
theorem wd_same {i k : Nat} (h : x.o i = false) : x.wd i k ((x.l i).getD k zeroS) = x := by
  rw [Md.wd, h, if_neg (by simp), Md.setL]
  unfold Md.l
  split
  · show { x with l0 := x.l0.set k (x.l0.getD k zeroS) } = x
    rw [list_set_self]
  · show { x with l1 := x.l1.set k (x.l1.getD k zeroS) } = x
    rw [list_set_self]
theorem Sees.c1 (h : Sees s x m) {i k : Nat} (hi : i < 2) (hk : k < x.a.length) (y : List UInt8) : (s.c1 (k : Int) y i).1 = !(x.o i) ∧ Sees (s.c1 (k : Int) y i).2 (x.wd i k y) (m + 1) := by
  obtain ⟨e, hw⟩ := h.wd hi hk y
  rw [Mr.c1, h.rd_at hi hk]
  cases ho : x.o i with
  | true =>
    rw [if_neg (by simp)]
    refine ⟨rfl, ?_⟩
    rw [Md.wd, ho, if_pos rfl]
    exact h.more (Nat.le_succ _)
  | false =>
    rw [if_pos (by simp)]
    by_cases hy : (x.l i).getD k zeroS = y
    · rw [if_pos (by simpa using hy)]
      refine ⟨rfl, ?_⟩
      rw [← hy, wd_same ho]
      exact h.more (Nat.le_succ _)
    · rw [if_neg (by simpa using hy)]
      exact ⟨by rw [e, eq13, ho], hw⟩
theorem Sees.choose (h : Sees s x m) (n : Int) (y : List UInt8) : (s.choose n y).1 = (x.write n y).1 ∧ Sees (s.choose n y).2 (x.write n y).2 (m + 2) := by
  rw [Mr.choose, Md.write, h.has]
  cases hh : x.has n with
  | false => exact ⟨rfl, h.more (by omega)⟩
  | true =>
    obtain ⟨k, rfl, hk⟩ := has_place hh
    rw [if_pos rfl, if_pos rfl, Int.toNat_natCast]
    obtain ⟨e0, h0⟩ := h.c1 (i := 0) (by omega) hk y
    obtain ⟨e1, h1⟩ := h0.c1 (i := 1) (by omega) (by rw [wd_a]; exact hk) y
    rw [wd_o] at e1
    rw [e0, e1]
    have h2 : Sees ((s.c1 (k : Int) y 0).2.c1 (k : Int) y 1).2 ((x.wd 0 k y).wd 1 k y) (m + 1 + 1) := h1
    rw [Mr.reach, show x.o 0 = x.o0 from rfl, show x.o 1 = x.o1 from rfl]
    cases ho0 : x.o0 <;> cases ho1 : x.o1
    · exact ⟨rfl, (h2.put 0 k false).put 1 k false⟩
    · exact ⟨rfl, (h2.put 0 k false).put 1 k true⟩
    · exact ⟨rfl, (h2.put 0 k true).put 1 k false⟩
    · refine ⟨rfl, ?_⟩
      have hx : (x.wd 0 k y).wd 1 k y = x := by
        have h3 : x.wd 0 k y = x := by rw [Md.wd, show x.o 0 = true from ho0, if_pos rfl]
        rw [h3, Md.wd, show x.o 1 = true from ho1, if_pos rfl]
      rw [hx] at h2
      exact h2
/-! ### Flushing: m is 0 of what is out -/
/-- Nothing waits of a device that is out. -/
structure Dry (s : Mr (Two p1 g1 p2 g2)) (x : Md) : Prop where
  d0 : x.o0 = true → See s.d.1 x.l0 x.o0 0
  d1 : x.o1 = true → See s.d.2 x.l1 x.o1 0
theorem Sees.dry (h : Sees s x 0) : Dry s x := ⟨fun _ => h.d0, fun _ => h.d1⟩
theorem Dry.put (h : Dry s x) (i k : Nat) (v : Bool) : Dry (s.put i k v) (x.put i k v) := by
  unfold Mr.put Md.put; split <;> exact ⟨h.d0, h.d1⟩
theorem Dry.wd (h : Dry s x) (hs : Sees s x m) {i k : Nat} (hi : i < 2) (y : List UInt8) : Dry (s.dev ((Two p1 g1 p2 g2).wr s.d i (k : Int) y).2) (x.wd i k y) := by
  rcases two hi with rfl | rfl
  · cases ho : x.o0 with
    | true =>
      have hw := hs.d0.write_no (n := (k : Int)) (x := y) (by rw [ho]; simp)
      have e : ((Two p1 g1 p2 g2).wr s.d 0 (k : Int) y).2 = s.d := by
        show ((s.d.1.write 0 k y).2, s.d.2) = _
        rw [hw]; rfl
      rw [e, Md.wd, show x.o 0 = true from ho, if_pos rfl]
      exact h
    | false =>
      rw [Md.wd, show x.o 0 = false from ho, if_neg (by simp)]
      exact ⟨fun h1 => (by have h2 : x.o0 = true := h1; rw [ho] at h2; cases h2), h.d1⟩
  · cases ho : x.o1 with
    | true =>
      have hw := hs.d1.write_no (n := (k : Int)) (x := y) (by rw [ho]; simp)
      have e : ((Two p1 g1 p2 g2).wr s.d 1 (k : Int) y).2 = s.d := by
        show (s.d.1, (s.d.2.write 0 k y).2) = _
        rw [hw]; rfl
      rw [e, Md.wd, show x.o 1 = true from ho, if_pos rfl]
      exact h
    | false =>
      rw [Md.wd, show x.o 1 = false from ho, if_neg (by simp)]
      exact ⟨h.d0, fun h1 => (by have h2 : x.o1 = true := h1; rw [ho] at h2; cases h2)⟩
theorem Sees.fl (h : Sees s x m) (hd : Dry s x) : s.flushed = (!x.o0, !x.o1) ∧ Sees ((s.fl0 0).fl0 1) x 0 := by
  have e0 : ((Two p1 g1 p2 g2).fl s.d 0) = ((s.d.1.flush 0).1, ((s.d.1.flush 0).2, s.d.2)) := rfl
  have e1 : ((Two p1 g1 p2 g2).fl (s.fl0 0).d 1) = ((s.d.2.flush 0).1, ((s.d.1.flush 0).2, (s.d.2.flush 0).2)) := rfl
  have h0 : ((s.d.1.flush 0).1 == 0) = !x.o0 ∧ See (s.d.1.flush 0).2 x.l0 x.o0 0 := by
    cases ho : x.o0 with
    | true => rw [h.d0.flush_no ho]; exact ⟨rfl, ho ▸ hd.d0 ho⟩
    | false => obtain ⟨h1, h2⟩ := h.d0.flush_yes ho; rw [h1]; exact ⟨rfl, ho ▸ h2⟩
  have h1 : ((s.d.2.flush 0).1 == 0) = !x.o1 ∧ See (s.d.2.flush 0).2 x.l1 x.o1 0 := by
    cases ho : x.o1 with
    | true => rw [h.d1.flush_no ho]; exact ⟨rfl, ho ▸ hd.d1 ho⟩
    | false => obtain ⟨h1, h2⟩ := h.d1.flush_yes ho; rw [h1]; exact ⟨rfl, ho ▸ h2⟩
  refine ⟨?_, h0.2, h1.2, h.a, h.b, h.n0, h.n1, h.nb⟩
  rw [Mr.flushed, e1]
  show (((s.d.1.flush 0).1 == 0), ((s.d.2.flush 0).1 == 0)) = _
  rw [h0.1, h1.1]
theorem Sees.flush (h : Sees s x m) (hd : Dry s x) : s.flush.1 = (if x.o0 && x.o1 then 13 else 0) ∧ Sees s.flush.2 x 0 := by
  obtain ⟨h1, h2⟩ := h.fl hd
  rw [Mr.flush, h1, h.there (by omega), h.there (by omega), show x.o 0 = x.o0 from rfl, show x.o 1 = x.o1 from rfl]
  refine ⟨?_, h2⟩
  cases x.o0 <;> cases x.o1 <;> rfl
/-! ### Reading -/
def Md.read (f : Int → List UInt8 → Bool) (x : Md) (n : Int) : List UInt8 × Int :=
  if x.has n then (if x.right f 0 n.toNat then (x.l0.getD n.toNat zeroS, 0) else if x.right f 1 n.toNat then (x.l1.getD n.toNat zeroS, 0) else (zeroS, if x.o0 && x.o1 then 13 else 9)) else (zeroS, 2)
theorem right_in {f : Int → List UInt8 → Bool} {i k : Nat} (hr : x.right f i k = true) : x.o i = false := by
  rw [Md.right] at hr
  cases ho : x.o i
  · rfl
  · rw [ho] at hr; simp at hr
theorem Sees.read (h : Sees s x m) (n : Int) : readM (Two p1 g1 p2 g2) G s n = x.read G.f n := by
  rw [readM, Md.read, h.has]
  cases hh : x.has n with
  | false => rfl
  | true =>
    obtain ⟨k, rfl, hk⟩ := has_place hh
    rw [if_pos rfl, if_pos rfl, Int.toNat_natCast, h.right (by omega) hk, h.right (by omega) hk, h.rd_at (by omega) hk, h.rd_at (by omega) hk, h.there (by omega), h.there (by omega)]
    cases h0 : x.right G.f 0 k with
    | true => simp only [if_true, right_in h0]; rfl
    | false =>
      simp only [Bool.false_eq_true, if_false]
      cases h1 : x.right G.f 1 k with
      | true => simp only [if_true, right_in h1]; rfl
      | false =>
        simp only [Bool.false_eq_true, if_false]
        rw [show x.o 0 = x.o0 from rfl, show x.o 1 = x.o1 from rfl]
        cases x.o0 <;> cases x.o1 <;> rfl
/-- What Both tells. -/
def Md.bothTo (f : Int → List UInt8 → Bool) (x : Md) (k : Nat) : Nat → List (List UInt8)
  | 0 => []
  | p + 1 => x.bothTo f k p ++ if !(x.o p) && f k ((x.l p).getD k zeroS) then [(x.l p).getD k zeroS] else []
def Md.both (f : Int → List UInt8 → Bool) (x : Md) (n : Int) : List (List UInt8) := if x.has n then x.bothTo f n.toNat 2 else []
theorem Sees.bothTo (h : Sees s x m) {k : Nat} (hk : k < x.a.length) : ∀ p, p ≤ 2 → Mi.bothTo (Two p1 g1 p2 g2) G s.d (k : Int) p = x.bothTo G.f k p
  | 0, _ => rfl
  | p + 1, hp => by
    rw [Mi.bothTo, Md.bothTo, h.bothTo hk p (by omega), h.rdOk (by omega) hk, h.rd_at (by omega) hk]
    cases ho : x.o p
    · rfl
    · rfl
theorem Sees.both (h : Sees s x m) (n : Int) : bothL G s n = x.both G.f n := by
  rw [bothL, Md.both, h.has]
  cases hh : x.has n with
  | false => rfl
  | true =>
    obtain ⟨k, rfl, hk⟩ := has_place hh
    rw [if_pos rfl, if_pos rfl, Int.toNat_natCast, h.bothTo hk 2 (by omega)]
/-! ### Healing -/
def Md.mend (x : Md) (i k : Nat) (y : List UInt8) : Md := (x.setL i k y).put i k false
theorem Sees.mend (h : Sees s x m) {i k : Nat} (hi : i < 2) (hk : k < x.a.length) (ho : x.o i = false) (y : List UInt8) : (s.mend i k y).1 = 0 ∧ Sees (s.mend i k y).2 (x.mend i k y) (m + 1) := by
  obtain ⟨e, hw⟩ := h.wd hi hk y
  rw [ho] at e
  rw [Md.wd, ho, if_neg (by simp)] at hw
  rw [Mr.mend]
  rw [e]
  exact ⟨rfl, hw.put i k false⟩
def Md.heal (f : Int → List UInt8 → Bool) (x : Md) (n : Int) : (Int × Int) × Md :=
  if x.has n then
    if x.o0 || x.o1 then ((0, 13), x)
    else if x.right f 0 n.toNat then
      (if x.right f 1 n.toNat && decide (x.l0.getD n.toNat zeroS = x.l1.getD n.toNat zeroS) then ((0, 0), x) else ((1, 0), x.mend 1 n.toNat (x.l0.getD n.toNat zeroS)))
    else if x.right f 1 n.toNat then ((1, 0), x.mend 0 n.toNat (x.l1.getD n.toNat zeroS)) else ((2, 0), x)
  else ((0, 2), x)
theorem Sees.healTo (h : Sees s x m) {i k : Nat} (hi : i < 2) (hk : k < x.a.length) (ho : x.o i = false) (y : List UInt8) : (s.healTo i k y).1 = (1, 0) ∧ Sees (s.healTo i k y).2 (x.mend i k y) (m + 1) := by
  obtain ⟨e, hw⟩ := h.mend hi hk ho y
  rw [Mr.healTo, e]
  exact ⟨rfl, hw⟩
theorem Sees.heal (h : Sees s x m) (n : Int) : (s.heal G n).1 = (x.heal G.f n).1 ∧ Sees (s.heal G n).2 (x.heal G.f n).2 (m + 1) := by
  rw [Mr.heal, Md.heal, h.has]
  cases hh : x.has n with
  | false => exact ⟨rfl, h.more (by omega)⟩
  | true =>
    obtain ⟨k, rfl, hk⟩ := has_place hh
    rw [if_pos rfl, if_pos rfl, Int.toNat_natCast, h.there (by omega), h.there (by omega), h.right (by omega) hk, h.right (by omega) hk, show x.o 0 = x.o0 from rfl, show x.o 1 = x.o1 from rfl]
    cases ho0 : x.o0 with
    | true => exact ⟨rfl, h.more (by omega)⟩
    | false =>
      cases ho1 : x.o1 with
      | true => exact ⟨rfl, h.more (by omega)⟩
      | false =>
        rw [if_pos (show ((!false) && !false) = true from rfl), if_neg (show ¬ (false || false) = true by simp)]
        cases h0 : x.right G.f 0 k with
        | true =>
          have v0 : Mi.rightV (Two p1 g1 p2 g2) G s 0 k = x.l0.getD k zeroS := h.rightV (i := 0) (by omega) hk h0
          simp only [if_true, v0]
          cases h1 : x.right G.f 1 k with
          | true =>
            have v1 : Mi.rightV (Two p1 g1 p2 g2) G s 1 k = x.l1.getD k zeroS := h.rightV (i := 1) (by omega) hk h1
            simp only [if_true, v1, Bool.true_and]
            by_cases he : x.l0.getD k zeroS = x.l1.getD k zeroS
            · rw [if_pos he, if_pos (decide_eq_true he)]; exact ⟨rfl, h.more (by omega)⟩
            · rw [if_neg he, if_neg (by rw [decide_eq_false he]; simp)]; exact h.healTo (i := 1) (by omega) hk ho1 _
          | false => simp only [Bool.false_eq_true, if_false, Bool.false_and]; exact h.healTo (i := 1) (by omega) hk ho1 _
        | false =>
          simp only [Bool.false_eq_true, if_false]
          cases h1 : x.right G.f 1 k with
          | true =>
            have v1 : Mi.rightV (Two p1 g1 p2 g2) G s 1 k = x.l1.getD k zeroS := h.rightV (i := 1) (by omega) hk h1
            simp only [if_true, v1]; exact h.healTo (i := 0) (by omega) hk ho0 _
          | false => simp only [Bool.false_eq_true, if_false]; exact ⟨trivial, h.more (by omega)⟩
/-! ### New -/
def Md.new (n : Nat) : Md := ⟨List.replicate n zeroS, List.replicate n zeroS, false, false, List.replicate n false, List.replicate n false⟩
theorem sees_new {S T : Sy} {L0 L1 : List (List UInt8)} {o0 o1 : Bool} {n : Nat} (h0 : See S L0 o0 m) (h1 : See T L1 o1 m) (e0 : L0.length = n) (e1 : L1.length = n) :
    Sees (newM (Two p1 g1 p2 g2) (S, T)) ⟨L0, L1, o0, o1, List.replicate n o0, List.replicate n o1⟩ m := by
  have hs : Sees (⟨(S, T), List.replicate n o0, List.replicate n o1⟩ : Mr (Two p1 g1 p2 g2)) ⟨L0, L1, o0, o1, List.replicate n o0, List.replicate n o1⟩ m :=
    ⟨h0, h1, rfl, rfl, by rw [List.length_replicate]; exact e0, by rw [List.length_replicate]; exact e1, by rw [List.length_replicate, List.length_replicate]⟩
  have hp : (Two p1 g1 p2 g2).places (S, T) = n := by
    show min (S.at 0).st.length (T.at 0).st.length = n
    rw [h0.len, h1.len, e0, e1, Nat.min_self]
  have t0 : (Two p1 g1 p2 g2).there (S, T) 0 = !o0 := hs.there (i := 0) (by omega)
  have t1 : (Two p1 g1 p2 g2).there (S, T) 1 = !o1 := hs.there (i := 1) (by omega)
  have e : newM (Two p1 g1 p2 g2) (S, T) = ⟨(S, T), List.replicate n o0, List.replicate n o1⟩ := by
    show (⟨(S, T), List.replicate ((Two p1 g1 p2 g2).places (S, T)) (!((Two p1 g1 p2 g2).there (S, T) 0)), List.replicate ((Two p1 g1 p2 g2).places (S, T)) (!((Two p1 g1 p2 g2).there (S, T) 1))⟩ : Mr (Two p1 g1 p2 g2)) = _
    rw [hp, t0, t1, Bool.not_not, Bool.not_not]
  rw [e]
  exact hs
end
end Go.Proofs.YtnplhagfmfggcaaGreat.Mi
/-
  .. Sync, Out, Rot; what waits of what is out. No program.
-/
namespace Go.Proofs.YtnplhagfmfggcaaGreat.Mi
open Kd
section
variable {p1 g1 p2 g2 : Nat} {s : Mr (Two p1 g1 p2 g2)} {x : Md} {m : Nat} {G : Gd}
theorem dry_in (h0 : x.o0 = false) (h1 : x.o1 = false) : Dry s x := ⟨fun h => (by rw [h0] at h; cases h), fun h => (by rw [h1] at h; cases h)⟩
theorem Dry.write (hd : Dry s x) (h : Sees s x m) (n : Int) (y : List UInt8) : Dry (s.write n y).2 (x.write n y).2 := by
  rw [Mr.write, Md.write, h.has]
  cases hh : x.has n with
  | false => exact hd
  | true =>
    obtain ⟨k, rfl, hk⟩ := has_place hh
    rw [if_pos rfl, if_pos rfl, Int.toNat_natCast]
    obtain ⟨e0, h0⟩ := h.wd (i := 0) (by omega) hk y
    obtain ⟨e1, _⟩ := h0.wd (i := 1) (by omega) (by rw [wd_a]; exact hk) y
    have e1' : ((Two p1 g1 p2 g2).wr (s.w0 (k : Int) y 0).d 1 (k : Int) y).1 = _ := e1
    rw [wd_o] at e1'
    rw [e0, e1', eq13, eq13]
    have h2 : Dry ((s.w0 (k : Int) y 0).w0 (k : Int) y 1) ((x.wd 0 k y).wd 1 k y) := (hd.wd h (by omega) y).wd h0 (by omega) y
    rw [Mr.reach, show x.o 0 = x.o0 from rfl, show x.o 1 = x.o1 from rfl]
    cases ho0 : x.o0 <;> cases ho1 : x.o1
    · exact (h2.put 0 k false).put 1 k false
    · exact (h2.put 0 k false).put 1 k true
    · exact (h2.put 0 k true).put 1 k false
    · have hx : (x.wd 0 k y).wd 1 k y = x := by
        have h3 : x.wd 0 k y = x := by rw [Md.wd, show x.o 0 = true from ho0, if_pos rfl]
        rw [h3, Md.wd, show x.o 1 = true from ho1, if_pos rfl]
      rw [hx] at h2
      exact h2
theorem Dry.c1 (hd : Dry s x) (h : Sees s x m) {i k : Nat} (hi : i < 2) (hk : k < x.a.length) (y : List UInt8) : Dry (s.c1 (k : Int) y i).2 (x.wd i k y) := by
  have hw := hd.wd h hi y (k := k)
  rw [Mr.c1, h.rd_at hi hk]
  cases ho : x.o i with
  | true =>
    rw [if_neg (by simp), Md.wd, ho, if_pos rfl]
    exact hd
  | false =>
    rw [if_pos (by simp)]
    by_cases hy : (x.l i).getD k zeroS = y
    · rw [if_pos (by simpa using hy), ← hy, wd_same ho]
      exact hd
    · rw [if_neg (by simpa using hy)]
      exact hw
theorem Dry.choose (hd : Dry s x) (h : Sees s x m) (n : Int) (y : List UInt8) : Dry (s.choose n y).2 (x.write n y).2 := by
  rw [Mr.choose, Md.write, h.has]
  cases hh : x.has n with
  | false => exact hd
  | true =>
    obtain ⟨k, rfl, hk⟩ := has_place hh
    rw [if_pos rfl, if_pos rfl, Int.toNat_natCast]
    obtain ⟨e0, h0⟩ := h.c1 (i := 0) (by omega) hk y
    obtain ⟨e1, _⟩ := h0.c1 (i := 1) (by omega) (by rw [wd_a]; exact hk) y
    rw [wd_o] at e1
    rw [e0, e1]
    have h2 : Dry ((s.c1 (k : Int) y 0).2.c1 (k : Int) y 1).2 ((x.wd 0 k y).wd 1 k y) := (hd.c1 h (by omega) hk y).c1 h0 (by omega) (by rw [wd_a]; exact hk) y
    rw [Mr.reach, show x.o 0 = x.o0 from rfl, show x.o 1 = x.o1 from rfl]
    cases ho0 : x.o0 <;> cases ho1 : x.o1
    · exact (h2.put 0 k false).put 1 k false
    · exact (h2.put 0 k false).put 1 k true
    · exact (h2.put 0 k true).put 1 k false
    · have hx : (x.wd 0 k y).wd 1 k y = x := by
        have h3 : x.wd 0 k y = x := by rw [Md.wd, show x.o 0 = true from ho0, if_pos rfl]
        rw [h3, Md.wd, show x.o 1 = true from ho1, if_pos rfl]
      rw [hx] at h2
      exact h2
theorem setL_o (x : Md) (i k : Nat) (y : List UInt8) : (x.setL i k y).o0 = x.o0 ∧ (x.setL i k y).o1 = x.o1 ∧ (x.setL i k y).a = x.a := by unfold Md.setL; split <;> exact ⟨rfl, rfl, rfl⟩
theorem put_o (x : Md) (i k : Nat) (v : Bool) : (x.put i k v).o0 = x.o0 ∧ (x.put i k v).o1 = x.o1 ∧ (x.put i k v).a.length = x.a.length := by
  unfold Md.put; split
  · exact ⟨rfl, rfl, by simp⟩
  · exact ⟨rfl, rfl, rfl⟩
theorem mend_o (x : Md) (i k : Nat) (y : List UInt8) : (x.mend i k y).o0 = x.o0 ∧ (x.mend i k y).o1 = x.o1 ∧ (x.mend i k y).a.length = x.a.length := by
  obtain ⟨h1, h2, h3⟩ := put_o (x.setL i k y) i k false
  obtain ⟨h4, h5, h6⟩ := setL_o x i k y
  exact ⟨h1.trans h4, h2.trans h5, h3.trans (by rw [h6])⟩
theorem Dry.heal (hd : Dry s x) (h : Sees s x m) (n : Int) : Dry (s.heal G n).2 (x.heal G.f n).2 := by
  by_cases hc : x.has n = true ∧ x.o0 = false ∧ x.o1 = false
  · obtain ⟨hh, h0, h1⟩ := hc
    have e : (x.heal G.f n).2.o0 = false ∧ (x.heal G.f n).2.o1 = false := by
      rw [Md.heal, hh, if_pos rfl, if_neg (by rw [h0, h1]; simp)]
      split
      · split
        · exact ⟨h0, h1⟩
        · obtain ⟨a, b, _⟩ := mend_o x 1 n.toNat (x.l0.getD n.toNat zeroS); exact ⟨a.trans h0, b.trans h1⟩
      · split
        · obtain ⟨a, b, _⟩ := mend_o x 0 n.toNat (x.l1.getD n.toNat zeroS); exact ⟨a.trans h0, b.trans h1⟩
        · exact ⟨h0, h1⟩
    exact dry_in e.1 e.2
  · have e : (s.heal G n).2 = s ∧ (x.heal G.f n).2 = x := by
      rw [Mr.heal, Md.heal, h.has]
      cases hh : x.has n with
      | false => exact ⟨rfl, rfl⟩
      | true =>
        rw [if_pos rfl, if_pos rfl, h.there (by omega), h.there (by omega), show x.o 0 = x.o0 from rfl, show x.o 1 = x.o1 from rfl]
        cases h0 : x.o0 with
        | true => exact ⟨rfl, rfl⟩
        | false =>
          cases h1 : x.o1 with
          | true => exact ⟨rfl, rfl⟩
          | false => exact absurd ⟨hh, h0, h1⟩ hc
    rw [e.1, e.2]
    exact hd
/-! ### Sync -/
def Md.catch1 (f : Int → List UInt8 → Bool) (x : Md) (i k : Nat) : Md := if (x.st i).getD k false && x.right f (1 - i) k then x.mend i k ((x.l (1 - i)).getD k zeroS) else x
def Md.catchTo (f : Int → List UInt8 → Bool) (x : Md) (i : Nat) : Nat → Md
  | 0 => x
  | k + 1 => (x.catchTo f i k).catch1 f i k
theorem catch1_o (f : Int → List UInt8 → Bool) (x : Md) (i k : Nat) : (x.catch1 f i k).o0 = x.o0 ∧ (x.catch1 f i k).o1 = x.o1 ∧ (x.catch1 f i k).a.length = x.a.length := by
  unfold Md.catch1; split
  · exact mend_o _ _ _ _
  · exact ⟨rfl, rfl, rfl⟩
theorem catchTo_o (f : Int → List UInt8 → Bool) (x : Md) (i : Nat) : ∀ k, (x.catchTo f i k).o0 = x.o0 ∧ (x.catchTo f i k).o1 = x.o1 ∧ (x.catchTo f i k).a.length = x.a.length
  | 0 => ⟨rfl, rfl, rfl⟩
  | k + 1 => by
    obtain ⟨a, b, c⟩ := catchTo_o f x i k
    obtain ⟨d, e, g⟩ := catch1_o f (x.catchTo f i k) i k
    exact ⟨d.trans a, e.trans b, g.trans c⟩
theorem Sees.catch1 (h : Sees s x m) {i k : Nat} (hi : i < 2) (hk : k < x.a.length) (ho : x.o i = false) : Sees (s.catch1 G i k) (x.catch1 G.f i k) (m + 1) := by
  rw [Mr.catch1, Md.catch1, h.st, h.right (by omega) hk]
  split
  · rename_i hc
    have hr : x.right G.f (1 - i) k = true := by
      cases hr : x.right G.f (1 - i) k
      · rw [hr, Bool.and_false] at hc; cases hc
      · rfl
    rw [h.rightV (by omega) hk hr]
    exact (h.mend hi hk ho _).2
  · exact h.more (Nat.le_succ _)
theorem Sees.catchTo (h : Sees s x m) {i : Nat} (hi : i < 2) (ho0 : x.o0 = false) (ho1 : x.o1 = false) : ∀ k, k ≤ x.a.length → Sees (s.catchTo G i k) (x.catchTo G.f i k) (m + k)
  | 0, _ => h
  | k + 1, hk => by
    obtain ⟨a, b, c⟩ := catchTo_o G.f x i k
    refine (h.catchTo hi ho0 ho1 k (by omega)).catch1 hi (by rw [c]; omega) ?_
    rcases two hi with rfl | rfl
    · exact a.trans ho0
    · exact b.trans ho1
def Md.caught (f : Int → List UInt8 → Bool) (x : Md) : Md := (x.catchTo f 0 x.a.length).catchTo f 1 x.a.length
def Md.sync (f : Int → List UInt8 → Bool) (x : Md) : Int × Md :=
  if x.o0 || x.o1 then (13, x) else (if cnt (x.caught f).a = 0 ∧ cnt (x.caught f).b = 0 then 0 else 9, x.caught f)
theorem Sees.sync (h : Sees s x 0) : (s.sync G x.a.length).1 = (x.sync G.f).1 ∧ Sees (s.sync G x.a.length).2 (x.sync G.f).2 0 := by
  rw [Mr.sync, Md.sync, h.there (by omega), h.there (by omega), show x.o 0 = x.o0 from rfl, show x.o 1 = x.o1 from rfl]
  cases ho0 : x.o0 with
  | true => exact ⟨rfl, h⟩
  | false =>
    cases ho1 : x.o1 with
    | true => exact ⟨rfl, h⟩
    | false =>
      rw [if_pos (show ((!false) && !false) = true from rfl), if_neg (show ¬ (false || false) = true by simp)]
      obtain ⟨a, b, c⟩ := catchTo_o G.f x 0 x.a.length
      have h1 := h.catchTo (G := G) (i := 0) (by omega) ho0 ho1 x.a.length (Nat.le_refl _)
      have h2 : Sees (s.caught G x.a.length) (x.caught G.f) (0 + x.a.length + x.a.length) := h1.catchTo (i := 1) (by omega) (a.trans ho0) (b.trans ho1) x.a.length (by rw [c]; exact Nat.le_refl _)
      obtain ⟨d, e, g⟩ := catchTo_o G.f (x.catchTo G.f 0 x.a.length) 1 x.a.length
      have o0 : (x.caught G.f).o0 = false := (d.trans a).trans ho0
      have o1 : (x.caught G.f).o1 = false := (e.trans b).trans ho1
      obtain ⟨h3, h4⟩ := h2.fl (dry_in o0 o1)
      rw [o0, o1] at h3
      rw [if_pos (show (s.caught G x.a.length).flushed = (true, true) from h3)]
      refine ⟨?_, h4⟩
      rw [show (((s.caught G x.a.length).fl0 0).fl0 1).a = (x.caught G.f).a from h4.a, show (((s.caught G x.a.length).fl0 0).fl0 1).b = (x.caught G.f).b from h4.b]
theorem Dry.sync (h : Sees s x 0) : Dry (s.sync G x.a.length).2 (x.sync G.f).2 := (h.sync).2.dry
/-! ### Out, Rot -/
def Md.out (x : Md) (i : Nat) (on : Bool) : Md := if i = 0 then { x with o0 := on } else { x with o1 := on }
theorem Sees.out0 (h : Sees s x 0) (on : Bool) : Sees (⟨(s.d.1.put 0 ((s.d.1.at 0).out on), s.d.2), s.a, s.b⟩ : Mr (Two p1 g1 p2 g2)) (x.out 0 on) 0 := ⟨h.d0.out on, h.d1, h.a, h.b, h.n0, h.n1, h.nb⟩
theorem Sees.out1 (h : Sees s x 0) (on : Bool) : Sees (⟨(s.d.1, s.d.2.put 0 ((s.d.2.at 0).out on)), s.a, s.b⟩ : Mr (Two p1 g1 p2 g2)) (x.out 1 on) 0 := ⟨h.d0, h.d1.out on, h.a, h.b, h.n0, h.n1, h.nb⟩
theorem See.rot {S : Sy} {L : List (List UInt8)} {g : Bool} (h : See S L g 0) (i a : Int) (b : UInt8) : See (S.rot 0 i a b) (if hasByte L.length i a then rotL L i.toNat a.toNat b else L) g 0 := by
  have hl : (S.at 0).st.length = L.length := h.len
  rw [Sy.rot, hl]
  split
  · have hd0 : 0 < S.ds.length := by rw [h.ds]; omega
    have ha : (S.put 0 ((S.at 0).rot i.toNat a.toNat b)).at 0 = (S.at 0).rot i.toNat a.toNat b := by rw [at_put _ hd0, if_pos rfl]
    refine ⟨by rw [len_put]; exact h.ds, h.p, ?_, fun j hj => ?_, by rw [ha]; exact h.gone, by rw [ha]; exact h.lies, by rw [ha]; exact h.few⟩
    · rw [ha, ← h.stable]; rfl
    · rw [ha, Dv.now]
      show nowL (rotL (S.at 0).st i.toNat a.toNat b) (S.at 0).wt j = _
      rw [h.dry, Kd.flush_nil, h.stable]
  · exact h
def Md.rot (x : Md) (i : Nat) (n a : Int) (b : UInt8) : Md := if hasByte x.a.length n a then (if i = 0 then { x with l0 := rotL x.l0 n.toNat a.toNat b } else { x with l1 := rotL x.l1 n.toNat a.toNat b }) else x
theorem rotL_length (L : List (List UInt8)) (n a : Nat) (b : UInt8) : (rotL L n a b).length = L.length := by rw [rotL, List.length_set]
theorem Sees.rot0 (h : Sees s x 0) (n a : Int) (b : UInt8) : Sees (⟨(s.d.1.rot 0 n a b, s.d.2), s.a, s.b⟩ : Mr (Two p1 g1 p2 g2)) (x.rot 0 n a b) 0 := by
  have h1 := h.d0.rot n a b
  rw [h.n0] at h1
  rw [Md.rot]
  split
  · rename_i hc
    rw [if_pos hc] at h1
    exact ⟨h1, h.d1, h.a, h.b, by show (rotL _ _ _ _).length = _; rw [rotL_length]; exact h.n0, h.n1, h.nb⟩
  · rename_i hc
    rw [if_neg hc] at h1
    exact ⟨h1, h.d1, h.a, h.b, h.n0, h.n1, h.nb⟩
theorem Sees.rot1 (h : Sees s x 0) (n a : Int) (b : UInt8) : Sees (⟨(s.d.1, s.d.2.rot 0 n a b), s.a, s.b⟩ : Mr (Two p1 g1 p2 g2)) (x.rot 1 n a b) 0 := by
  have h1 := h.d1.rot n a b
  rw [h.n1] at h1
  rw [Md.rot]
  split
  · rename_i hc
    rw [if_pos hc] at h1
    exact ⟨h.d0, h1, h.a, h.b, h.n0, by show (rotL _ _ _ _).length = _; rw [rotL_length]; exact h.n1, h.nb⟩
  · rename_i hc
    rw [if_neg hc] at h1
    exact ⟨h.d0, h1, h.a, h.b, h.n0, h.n1, h.nb⟩
end
end Go.Proofs.YtnplhagfmfggcaaGreat.Mi
/-
  A mirror of two devices of one power that never fails, as the document tells of it. No program.
-/
namespace Go.Proofs.YtnplhagfmfggcaaGreat.Mu
open Kd Mi
section
variable {pw g1 g2 : Nat} {s : Mr (one pw g1 g2)} {x : Md} {m : Nat} {G : Gd}
structure Sees (s : Mr (one pw g1 g2)) (x : Md) (m : Nat) : Prop where
  d0 : See s.d 0 x.l0 x.o0 m
  d1 : See s.d 1 x.l1 x.o1 m
  a : s.a = x.a
  b : s.b = x.b
  n0 : x.l0.length = x.a.length
  n1 : x.l1.length = x.a.length
  nb : x.b.length = x.a.length
theorem Sees.more (h : Sees s x m) {m' : Nat} (hm : m ≤ m') : Sees s x m' := ⟨h.d0.more hm, h.d1.more hm, h.a, h.b, h.n0, h.n1, h.nb⟩
theorem Sees.ok (h : Sees s x m) : s.ok x.a.length := ⟨by rw [h.a], by rw [h.b]; exact h.nb⟩
theorem Sees.st (h : Sees s x m) (i : Nat) : s.st i = x.st i := by
  unfold Mr.st Md.st; split
  · exact h.a
  · exact h.b
theorem Sees.most (h : Sees s x m) : (one pw g1 g2).most s.d ≤ m := by
  show mostD s.d ≤ m
  unfold mostD
  rw [if_pos h.d0.ds]
  exact Nat.max_le.2 ⟨h.d0.few, h.d1.few⟩
theorem Sees.has (h : Sees s x m) (n : Int) : Mi.has s n = x.has n := by rw [Mi.has, Md.has, h.a]
theorem Sees.rd (h : Sees s x m) {i : Nat} (hi : i < 2) (n : Int) :
    (one pw g1 g2).rd s.d i n = (if x.o i then 13 else if n < 0 ∨ (x.a.length : Int) ≤ n then 2 else 0, if x.o i = false ∧ 0 ≤ n ∧ n < (x.a.length : Int) then (x.l i).getD n.toNat zeroS else zeroS) := by
  rcases two hi with rfl | rfl
  · show (refuseN s.d.p (s.d.at 0) n, readS s.d.p (s.d.at 0) n) = _
    rw [h.d0.refuse, h.d0.read, h.n0]; rfl
  · show (refuseN s.d.p (s.d.at 1) n, readS s.d.p (s.d.at 1) n) = _
    rw [h.d1.refuse, h.d1.read, h.n1]; rfl
theorem Sees.there (h : Sees s x m) {i : Nat} (hi : i < 2) : (one pw g1 g2).there s.d i = !(x.o i) := by
  have hp : ((one pw g1 g2).ptr i).isSome = true := by rcases two hi with rfl | rfl <;> rfl
  rw [Duo.there, hp, h.rd hi]
  cases x.o i
  · show (true && ((if false = true then (13 : Int) else if (0 : Int) < 0 ∨ (x.a.length : Int) ≤ 0 then 2 else 0) != 13)) = true
    rw [if_neg (by simp)]
    split <;> rfl
  · rfl
/-- A place's reading. -/
theorem Sees.rd_at (h : Sees s x m) {i k : Nat} (hi : i < 2) (hk : k < x.a.length) : (one pw g1 g2).rd s.d i (k : Int) = (if x.o i then 13 else 0, if x.o i then zeroS else (x.l i).getD k zeroS) := by
  rw [h.rd hi]
  cases x.o i
  · simp only [Bool.false_eq_true, if_false, true_and]
    rw [if_neg (by omega), if_pos ⟨by omega, by omega⟩, Int.toNat_natCast]
  · simp
theorem Sees.rdOk (h : Sees s x m) {i k : Nat} (hi : i < 2) (hk : k < x.a.length) : Mi.rdOk (one pw g1 g2) G s.d i (k : Int) = (!(x.o i) && G.f k ((x.l i).getD k zeroS)) := by
  rw [Mi.rdOk, h.rd_at hi hk]
  cases x.o i <;> rfl
theorem Sees.right (h : Sees s x m) {i k : Nat} (hi : i < 2) (hk : k < x.a.length) : Mi.right (one pw g1 g2) G s i k = x.right G.f i k := by
  rw [Mi.right, Md.right, h.st, h.rdOk hi hk]
theorem Sees.rightV (h : Sees s x m) {i k : Nat} (hi : i < 2) (hk : k < x.a.length) (hr : x.right G.f i k = true) : Mi.rightV (one pw g1 g2) G s i k = (x.l i).getD k zeroS := by
  have ho : x.o i = false := by
    rw [Md.right] at hr
    cases ho : x.o i
    · rfl
    · rw [ho] at hr; simp at hr
  rw [Mi.rightV, h.right hi hk, hr, if_pos rfl, h.rd_at hi hk, ho]; rfl
theorem Sees.put (h : Sees s x m) (i k : Nat) (v : Bool) : Sees (s.put i k v) (x.put i k v) m := by
  unfold Mr.put Md.put
  split
  · exact ⟨h.d0, h.d1, by show s.a.set k v = x.a.set k v; rw [h.a], h.b, by show x.l0.length = (x.a.set k v).length; rw [List.length_set]; exact h.n0, by show x.l1.length = (x.a.set k v).length; rw [List.length_set]; exact h.n1, by show x.b.length = (x.a.set k v).length; rw [List.length_set]; exact h.nb⟩
  · exact ⟨h.d0, h.d1, h.a, by show s.b.set k v = x.b.set k v; rw [h.b], h.n0, h.n1, by show (x.b.set k v).length = x.a.length; rw [List.length_set]; exact h.nb⟩
theorem Sees.wd (h : Sees s x m) {i k : Nat} (hi : i < 2) (hk : k < x.a.length) (y : List UInt8) :
    ((one pw g1 g2).wr s.d i (k : Int) y).1 = (if x.o i then 13 else 0) ∧ Sees (s.dev ((one pw g1 g2).wr s.d i (k : Int) y).2) (x.wd i k y) (m + 1) := by
  rcases two hi with rfl | rfl
  · cases ho : x.o0 with
    | true =>
      have hw : (one pw g1 g2).wr s.d 0 (k : Int) y = _ := h.d0.write_no (n := (k : Int)) (x := y) (by rw [ho]; simp)
      rw [hw, ho]
      refine ⟨by rw [show x.o 0 = true from ho]; rfl, ?_⟩
      rw [Md.wd, show x.o 0 = true from ho, if_pos rfl]
      exact h.more (Nat.le_succ _)
    | false =>
      obtain ⟨h1, h2, h3⟩ := h.d0.write_yes (x := y) ho (k := k) (by rw [h.n0]; exact hk)
      refine ⟨by show (s.d.write 0 k y).1 = _; rw [h1, show x.o 0 = false from ho]; rfl, ?_⟩
      rw [Md.wd, show x.o 0 = false from ho, if_neg (by simp)]
      exact ⟨h2, (h3 (by omega) h.d1).more (Nat.le_succ _), h.a, h.b, by show (x.l0.set k y).length = _; rw [List.length_set]; exact h.n0, h.n1, h.nb⟩
  · cases ho : x.o1 with
    | true =>
      have hw : (one pw g1 g2).wr s.d 1 (k : Int) y = _ := h.d1.write_no (n := (k : Int)) (x := y) (by rw [ho]; simp)
      rw [hw, ho]
      refine ⟨by rw [show x.o 1 = true from ho]; rfl, ?_⟩
      rw [Md.wd, show x.o 1 = true from ho, if_pos rfl]
      exact h.more (Nat.le_succ _)
    | false =>
      obtain ⟨h1, h2, h3⟩ := h.d1.write_yes (x := y) ho (k := k) (by rw [h.n1]; exact hk)
      refine ⟨by show (s.d.write 1 k y).1 = _; rw [h1, show x.o 1 = false from ho]; rfl, ?_⟩
      rw [Md.wd, show x.o 1 = false from ho, if_neg (by simp)]
      exact ⟨(h3 (by omega) h.d0).more (Nat.le_succ _), h2, h.a, h.b, h.n0, by show (x.l1.set k y).length = _; rw [List.length_set]; exact h.n1, h.nb⟩
theorem Sees.write (h : Sees s x m) (n : Int) (y : List UInt8) : (s.write n y).1 = (x.write n y).1 ∧ Sees (s.write n y).2 (x.write n y).2 (m + 2) := by
  rw [Mr.write, Md.write, h.has]
  cases hh : x.has n with
  | false => exact ⟨rfl, h.more (by omega)⟩
  | true =>
    obtain ⟨k, rfl, hk⟩ := has_place hh
    rw [if_pos rfl, if_pos rfl, Int.toNat_natCast]
    obtain ⟨e0, h0⟩ := h.wd (i := 0) (by omega) hk y
    obtain ⟨e1, h1⟩ := h0.wd (i := 1) (by omega) (by rw [wd_a]; exact hk) y
    have e1' : ((one pw g1 g2).wr (s.w0 (k : Int) y 0).d 1 (k : Int) y).1 = _ := e1
    rw [wd_o] at e1'
    rw [e0, e1', eq13, eq13]
    have h2 : Sees ((s.w0 (k : Int) y 0).w0 (k : Int) y 1) ((x.wd 0 k y).wd 1 k y) (m + 1 + 1) := h1
    rw [Mr.reach, show x.o 0 = x.o0 from rfl, show x.o 1 = x.o1 from rfl]
    cases ho0 : x.o0 <;> cases ho1 : x.o1
    · exact ⟨rfl, (h2.put 0 k false).put 1 k false⟩
    · exact ⟨rfl, (h2.put 0 k false).put 1 k true⟩
    · exact ⟨rfl, (h2.put 0 k true).put 1 k false⟩
    · refine ⟨rfl, ?_⟩
      have hx : (x.wd 0 k y).wd 1 k y = x := by
        have h3 : x.wd 0 k y = x := by rw [Md.wd, show x.o 0 = true from ho0, if_pos rfl]
        rw [h3, Md.wd, show x.o 1 = true from ho1, if_pos rfl]
      rw [hx] at h2
      exact h2
end
end Go.Proofs.YtnplhagfmfggcaaGreat.Mu
/-
  .. and what Choose, Flush, Read, Heal, Both, New make of it. No program.
-/
namespace Go.Proofs.YtnplhagfmfggcaaGreat.Mu
open Kd Mi
section
variable {pw g1 g2 : Nat} {s : Mr (one pw g1 g2)} {x : Md} {m : Nat} {G : Gd}
theorem Sees.c1 (h : Sees s x m) {i k : Nat} (hi : i < 2) (hk : k < x.a.length) (y : List UInt8) : (s.c1 (k : Int) y i).1 = !(x.o i) ∧ Sees (s.c1 (k : Int) y i).2 (x.wd i k y) (m + 1) := by
  obtain ⟨e, hw⟩ := h.wd hi hk y
  rw [Mr.c1, h.rd_at hi hk]
  cases ho : x.o i with
  | true =>
    rw [if_neg (by simp)]
    refine ⟨rfl, ?_⟩
    rw [Md.wd, ho, if_pos rfl]
    exact h.more (Nat.le_succ _)
  | false =>
    rw [if_pos (by simp)]
    by_cases hy : (x.l i).getD k zeroS = y
    · rw [if_pos (by simpa using hy)]
      refine ⟨rfl, ?_⟩
      rw [← hy, wd_same ho]
      exact h.more (Nat.le_succ _)
    · rw [if_neg (by simpa using hy)]
      exact ⟨by rw [e, eq13, ho], hw⟩
theorem Sees.choose (h : Sees s x m) (n : Int) (y : List UInt8) : (s.choose n y).1 = (x.write n y).1 ∧ Sees (s.choose n y).2 (x.write n y).2 (m + 2) := by
  rw [Mr.choose, Md.write, h.has]
  cases hh : x.has n with
  | false => exact ⟨rfl, h.more (by omega)⟩
  | true =>
    obtain ⟨k, rfl, hk⟩ := has_place hh
    rw [if_pos rfl, if_pos rfl, Int.toNat_natCast]
    obtain ⟨e0, h0⟩ := h.c1 (i := 0) (by omega) hk y
    obtain ⟨e1, h1⟩ := h0.c1 (i := 1) (by omega) (by rw [wd_a]; exact hk) y
    rw [wd_o] at e1
    rw [e0, e1]
    have h2 : Sees ((s.c1 (k : Int) y 0).2.c1 (k : Int) y 1).2 ((x.wd 0 k y).wd 1 k y) (m + 1 + 1) := h1
    rw [Mr.reach, show x.o 0 = x.o0 from rfl, show x.o 1 = x.o1 from rfl]
    cases ho0 : x.o0 <;> cases ho1 : x.o1
    · exact ⟨rfl, (h2.put 0 k false).put 1 k false⟩
    · exact ⟨rfl, (h2.put 0 k false).put 1 k true⟩
    · exact ⟨rfl, (h2.put 0 k true).put 1 k false⟩
    · refine ⟨rfl, ?_⟩
      have hx : (x.wd 0 k y).wd 1 k y = x := by
        have h3 : x.wd 0 k y = x := by rw [Md.wd, show x.o 0 = true from ho0, if_pos rfl]
        rw [h3, Md.wd, show x.o 1 = true from ho1, if_pos rfl]
      rw [hx] at h2
      exact h2
structure Dry (s : Mr (one pw g1 g2)) (x : Md) : Prop where
  d0 : x.o0 = true → See s.d 0 x.l0 x.o0 0
  d1 : x.o1 = true → See s.d 1 x.l1 x.o1 0
theorem Sees.dry (h : Sees s x 0) : Dry s x := ⟨fun _ => h.d0, fun _ => h.d1⟩
theorem Dry.put (h : Dry s x) (i k : Nat) (v : Bool) : Dry (s.put i k v) (x.put i k v) := by
  unfold Mr.put Md.put; split <;> exact ⟨h.d0, h.d1⟩
theorem Dry.wd (h : Dry s x) (hs : Sees s x m) {i k : Nat} (hi : i < 2) (hk : k < x.a.length) (y : List UInt8) : Dry (s.dev ((one pw g1 g2).wr s.d i (k : Int) y).2) (x.wd i k y) := by
  rcases two hi with rfl | rfl
  · cases ho : x.o0 with
    | true =>
      have hw : (one pw g1 g2).wr s.d 0 (k : Int) y = _ := hs.d0.write_no (n := (k : Int)) (x := y) (by rw [ho]; simp)
      rw [hw, Md.wd, show x.o 0 = true from ho, if_pos rfl]
      exact h
    | false =>
      obtain ⟨h1, h2, h3⟩ := hs.d0.write_yes (x := y) ho (k := k) (by rw [hs.n0]; exact hk)
      rw [Md.wd, show x.o 0 = false from ho, if_neg (by simp)]
      exact ⟨fun h1 => (by have h2 : x.o0 = true := h1; rw [ho] at h2; cases h2), fun h4 => h3 (by omega) (h.d1 h4)⟩
  · cases ho : x.o1 with
    | true =>
      have hw : (one pw g1 g2).wr s.d 1 (k : Int) y = _ := hs.d1.write_no (n := (k : Int)) (x := y) (by rw [ho]; simp)
      rw [hw, Md.wd, show x.o 1 = true from ho, if_pos rfl]
      exact h
    | false =>
      obtain ⟨h1, h2, h3⟩ := hs.d1.write_yes (x := y) ho (k := k) (by rw [hs.n1]; exact hk)
      rw [Md.wd, show x.o 1 = false from ho, if_neg (by simp)]
      exact ⟨fun h4 => h3 (by omega) (h.d0 h4), fun h1 => (by have h2 : x.o1 = true := h1; rw [ho] at h2; cases h2)⟩
theorem Sees.fl (h : Sees s x m) (hd : Dry s x) : s.flushed = (!x.o0, !x.o1) ∧ Sees ((s.fl0 0).fl0 1) x 0 := by
  have h0 : ((s.d.flush 0).1 == 0) = !x.o0 ∧ See (s.d.flush 0).2 0 x.l0 x.o0 0 ∧ ∀ {L' g' m'}, See s.d 1 L' g' m' → See (s.d.flush 0).2 1 L' g' m' := by
    cases ho : x.o0 with
    | true => rw [h.d0.flush_no ho]; exact ⟨rfl, ho ▸ hd.d0 ho, fun h => h⟩
    | false => obtain ⟨h1, h2, h3⟩ := h.d0.flush_yes ho; rw [h1]; exact ⟨rfl, ho ▸ h2, fun h => h3 (by omega) h⟩
  have hs1 := h0.2.2 h.d1
  have h1 : (((s.d.flush 0).2.flush 1).1 == 0) = !x.o1 ∧ See ((s.d.flush 0).2.flush 1).2 1 x.l1 x.o1 0 ∧ See ((s.d.flush 0).2.flush 1).2 0 x.l0 x.o0 0 := by
    cases ho : x.o1 with
    | true => rw [hs1.flush_no ho]; exact ⟨rfl, ho ▸ h0.2.2 (hd.d1 ho), h0.2.1⟩
    | false => obtain ⟨h1, h2, h3⟩ := hs1.flush_yes ho; rw [h1]; exact ⟨rfl, ho ▸ h2, h3 (by omega) h0.2.1⟩
  refine ⟨?_, h1.2.2, h1.2.1, h.a, h.b, h.n0, h.n1, h.nb⟩
  rw [Mr.flushed]
  show (((s.d.flush 0).1 == 0), (((s.d.flush 0).2.flush 1).1 == 0)) = _
  rw [h0.1, h1.1]
theorem Sees.flush (h : Sees s x m) (hd : Dry s x) : s.flush.1 = (if x.o0 && x.o1 then 13 else 0) ∧ Sees s.flush.2 x 0 := by
  obtain ⟨h1, h2⟩ := h.fl hd
  rw [Mr.flush, h1, h.there (by omega), h.there (by omega), show x.o 0 = x.o0 from rfl, show x.o 1 = x.o1 from rfl]
  refine ⟨?_, h2⟩
  cases x.o0 <;> cases x.o1 <;> rfl
theorem Sees.read (h : Sees s x m) (n : Int) : readM (one pw g1 g2) G s n = x.read G.f n := by
  rw [readM, Md.read, h.has]
  cases hh : x.has n with
  | false => rfl
  | true =>
    obtain ⟨k, rfl, hk⟩ := has_place hh
    rw [if_pos rfl, if_pos rfl, Int.toNat_natCast, h.right (by omega) hk, h.right (by omega) hk, h.rd_at (by omega) hk, h.rd_at (by omega) hk, h.there (by omega), h.there (by omega)]
    cases h0 : x.right G.f 0 k with
    | true => simp only [if_true, right_in h0]; rfl
    | false =>
      simp only [Bool.false_eq_true, if_false]
      cases h1 : x.right G.f 1 k with
      | true => simp only [if_true, right_in h1]; rfl
      | false =>
        simp only [Bool.false_eq_true, if_false]
        rw [show x.o 0 = x.o0 from rfl, show x.o 1 = x.o1 from rfl]
        cases x.o0 <;> cases x.o1 <;> rfl
theorem Sees.bothTo (h : Sees s x m) {k : Nat} (hk : k < x.a.length) : ∀ p, p ≤ 2 → Mi.bothTo (one pw g1 g2) G s.d (k : Int) p = x.bothTo G.f k p
  | 0, _ => rfl
  | p + 1, hp => by
    rw [Mi.bothTo, Md.bothTo, h.bothTo hk p (by omega), h.rdOk (by omega) hk, h.rd_at (by omega) hk]
    cases ho : x.o p
    · rfl
    · rfl
theorem Sees.both (h : Sees s x m) (n : Int) : bothL G s n = x.both G.f n := by
  rw [bothL, Md.both, h.has]
  cases hh : x.has n with
  | false => rfl
  | true =>
    obtain ⟨k, rfl, hk⟩ := has_place hh
    rw [if_pos rfl, if_pos rfl, Int.toNat_natCast, h.bothTo hk 2 (by omega)]
theorem Sees.mend (h : Sees s x m) {i k : Nat} (hi : i < 2) (hk : k < x.a.length) (ho : x.o i = false) (y : List UInt8) : (s.mend i k y).1 = 0 ∧ Sees (s.mend i k y).2 (x.mend i k y) (m + 1) := by
  obtain ⟨e, hw⟩ := h.wd hi hk y
  rw [ho] at e
  rw [Md.wd, ho, if_neg (by simp)] at hw
  rw [Mr.mend]
  rw [e]
  exact ⟨rfl, hw.put i k false⟩
theorem Sees.healTo (h : Sees s x m) {i k : Nat} (hi : i < 2) (hk : k < x.a.length) (ho : x.o i = false) (y : List UInt8) : (s.healTo i k y).1 = (1, 0) ∧ Sees (s.healTo i k y).2 (x.mend i k y) (m + 1) := by
  obtain ⟨e, hw⟩ := h.mend hi hk ho y
  rw [Mr.healTo, e]
  exact ⟨rfl, hw⟩
theorem Sees.heal (h : Sees s x m) (n : Int) : (s.heal G n).1 = (x.heal G.f n).1 ∧ Sees (s.heal G n).2 (x.heal G.f n).2 (m + 1) := by
  rw [Mr.heal, Md.heal, h.has]
  cases hh : x.has n with
  | false => exact ⟨rfl, h.more (by omega)⟩
  | true =>
    obtain ⟨k, rfl, hk⟩ := has_place hh
    rw [if_pos rfl, if_pos rfl, Int.toNat_natCast, h.there (by omega), h.there (by omega), h.right (by omega) hk, h.right (by omega) hk, show x.o 0 = x.o0 from rfl, show x.o 1 = x.o1 from rfl]
    cases ho0 : x.o0 with
    | true => exact ⟨rfl, h.more (by omega)⟩
    | false =>
      cases ho1 : x.o1 with
      | true => exact ⟨rfl, h.more (by omega)⟩
      | false =>
        rw [if_pos (show ((!false) && !false) = true from rfl), if_neg (show ¬ (false || false) = true by simp)]
        cases h0 : x.right G.f 0 k with
        | true =>
          have v0 : Mi.rightV (one pw g1 g2) G s 0 k = x.l0.getD k zeroS := h.rightV (i := 0) (by omega) hk h0
          simp only [if_true, v0]
          cases h1 : x.right G.f 1 k with
          | true =>
            have v1 : Mi.rightV (one pw g1 g2) G s 1 k = x.l1.getD k zeroS := h.rightV (i := 1) (by omega) hk h1
            simp only [if_true, v1, Bool.true_and]
            by_cases he : x.l0.getD k zeroS = x.l1.getD k zeroS
            · rw [if_pos he, if_pos (decide_eq_true he)]; exact ⟨rfl, h.more (by omega)⟩
            · rw [if_neg he, if_neg (by rw [decide_eq_false he]; simp)]; exact h.healTo (i := 1) (by omega) hk ho1 _
          | false => simp only [Bool.false_eq_true, if_false, Bool.false_and]; exact h.healTo (i := 1) (by omega) hk ho1 _
        | false =>
          simp only [Bool.false_eq_true, if_false]
          cases h1 : x.right G.f 1 k with
          | true =>
            have v1 : Mi.rightV (one pw g1 g2) G s 1 k = x.l1.getD k zeroS := h.rightV (i := 1) (by omega) hk h1
            simp only [if_true, v1]; exact h.healTo (i := 0) (by omega) hk ho0 _
          | false => simp only [Bool.false_eq_true, if_false]; exact ⟨trivial, h.more (by omega)⟩
theorem sees_new {S : Sy} {L0 L1 : List (List UInt8)} {o0 o1 : Bool} {n : Nat} (h0 : See S 0 L0 o0 m) (h1 : See S 1 L1 o1 m) (e0 : L0.length = n) (e1 : L1.length = n) :
    Sees (newM (one pw g1 g2) S) ⟨L0, L1, o0, o1, List.replicate n o0, List.replicate n o1⟩ m := by
  have hs : Sees (⟨S, List.replicate n o0, List.replicate n o1⟩ : Mr (one pw g1 g2)) ⟨L0, L1, o0, o1, List.replicate n o0, List.replicate n o1⟩ m :=
    ⟨h0, h1, rfl, rfl, by rw [List.length_replicate]; exact e0, by rw [List.length_replicate]; exact e1, by rw [List.length_replicate, List.length_replicate]⟩
  have hp : (one pw g1 g2).places S = n := by
    show min (S.at 0).st.length (S.at 1).st.length = n
    rw [h0.len, h1.len, e0, e1, Nat.min_self]
  have t0 : (one pw g1 g2).there S 0 = !o0 := hs.there (i := 0) (by omega)
  have t1 : (one pw g1 g2).there S 1 = !o1 := hs.there (i := 1) (by omega)
  have e : newM (one pw g1 g2) S = ⟨S, List.replicate n o0, List.replicate n o1⟩ := by
    show (⟨S, List.replicate ((one pw g1 g2).places S) (!((one pw g1 g2).there S 0)), List.replicate ((one pw g1 g2).places S) (!((one pw g1 g2).there S 1))⟩ : Mr (one pw g1 g2)) = _
    rw [hp, t0, t1, Bool.not_not, Bool.not_not]
  rw [e]
  exact hs
end
end Go.Proofs.YtnplhagfmfggcaaGreat.Mu
/-
  .. Sync, Out, Rot; what waits of what is out. No program.
-/
namespace Go.Proofs.YtnplhagfmfggcaaGreat.Mu
open Kd Mi
section
variable {pw g1 g2 : Nat} {s : Mr (one pw g1 g2)} {x : Md} {m : Nat} {G : Gd}
theorem dry_in (h0 : x.o0 = false) (h1 : x.o1 = false) : Dry s x := ⟨fun h => (by rw [h0] at h; cases h), fun h => (by rw [h1] at h; cases h)⟩
theorem Dry.write (hd : Dry s x) (h : Sees s x m) (n : Int) (y : List UInt8) : Dry (s.write n y).2 (x.write n y).2 := by
  rw [Mr.write, Md.write, h.has]
  cases hh : x.has n with
  | false => exact hd
  | true =>
    obtain ⟨k, rfl, hk⟩ := has_place hh
    rw [if_pos rfl, if_pos rfl, Int.toNat_natCast]
    obtain ⟨e0, h0⟩ := h.wd (i := 0) (by omega) hk y
    obtain ⟨e1, _⟩ := h0.wd (i := 1) (by omega) (by rw [wd_a]; exact hk) y
    have e1' : ((one pw g1 g2).wr (s.w0 (k : Int) y 0).d 1 (k : Int) y).1 = _ := e1
    rw [wd_o] at e1'
    rw [e0, e1', eq13, eq13]
    have h2 : Dry ((s.w0 (k : Int) y 0).w0 (k : Int) y 1) ((x.wd 0 k y).wd 1 k y) := (hd.wd h (by omega) hk y).wd h0 (by omega) (by rw [wd_a]; exact hk) y
    rw [Mr.reach, show x.o 0 = x.o0 from rfl, show x.o 1 = x.o1 from rfl]
    cases ho0 : x.o0 <;> cases ho1 : x.o1
    · exact (h2.put 0 k false).put 1 k false
    · exact (h2.put 0 k false).put 1 k true
    · exact (h2.put 0 k true).put 1 k false
    · have hx : (x.wd 0 k y).wd 1 k y = x := by
        have h3 : x.wd 0 k y = x := by rw [Md.wd, show x.o 0 = true from ho0, if_pos rfl]
        rw [h3, Md.wd, show x.o 1 = true from ho1, if_pos rfl]
      rw [hx] at h2
      exact h2
theorem Dry.c1 (hd : Dry s x) (h : Sees s x m) {i k : Nat} (hi : i < 2) (hk : k < x.a.length) (y : List UInt8) : Dry (s.c1 (k : Int) y i).2 (x.wd i k y) := by
  have hw := hd.wd h hi hk y
  rw [Mr.c1, h.rd_at hi hk]
  cases ho : x.o i with
  | true =>
    rw [if_neg (by simp), Md.wd, ho, if_pos rfl]
    exact hd
  | false =>
    rw [if_pos (by simp)]
    by_cases hy : (x.l i).getD k zeroS = y
    · rw [if_pos (by simpa using hy), ← hy, wd_same ho]
      exact hd
    · rw [if_neg (by simpa using hy)]
      exact hw
theorem Dry.choose (hd : Dry s x) (h : Sees s x m) (n : Int) (y : List UInt8) : Dry (s.choose n y).2 (x.write n y).2 := by
  rw [Mr.choose, Md.write, h.has]
  cases hh : x.has n with
  | false => exact hd
  | true =>
    obtain ⟨k, rfl, hk⟩ := has_place hh
    rw [if_pos rfl, if_pos rfl, Int.toNat_natCast]
    obtain ⟨e0, h0⟩ := h.c1 (i := 0) (by omega) hk y
    obtain ⟨e1, _⟩ := h0.c1 (i := 1) (by omega) (by rw [wd_a]; exact hk) y
    rw [wd_o] at e1
    rw [e0, e1]
    have h2 : Dry ((s.c1 (k : Int) y 0).2.c1 (k : Int) y 1).2 ((x.wd 0 k y).wd 1 k y) := (hd.c1 h (by omega) hk y).c1 h0 (by omega) (by rw [wd_a]; exact hk) y
    rw [Mr.reach, show x.o 0 = x.o0 from rfl, show x.o 1 = x.o1 from rfl]
    cases ho0 : x.o0 <;> cases ho1 : x.o1
    · exact (h2.put 0 k false).put 1 k false
    · exact (h2.put 0 k false).put 1 k true
    · exact (h2.put 0 k true).put 1 k false
    · have hx : (x.wd 0 k y).wd 1 k y = x := by
        have h3 : x.wd 0 k y = x := by rw [Md.wd, show x.o 0 = true from ho0, if_pos rfl]
        rw [h3, Md.wd, show x.o 1 = true from ho1, if_pos rfl]
      rw [hx] at h2
      exact h2
theorem Dry.heal (hd : Dry s x) (h : Sees s x m) (n : Int) : Dry (s.heal G n).2 (x.heal G.f n).2 := by
  by_cases hc : x.has n = true ∧ x.o0 = false ∧ x.o1 = false
  · obtain ⟨hh, h0, h1⟩ := hc
    have e : (x.heal G.f n).2.o0 = false ∧ (x.heal G.f n).2.o1 = false := by
      rw [Md.heal, hh, if_pos rfl, if_neg (by rw [h0, h1]; simp)]
      split
      · split
        · exact ⟨h0, h1⟩
        · obtain ⟨a, b, _⟩ := mend_o x 1 n.toNat (x.l0.getD n.toNat zeroS); exact ⟨a.trans h0, b.trans h1⟩
      · split
        · obtain ⟨a, b, _⟩ := mend_o x 0 n.toNat (x.l1.getD n.toNat zeroS); exact ⟨a.trans h0, b.trans h1⟩
        · exact ⟨h0, h1⟩
    exact dry_in e.1 e.2
  · have e : (s.heal G n).2 = s ∧ (x.heal G.f n).2 = x := by
      rw [Mr.heal, Md.heal, h.has]
      cases hh : x.has n with
      | false => exact ⟨rfl, rfl⟩
      | true =>
        rw [if_pos rfl, if_pos rfl, h.there (by omega), h.there (by omega), show x.o 0 = x.o0 from rfl, show x.o 1 = x.o1 from rfl]
        cases h0 : x.o0 with
        | true => exact ⟨rfl, rfl⟩
        | false =>
          cases h1 : x.o1 with
          | true => exact ⟨rfl, rfl⟩
          | false => exact absurd ⟨hh, h0, h1⟩ hc
    rw [e.1, e.2]
    exact hd
theorem Sees.catch1 (h : Sees s x m) {i k : Nat} (hi : i < 2) (hk : k < x.a.length) (ho : x.o i = false) : Sees (s.catch1 G i k) (x.catch1 G.f i k) (m + 1) := by
  rw [Mr.catch1, Md.catch1, h.st, h.right (by omega) hk]
  split
  · rename_i hc
    have hr : x.right G.f (1 - i) k = true := by
      cases hr : x.right G.f (1 - i) k
      · rw [hr, Bool.and_false] at hc; cases hc
      · rfl
    rw [h.rightV (by omega) hk hr]
    exact (h.mend hi hk ho _).2
  · exact h.more (Nat.le_succ _)
theorem Sees.catchTo (h : Sees s x m) {i : Nat} (hi : i < 2) (ho0 : x.o0 = false) (ho1 : x.o1 = false) : ∀ k, k ≤ x.a.length → Sees (s.catchTo G i k) (x.catchTo G.f i k) (m + k)
  | 0, _ => h
  | k + 1, hk => by
    obtain ⟨a, b, c⟩ := catchTo_o G.f x i k
    refine (h.catchTo hi ho0 ho1 k (by omega)).catch1 hi (by rw [c]; omega) ?_
    rcases two hi with rfl | rfl
    · exact a.trans ho0
    · exact b.trans ho1
theorem Sees.sync (h : Sees s x 0) : (s.sync G x.a.length).1 = (x.sync G.f).1 ∧ Sees (s.sync G x.a.length).2 (x.sync G.f).2 0 := by
  rw [Mr.sync, Md.sync, h.there (by omega), h.there (by omega), show x.o 0 = x.o0 from rfl, show x.o 1 = x.o1 from rfl]
  cases ho0 : x.o0 with
  | true => exact ⟨rfl, h⟩
  | false =>
    cases ho1 : x.o1 with
    | true => exact ⟨rfl, h⟩
    | false =>
      rw [if_pos (show ((!false) && !false) = true from rfl), if_neg (show ¬ (false || false) = true by simp)]
      obtain ⟨a, b, c⟩ := catchTo_o G.f x 0 x.a.length
      have h1 := h.catchTo (G := G) (i := 0) (by omega) ho0 ho1 x.a.length (Nat.le_refl _)
      have h2 : Sees (s.caught G x.a.length) (x.caught G.f) (0 + x.a.length + x.a.length) := h1.catchTo (i := 1) (by omega) (a.trans ho0) (b.trans ho1) x.a.length (by rw [c]; exact Nat.le_refl _)
      obtain ⟨d, e, g⟩ := catchTo_o G.f (x.catchTo G.f 0 x.a.length) 1 x.a.length
      have o0 : (x.caught G.f).o0 = false := (d.trans a).trans ho0
      have o1 : (x.caught G.f).o1 = false := (e.trans b).trans ho1
      obtain ⟨h3, h4⟩ := h2.fl (dry_in o0 o1)
      rw [o0, o1] at h3
      rw [if_pos (show (s.caught G x.a.length).flushed = (true, true) from h3)]
      refine ⟨?_, h4⟩
      rw [show (((s.caught G x.a.length).fl0 0).fl0 1).a = (x.caught G.f).a from h4.a, show (((s.caught G x.a.length).fl0 0).fl0 1).b = (x.caught G.f).b from h4.b]
theorem Dry.sync (h : Sees s x 0) : Dry (s.sync G x.a.length).2 (x.sync G.f).2 := (h.sync).2.dry
theorem Sees.out0 (h : Sees s x 0) (on : Bool) : Sees (⟨s.d.put 0 ((s.d.at 0).out on), s.a, s.b⟩ : Mr (one pw g1 g2)) (x.out 0 on) 0 := ⟨h.d0.out on, h.d1.put _ (by omega), h.a, h.b, h.n0, h.n1, h.nb⟩
theorem Sees.out1 (h : Sees s x 0) (on : Bool) : Sees (⟨s.d.put 1 ((s.d.at 1).out on), s.a, s.b⟩ : Mr (one pw g1 g2)) (x.out 1 on) 0 := ⟨h.d0.put _ (by omega), h.d1.out on, h.a, h.b, h.n0, h.n1, h.nb⟩
theorem Sees.rot0 (h : Sees s x 0) (n a : Int) (b : UInt8) : Sees (⟨s.d.rot 0 n a b, s.a, s.b⟩ : Mr (one pw g1 g2)) (x.rot 0 n a b) 0 := by
  have h1 := h.d0.rot n a b
  have h2 := h.d1.rot_other (i := 0) n a b (by omega)
  rw [h.n0] at h1
  rw [Md.rot]
  split
  · rename_i hc
    rw [if_pos hc] at h1
    exact ⟨h1, h2, h.a, h.b, by show (rotL _ _ _ _).length = _; rw [Mi.rotL_length]; exact h.n0, h.n1, h.nb⟩
  · rename_i hc
    rw [if_neg hc] at h1
    exact ⟨h1, h2, h.a, h.b, h.n0, h.n1, h.nb⟩
theorem Sees.rot1 (h : Sees s x 0) (n a : Int) (b : UInt8) : Sees (⟨s.d.rot 1 n a b, s.a, s.b⟩ : Mr (one pw g1 g2)) (x.rot 1 n a b) 0 := by
  have h1 := h.d1.rot n a b
  have h2 := h.d0.rot_other (i := 1) n a b (by omega)
  rw [h.n1] at h1
  rw [Md.rot]
  split
  · rename_i hc
    rw [if_pos hc] at h1
    exact ⟨h2, h1, h.a, h.b, h.n0, by show (rotL _ _ _ _).length = _; rw [Mi.rotL_length]; exact h.n1, h.nb⟩
  · rename_i hc
    rw [if_neg hc] at h1
    exact ⟨h2, h1, h.a, h.b, h.n0, h.n1, h.nb⟩
end
end Go.Proofs.YtnplhagfmfggcaaGreat.Mu
/-
  Two devices, and a mirror of them, in the laws: what each call tells, and makes of what is told of them.
-/
namespace Go.Proofs.YtnplhagfmfggcaaGreat.Mi
open Go.RowKit Kd
section
variable {p1 g1 p2 g2 g : Nat} {G : Gd} {w0 w w1 w' : World} {F F' : Nat → Prop} {m : Nat}
/-- Two devices, new behind w0. -/
structure LD (p1 g1 p2 g2 : Nat) (w0 w : World) (d : (Two p1 g1 p2 g2).L.St) (F : Nat → Prop) (L0 L1 : List (List UInt8)) (o0 o1 : Bool) (m : Nat) : Prop where
  live : LiveA (Two p1 g1 p2 g2).L w0 w d F
  d0 : See d.1 L0 o0 m
  d1 : See d.2 L1 o1 m
/-- A mirror of them. -/
structure LM (p1 g1 p2 g2 : Nat) (G : Gd) (g : Nat) (w0 w : World) (s : Mr (Two p1 g1 p2 g2)) (F : Nat → Prop) (x : Md) (m : Nat) : Prop where
  live : LiveA (ML (Two p1 g1 p2 g2) G g) w0 w s F
  sees : Sees s x m
  dry : Dry s x
/-- It returns v; the mirror is x now. -/
def RetM (v : Value) (p1 g1 p2 g2 : Nat) (G : Gd) (g : Nat) (w0 : World) (x : Md) (m : Nat) (F : Nat → Prop) (w : World) (e : Ending) (w' : World) : Prop :=
  e = .returned v ∧ ∃ (s : Mr (Two p1 g1 p2 g2)) (F' : Nat → Prop), LM p1 g1 p2 g2 G g w0 w' s F' x m ∧ Mv (ML (Two p1 g1 p2 g2) G g) w F w' s F'
variable {s s' : Mr (Two p1 g1 p2 g2)} {x x' : Md}
theorem LM.ret (h : LM p1 g1 p2 g2 G g w0 w s F x m) {v : Value} {e : Ending} {m' : Nat} (hr : RetA (ML (Two p1 g1 p2 g2) G g) v s' F w e w') (hs : Sees s' x' m') (hd : Dry s' x') : RetM v p1 g1 p2 g2 G g w0 x' m' F w e w' := by
  obtain ⟨rfl, F', hm⟩ := hr
  exact ⟨rfl, s', F', ⟨h.live.step hm, hs, hd⟩, hm⟩
theorem LM.below (h : LM p1 g1 p2 g2 G g w0 w s F x m) (hb : Below w.heap.size w w') : LM p1 g1 p2 g2 G g w0 w' s F x m := ⟨h.live.below hb, h.sees, h.dry⟩
theorem LM.more (h : LM p1 g1 p2 g2 G g w0 w s F x m) {m' : Nat} (hm : m ≤ m') : LM p1 g1 p2 g2 G g w0 w s F x m' := ⟨h.live, h.sees.more hm, h.dry⟩
theorem lm_write (h : LM p1 g1 p2 g2 G g w0 w s F x m) (n : Int) (y : List UInt8) (hy : y.length = 128) (hm : m < 900000) :
    Calls Tryz.prog 48 #[.pointer (some ⟨g, 0, none⟩), .int .i64 n, .agg (bva y)] w (RetM (.int .i64 (x.write n y).1) p1 g1 p2 g2 G g w0 (x.write n y).2 (m + 2) F w) := by
  obtain ⟨h1, h2⟩ := h.sees.write n y
  have hc := mwrite_any h.live.at_ h.sees.ok n y hy (Nat.lt_of_le_of_lt h.sees.most hm)
  rw [h1] at hc
  exact hc.mono fun _ _ hr => h.ret hr h2 (h.dry.write h.sees n y)
theorem lm_choose (h : LM p1 g1 p2 g2 G g w0 w s F x m) (n : Int) (y : List UInt8) (hy : y.length = 128) (hm : m < 900000) :
    Calls Tryz.prog 58 #[.pointer (some ⟨g, 0, none⟩), .int .i64 n, .agg (bva y)] w (RetM (.int .i64 (x.write n y).1) p1 g1 p2 g2 G g w0 (x.write n y).2 (m + 2) F w) := by
  obtain ⟨h1, h2⟩ := h.sees.choose n y
  have hc := mchoose_any h.live.at_ h.sees.ok n y hy (Nat.lt_of_le_of_lt h.sees.most hm)
  rw [h1] at hc
  exact hc.mono fun _ _ hr => h.ret hr h2 (h.dry.choose h.sees n y)
theorem lm_flush (h : LM p1 g1 p2 g2 G g w0 w s F x m) :
    Calls Tryz.prog 31 #[.pointer (some ⟨g, 0, none⟩)] w (RetM (.int .i64 (if x.o0 && x.o1 then 13 else 0)) p1 g1 p2 g2 G g w0 x 0 F w) := by
  obtain ⟨h1, h2⟩ := h.sees.flush h.dry
  have hc := mflushm_any h.live.at_
  rw [h1] at hc
  exact hc.mono fun _ _ hr => h.ret hr h2 h2.dry
theorem lm_read (h : LM p1 g1 p2 g2 G g w0 w s F x m) (n : Int) :
    Calls Tryz.prog 51 #[.pointer (some ⟨g, 0, none⟩), .int .i64 n] w (RetM (.tuple #[.agg (bva (x.read G.f n).1), .int .i64 (x.read G.f n).2]) p1 g1 p2 g2 G g w0 x m F w) := by
  have hc := mread_any h.live.at_ (by rw [h.sees.ok.1, h.sees.ok.2]) n
  rw [h.sees.read n] at hc
  exact hc.mono fun _ _ hr => h.ret hr h.sees h.dry
theorem lm_both (h : LM p1 g1 p2 g2 G g w0 w s F x m) (n : Int) : Calls Tryz.prog 76 #[.pointer (some ⟨g, 0, none⟩), .int .i64 n] w (RetSec (x.both G.f n) w) := by
  have hc := both_any h.live.at_ n
  rwa [h.sees.both n] at hc
theorem lm_len (h : LM p1 g1 p2 g2 G g w0 w s F x m) : Calls Tryz.prog 55 #[.pointer (some ⟨g, 0, none⟩)] w (RetB (.int .i64 x.a.length) w) := by
  have hc := mlen_any h.live.at_
  rwa [h.sees.a] at hc
/-! ### The devices beneath a mirror -/
theorem ml_fst (h : (ML (Two p1 g1 p2 g2) G g).At w s F) : ∃ F1, Kd.Sys w p1 [g1] s.d.1 F1 ∧ s.d.1.ds.length = 1 ∧ ∀ {v : Value} {S : Sy} {e w'}, S.ds.length = 1 → RetS v p1 [g1] S F1 w e w' → RetA (ML (Two p1 g1 p2 g2) G g) v ⟨(S, s.d.2), s.a, s.b⟩ F w e w' := by
  obtain ⟨F0, hd, hl⟩ := ml_dev h
  obtain ⟨F1, h1, hl1⟩ := pair_fst hd
  exact ⟨F1, h1.1, h1.2, fun hS hr => hl (hl1 (RetS.reta hS hr))⟩
theorem ml_snd (h : (ML (Two p1 g1 p2 g2) G g).At w s F) : ∃ F2, Kd.Sys w p2 [g2] s.d.2 F2 ∧ s.d.2.ds.length = 1 ∧ ∀ {v : Value} {S : Sy} {e w'}, S.ds.length = 1 → RetS v p2 [g2] S F2 w e w' → RetA (ML (Two p1 g1 p2 g2) G g) v ⟨(s.d.1, S), s.a, s.b⟩ F w e w' := by
  obtain ⟨F0, hd, hl⟩ := ml_dev h
  obtain ⟨F1, h1, hl1⟩ := pair_snd hd
  exact ⟨F1, h1.1, h1.2, fun hS hr => hl (hl1 (RetS.reta hS hr))⟩
theorem lm_out0 (h : LM p1 g1 p2 g2 G g w0 w s F x 0) (on : Bool) : Calls Tryz.prog 26 #[.pointer (some ⟨g1, 0, none⟩), .bool on] w (RetM (.tuple #[]) p1 g1 p2 g2 G g w0 (x.out 0 on) 0 F w) := by
  obtain ⟨F1, h1, h2, hl⟩ := ml_fst h.live.at_
  have hs := h.sees.out0 on
  exact (out_sys h1 0 (by rw [h2]; omega) on).mono fun _ _ hr => h.ret (hl ((len_put _).trans h2) hr) hs hs.dry
theorem lm_out1 (h : LM p1 g1 p2 g2 G g w0 w s F x 0) (on : Bool) : Calls Tryz.prog 26 #[.pointer (some ⟨g2, 0, none⟩), .bool on] w (RetM (.tuple #[]) p1 g1 p2 g2 G g w0 (x.out 1 on) 0 F w) := by
  obtain ⟨F1, h1, h2, hl⟩ := ml_snd h.live.at_
  have hs := h.sees.out1 on
  exact (out_sys h1 0 (by rw [h2]; omega) on).mono fun _ _ hr => h.ret (hl ((len_put _).trans h2) hr) hs hs.dry
theorem rot_ds {S : Sy} (n a : Int) (b : UInt8) : (S.rot 0 n a b).ds.length = S.ds.length := by rw [Sy.rot]; split; exact len_put _; rfl
/-! ### Two devices ahead of a mirror -/
theorem LD.below {d : (Two p1 g1 p2 g2).L.St} {L0 L1 : List (List UInt8)} {o0 o1 : Bool} (h : LD p1 g1 p2 g2 w0 w d F L0 L1 o0 o1 m) (hb : Below w.heap.size w w') : LD p1 g1 p2 g2 w0 w' d F L0 L1 o0 o1 m := ⟨h.live.below hb, h.d0, h.d1⟩
theorem ld_new {S T : Sy} {F1 F2 : Nat → Prop} {L0 L1 : List (List UInt8)} {o0 o1 : Bool} (h1 : Live w0 w1 p1 [g1] S F1) (h2 : Live w1 w p2 [g2] T F2) (s1 : See S L0 o0 m) (s2 : See T L1 o1 m) :
    LD p1 g1 p2 g2 w0 w (S, T) (fun q => F1 q ∨ F2 q) L0 L1 o0 o1 m := by
  have hl1 := h1.lt
  refine ⟨⟨⟨F1, F2, ⟨(h1.below h2.bel).sys, s1.ds⟩, ⟨h2.sys, s2.ds⟩, fun q a b => by have := hl1 q a; have := h2.new q b; omega, fun q a => .inl a, fun q a => .inr a, ?_⟩, ?_, h1.bel.trans (h2.bel.mono h1.bel.size)⟩, s1, s2⟩
  · rintro q (hq | hq)
    · exact Nat.lt_of_lt_of_le (hl1 q hq) h2.bel.size
    · exact h2.lt q hq
  · rintro q (hq | hq)
    · exact h1.new q hq
    · exact Nat.le_trans h1.bel.size (h2.new q hq)
theorem lm_new (hR : ∀ A n c B m e, G.R A n c B m e) {d : (Two p1 g1 p2 g2).L.St} {L0 L1 : List (List UInt8)} {o0 o1 : Bool} {n : Nat} (h : LD p1 g1 p2 g2 w0 w d F L0 L1 o0 o1 0) (e0 : L0.length = n) (e1 : L1.length = n) (hl : G.l = [] := by rfl) :
    Calls Tryz.prog 13 #[.pointer (some ⟨g1, 0, none⟩), .pointer (some ⟨g2, 0, none⟩), G.v] w (fun e w' => ∃ g s F', e = .returned (.pointer (some ⟨g, 0, none⟩)) ∧ LM p1 g1 p2 g2 G g w0 w' s F' ⟨L0, L1, o0, o1, List.replicate n o0, List.replicate n o1⟩ 0 ∧ (∀ q, F' q → F q ∨ w.heap.size ≤ q) ∧ But F w w') := by
  refine (new_any (C := Two p1 g1 p2 g2) hR h.live.at_ hl).mono ?_
  rintro e w' ⟨g, F', rfl, h1, h2, h3⟩
  have hs : Sees (newM (Two p1 g1 p2 g2) d) ⟨L0, L1, o0, o1, List.replicate n o0, List.replicate n o1⟩ 0 := sees_new h.d0 h.d1 e0 e1
  exact ⟨g, _, F', rfl, ⟨⟨h1, fun q hq => (h2 q hq).elim (h.live.new q) (Nat.le_trans h.live.bel.size), h.live.bel.trans (h3.below (fun k hk hq => by have := h.live.new k hq; omega) h.live.bel.size)⟩, hs, hs.dry⟩, h2, h3⟩
end
end Go.Proofs.YtnplhagfmfggcaaGreat.Mi
/-
  Two devices of one power, and a mirror of them, in the laws: what each call tells, and makes of what is told of them.
-/
namespace Go.Proofs.YtnplhagfmfggcaaGreat.Mu
open Go.RowKit Kd Mi
section
variable {p g1 g2 g : Nat} {G : Gd} {w0 w w1 w' : World} {F F' : Nat → Prop} {m : Nat}
/-- Two devices, new behind w0. -/
structure LD (p g1 g2 : Nat) (w0 w : World) (d : Sy) (F : Nat → Prop) (L0 L1 : List (List UInt8)) (o0 o1 : Bool) (m : Nat) : Prop where
  live : LiveA (SysL p [g1, g2] 2) w0 w d F
  d0 : See d 0 L0 o0 m
  d1 : See d 1 L1 o1 m
/-- A mirror of them. -/
structure LM (p g1 g2 : Nat) (G : Gd) (g : Nat) (w0 w : World) (s : Mr (one p g1 g2)) (F : Nat → Prop) (x : Md) (m : Nat) : Prop where
  live : LiveA (ML (one p g1 g2) G g) w0 w s F
  sees : Sees s x m
  dry : Dry s x
/-- It returns v; the mirror is x now. -/
def RetM (v : Value) (p g1 g2 : Nat) (G : Gd) (g : Nat) (w0 : World) (x : Md) (m : Nat) (F : Nat → Prop) (w : World) (e : Ending) (w' : World) : Prop :=
  e = .returned v ∧ ∃ (s : Mr (one p g1 g2)) (F' : Nat → Prop), LM p g1 g2 G g w0 w' s F' x m ∧ Mv (ML (one p g1 g2) G g) w F w' s F'
variable {s s' : Mr (one p g1 g2)} {x x' : Md}
theorem LM.ret (h : LM p g1 g2 G g w0 w s F x m) {v : Value} {e : Ending} {m' : Nat} (hr : RetA (ML (one p g1 g2) G g) v s' F w e w') (hs : Sees s' x' m') (hd : Dry s' x') : RetM v p g1 g2 G g w0 x' m' F w e w' := by
  obtain ⟨rfl, F', hm⟩ := hr
  exact ⟨rfl, s', F', ⟨h.live.step hm, hs, hd⟩, hm⟩
theorem LM.below (h : LM p g1 g2 G g w0 w s F x m) (hb : Below w.heap.size w w') : LM p g1 g2 G g w0 w' s F x m := ⟨h.live.below hb, h.sees, h.dry⟩
theorem LM.more (h : LM p g1 g2 G g w0 w s F x m) {m' : Nat} (hm : m ≤ m') : LM p g1 g2 G g w0 w s F x m' := ⟨h.live, h.sees.more hm, h.dry⟩
theorem lm_write (h : LM p g1 g2 G g w0 w s F x m) (n : Int) (y : List UInt8) (hy : y.length = 128) (hm : m < 900000) :
    Calls Tryz.prog 48 #[.pointer (some ⟨g, 0, none⟩), .int .i64 n, .agg (bva y)] w (RetM (.int .i64 (x.write n y).1) p g1 g2 G g w0 (x.write n y).2 (m + 2) F w) := by
  obtain ⟨h1, h2⟩ := h.sees.write n y
  have hc := mwrite_any h.live.at_ h.sees.ok n y hy (Nat.lt_of_le_of_lt h.sees.most hm)
  rw [h1] at hc
  exact hc.mono fun _ _ hr => h.ret hr h2 (h.dry.write h.sees n y)
theorem lm_flush (h : LM p g1 g2 G g w0 w s F x m) :
    Calls Tryz.prog 31 #[.pointer (some ⟨g, 0, none⟩)] w (RetM (.int .i64 (if x.o0 && x.o1 then 13 else 0)) p g1 g2 G g w0 x 0 F w) := by
  obtain ⟨h1, h2⟩ := h.sees.flush h.dry
  have hc := mflushm_any h.live.at_
  rw [h1] at hc
  exact hc.mono fun _ _ hr => h.ret hr h2 h2.dry
theorem lm_read (h : LM p g1 g2 G g w0 w s F x m) (n : Int) :
    Calls Tryz.prog 51 #[.pointer (some ⟨g, 0, none⟩), .int .i64 n] w (RetM (.tuple #[.agg (bva (x.read G.f n).1), .int .i64 (x.read G.f n).2]) p g1 g2 G g w0 x m F w) := by
  have hc := mread_any h.live.at_ (by rw [h.sees.ok.1, h.sees.ok.2]) n
  rw [h.sees.read n] at hc
  exact hc.mono fun _ _ hr => h.ret hr h.sees h.dry
theorem lm_both (h : LM p g1 g2 G g w0 w s F x m) (n : Int) : Calls Tryz.prog 76 #[.pointer (some ⟨g, 0, none⟩), .int .i64 n] w (RetSec (x.both G.f n) w) := by
  have hc := both_any h.live.at_ n
  rwa [h.sees.both n] at hc
theorem lm_len (h : LM p g1 g2 G g w0 w s F x m) : Calls Tryz.prog 55 #[.pointer (some ⟨g, 0, none⟩)] w (RetB (.int .i64 x.a.length) w) := by
  have hc := mlen_any h.live.at_
  rwa [h.sees.a] at hc
/-! ### The devices beneath a mirror -/
theorem ml_sys (h : (ML (one p g1 g2) G g).At w s F) : ∃ F1, Kd.Sys w p [g1, g2] s.d F1 ∧ s.d.ds.length = 2 ∧ ∀ {v : Value} {S : Sy} {e w'}, S.ds.length = 2 → RetS v p [g1, g2] S F1 w e w' → RetA (ML (one p g1 g2) G g) v ⟨S, s.a, s.b⟩ F w e w' := by
  obtain ⟨F1, h1, hl⟩ := ml_dev h
  exact ⟨F1, h1.1, h1.2, fun hS hr => hl (RetS.reta hS hr)⟩
theorem lm_out0 (h : LM p g1 g2 G g w0 w s F x 0) (on : Bool) : Calls Tryz.prog 26 #[.pointer (some ⟨g1, 0, none⟩), .bool on] w (RetM (.tuple #[]) p g1 g2 G g w0 (x.out 0 on) 0 F w) := by
  obtain ⟨F1, h1, h2, hl⟩ := ml_sys h.live.at_
  have hs := h.sees.out0 on
  exact (out_sys h1 0 (by rw [h2]; omega) on).mono fun _ _ hr => h.ret (hl ((len_put _).trans h2) hr) hs hs.dry
theorem lm_out1 (h : LM p g1 g2 G g w0 w s F x 0) (on : Bool) : Calls Tryz.prog 26 #[.pointer (some ⟨g2, 0, none⟩), .bool on] w (RetM (.tuple #[]) p g1 g2 G g w0 (x.out 1 on) 0 F w) := by
  obtain ⟨F1, h1, h2, hl⟩ := ml_sys h.live.at_
  have hs := h.sees.out1 on
  exact (out_sys h1 1 (by rw [h2]; omega) on).mono fun _ _ hr => h.ret (hl ((len_put _).trans h2) hr) hs hs.dry
theorem rot_dsT {S : Sy} (i : Nat) (n a : Int) (b : UInt8) : (S.rot i n a b).ds.length = S.ds.length := by rw [Sy.rot]; split; exact len_put _; rfl
/-- A device beneath it is read. -/
theorem lm_dread0 (h : LM p g1 g2 G g w0 w s F x m) (n : Int) : Calls Tryz.prog 64 #[.pointer (some ⟨g1, 0, none⟩), .int .i64 n] w (RetB (.tuple #[.agg (bva (if x.o0 = false ∧ 0 ≤ n ∧ n < (x.a.length : Int) then x.l0.getD n.toNat zeroS else zeroS)), .int .i64 (if x.o0 then 13 else if n < 0 ∨ (x.a.length : Int) ≤ n then 2 else 0)]) w) := by
  obtain ⟨F1, h1, hl⟩ := ml_dev h.live.at_
  have hc := (one p g1 g2).crd (i := 0) h1 (by omega) n
  rw [h.sees.rd (i := 0) (by omega) n] at hc
  exact hc
theorem lm_dread1 (h : LM p g1 g2 G g w0 w s F x m) (n : Int) : Calls Tryz.prog 64 #[.pointer (some ⟨g2, 0, none⟩), .int .i64 n] w (RetB (.tuple #[.agg (bva (if x.o1 = false ∧ 0 ≤ n ∧ n < (x.a.length : Int) then x.l1.getD n.toNat zeroS else zeroS)), .int .i64 (if x.o1 then 13 else if n < 0 ∨ (x.a.length : Int) ≤ n then 2 else 0)]) w) := by
  obtain ⟨F1, h1, hl⟩ := ml_dev h.live.at_
  have hc := (one p g1 g2).crd (i := 1) h1 (by omega) n
  rw [h.sees.rd (i := 1) (by omega) n] at hc
  exact hc
/-! ### Two devices ahead of a mirror -/
variable {d : Sy} {L0 L1 : List (List UInt8)} {o0 o1 : Bool}
theorem LD.below (h : LD p g1 g2 w0 w d F L0 L1 o0 o1 m) (hb : Below w.heap.size w w') : LD p g1 g2 w0 w' d F L0 L1 o0 o1 m := ⟨h.live.below hb, h.d0, h.d1⟩
theorem ld_new {S : Sy} (h : Live w0 w p [g1, g2] S F) (s1 : See S 0 L0 o0 m) (s2 : See S 1 L1 o1 m) : LD p g1 g2 w0 w S F L0 L1 o0 o1 m :=
  ⟨⟨⟨h.sys, s1.ds⟩, h.new, h.bel⟩, s1, s2⟩
/-- It returns v; the devices have that now. -/
def RetD (v : Value) (p g1 g2 : Nat) (w0 : World) (L0 L1 : List (List UInt8)) (o0 o1 : Bool) (m : Nat) (F : Nat → Prop) (w : World) (e : Ending) (w' : World) : Prop :=
  e = .returned v ∧ ∃ (d : Sy) (F' : Nat → Prop), LD p g1 g2 w0 w' d F' L0 L1 o0 o1 m ∧ (∀ q, F' q → F q ∨ w.heap.size ≤ q) ∧ But F w w'
theorem LD.ret (h : LD p g1 g2 w0 w d F L0 L1 o0 o1 m) {v : Value} {S : Sy} {L0' L1' : List (List UInt8)} {o0' o1' : Bool} {m' : Nat} {e : Ending} (hr : RetS v p [g1, g2] S F w e w') (s1 : See S 0 L0' o0' m') (s2 : See S 1 L1' o1' m') : RetD v p g1 g2 w0 L0' L1' o0' o1' m' F w e w' := by
  obtain ⟨rfl, F', h1, h2, h3⟩ := hr
  exact ⟨rfl, S, F', ⟨h.live.step ⟨⟨h1, s1.ds⟩, h2, h3⟩, s1, s2⟩, h2, h3⟩
theorem ld_write0 (h : LD p g1 g2 w0 w d F L0 L1 false o1 m) (k : Nat) (hk : k < L0.length) (y : List UInt8) (hy : y.length = 128) (hm : m < 900000) :
    Calls Tryz.prog 73 #[.pointer (some ⟨g1, 0, none⟩), .int .i64 k, .agg (bva y)] w (RetD (.int .i64 0) p g1 g2 w0 (L0.set k y) L1 false o1 (m + 1) F w) := by
  obtain ⟨h1, h2, h3⟩ := h.d0.write_yes (x := y) rfl hk
  have hc := write_any h.live.at_.1 0 (by rw [h.d0.ds]; omega) (k : Int) y hy (by have := h.d0.few; omega)
  rw [h1] at hc
  exact hc.mono fun _ _ hr => h.ret hr h2 ((h3 (by omega) h.d1).more (Nat.le_succ _))
theorem ld_write1 (h : LD p g1 g2 w0 w d F L0 L1 o0 false m) (k : Nat) (hk : k < L1.length) (y : List UInt8) (hy : y.length = 128) (hm : m < 900000) :
    Calls Tryz.prog 73 #[.pointer (some ⟨g2, 0, none⟩), .int .i64 k, .agg (bva y)] w (RetD (.int .i64 0) p g1 g2 w0 L0 (L1.set k y) o0 false (m + 1) F w) := by
  obtain ⟨h1, h2, h3⟩ := h.d1.write_yes (x := y) rfl hk
  have hc := write_any h.live.at_.1 1 (by rw [h.d0.ds]; omega) (k : Int) y hy (by have := h.d1.few; omega)
  rw [h1] at hc
  exact hc.mono fun _ _ hr => h.ret hr ((h3 (by omega) h.d0).more (Nat.le_succ _)) h2
theorem ld_flush0 (h : LD p g1 g2 w0 w d F L0 L1 false o1 m) :
    Calls Tryz.prog 10 #[.pointer (some ⟨g1, 0, none⟩)] w (RetD (.int .i64 0) p g1 g2 w0 L0 L1 false o1 m F w) := by
  obtain ⟨h1, h2, h3⟩ := h.d0.flush_yes rfl
  have hc := flush_any h.live.at_.1 0 (by rw [h.d0.ds]; omega)
  rw [h1] at hc
  exact hc.mono fun _ _ hr => h.ret hr (h2.more (Nat.zero_le _)) (h3 (by omega) h.d1)
/-- The second one's flush, when nothing waits of the first. -/
theorem ld_flush1 (h : LD p g1 g2 w0 w d F L0 L1 o0 false m) (hw : See d 0 L0 o0 0) :
    Calls Tryz.prog 10 #[.pointer (some ⟨g2, 0, none⟩)] w (RetD (.int .i64 0) p g1 g2 w0 L0 L1 o0 false 0 F w) := by
  obtain ⟨h1, h2, h3⟩ := h.d1.flush_yes rfl
  have hc := flush_any h.live.at_.1 1 (by rw [h.d0.ds]; omega)
  rw [h1] at hc
  exact hc.mono fun _ _ hr => h.ret hr (h3 (by omega) hw) h2
theorem ld_flush0' (h : LD p g1 g2 w0 w d F L0 L1 false o1 m) :
    Calls Tryz.prog 10 #[.pointer (some ⟨g1, 0, none⟩)] w (fun e w' => e = .returned (.int .i64 0) ∧ ∃ (d : Sy) (F' : Nat → Prop), LD p g1 g2 w0 w' d F' L0 L1 false o1 m ∧ See d 0 L0 false 0 ∧ (∀ q, F' q → F q ∨ w.heap.size ≤ q) ∧ But F w w') := by
  obtain ⟨h1, h2, h3⟩ := h.d0.flush_yes rfl
  have hc := flush_any h.live.at_.1 0 (by rw [h.d0.ds]; omega)
  rw [h1] at hc
  exact hc.mono fun _ _ hr => by
    obtain ⟨h4, S, F', h5, h6, h7⟩ := h.ret (L0' := L0) (L1' := L1) (m' := m) hr (h2.more (Nat.zero_le _)) (h3 (by omega) h.d1)
    obtain ⟨_, F2, h8, h9, h10⟩ := hr
    exact ⟨h4, _, F2, ⟨h.live.step ⟨⟨h8, h2.ds⟩, h9, h10⟩, h2.more (Nat.zero_le _), h3 (by omega) h.d1⟩, h2, h9, h10⟩
theorem lm_new (hR : ∀ A n c B m e, G.R A n c B m e) {n : Nat} (h : LD p g1 g2 w0 w d F L0 L1 o0 o1 0) (e0 : L0.length = n) (e1 : L1.length = n) (hl : G.l = [] := by rfl) :
    Calls Tryz.prog 13 #[.pointer (some ⟨g1, 0, none⟩), .pointer (some ⟨g2, 0, none⟩), G.v] w (fun e w' => ∃ g s F', e = .returned (.pointer (some ⟨g, 0, none⟩)) ∧ LM p g1 g2 G g w0 w' s F' ⟨L0, L1, o0, o1, List.replicate n o0, List.replicate n o1⟩ 0 ∧ (∀ q, F' q → F q ∨ w.heap.size ≤ q) ∧ But F w w') := by
  refine (new_any (C := one p g1 g2) hR h.live.at_ hl).mono ?_
  rintro e w' ⟨g, F', rfl, h1, h2, h3⟩
  have hs : Sees (newM (one p g1 g2) d) ⟨L0, L1, o0, o1, List.replicate n o0, List.replicate n o1⟩ 0 := sees_new h.d0 h.d1 e0 e1
  exact ⟨g, _, F', rfl, ⟨⟨h1, fun q hq => (h2 q hq).elim (h.live.new q) (Nat.le_trans h.live.bel.size), h.live.bel.trans (h3.below (fun k hk hq => by have := h.live.new k hq; omega) h.live.bel.size)⟩, hs, hs.dry⟩, h2, h3⟩
end
end Go.Proofs.YtnplhagfmfggcaaGreat.Mu
/-
  What New tells: a log all of whose segments are free, or none.
-/
namespace Go.Proofs.YtnplhagfmfggcaaGreat.Lo
open Go.RowKit Go.Maps Kd Mi Sx Sg
attribute [local go_sem ↓] Go.wp_at_zero Go.wp_at_succ
def Rl.new (a b : Nat) : Rl := ⟨a, b, List.replicate a none, 0, -1, 0⟩
theorem Rl.new_ok {a b : Nat} (h : okS (a : Int) (b : Int)) : (Rl.new a b).Ok := by
  refine ⟨h, List.length_replicate, ?_, ?_, ?_, fun k x hx => ?_⟩
  · show (-1 : Int) ≤ -1 ∧ (-1 : Int) < (a : Int); omega
  · show (0 : Int) ≤ 0 ∧ (0 : Int) ≤ (b : Int); omega
  · show 0 < 18446744073709551616; omega
  · have e : ((List.replicate a (none : Option Nat)).getD k none) = none := by
      rw [List.getD_eq_getElem?_getD, List.getElem?_replicate]; split <;> rfl
    rw [show (Rl.new a b).gens = List.replicate a none from rfl, e] at hx
    cases hx
section
variable {C : Duo} {G : Gd} {g : Nat} {w : World} {s : Mr C} {F : Nat → Prop}
theorem lnew_nilM (ci : Value) (a b : Int) (w : World) : Calls Tryz.prog 23 #[.pointer none, ci, .agg #[.int .i64 a, .int .i64 b]] w (RetB (.tuple #[.pointer none, .int .i64 1]) w) := by
  have bb : Below w.heap.size w (w.alloc (.cells #[.int .i64 a, .int .i64 b] 32)) := (Below.refl _ _).alloc (Nat.le_refl _) _
  have BB := Lib.hid bb
  clear bb
  go_enter Tryz.func23, Tryz.ntmps23
  go_wp2_with fail
  exact bodyPost_ret (results_tmp2 Tryz.results23 _ _ _) rfl ⟨rfl, BB.out⟩
theorem lnew_nilC (g : Nat) (a b : Int) (w : World) : Calls Tryz.prog 23 #[.pointer (some ⟨g, 0, none⟩), .nilIface, .agg #[.int .i64 a, .int .i64 b]] w (RetB (.tuple #[.pointer none, .int .i64 1]) w) := by
  have bb : Below w.heap.size w (w.alloc (.cells #[.int .i64 a, .int .i64 b] 32)) := (Below.refl _ _).alloc (Nat.le_refl _) _
  have BB := Lib.hid bb
  clear bb
  go_enter Tryz.func23, Tryz.ntmps23
  go_wp2_with fail
  exact bodyPost_ret (results_tmp2 Tryz.results23 _ _ _) rfl ⟨rfl, BB.out⟩
set_option maxRecDepth 100000 in
set_option maxHeartbeats 1600000 in
theorem rnew_any (h : (ML C G g).At w s F) (ci : SCiph) (a b : Nat) (hok : okS (a : Int) (b : Int)) (hn : 2 + a * b ≤ s.a.length) :
    Calls Tryz.prog 23 #[.pointer (some ⟨g, 0, none⟩), ci.v, .agg #[.int .i64 a, .int .i64 b]] w (fun e w' => ∃ q F', e = .returned (.tuple #[.pointer (some ⟨q, 0, none⟩), .int .i64 0]) ∧ (LogR C G g q ci).At w' (s, Rl.new a b) F' ∧ (∀ k, F' k → F k ∨ w.heap.size ≤ k) ∧ Below w.heap.size w w') := by
  obtain ⟨W, hW⟩ : ∃ W, W = w.alloc (.cells #[.int .i64 (a : Int), .int .i64 (b : Int)] 32) := ⟨_, rfl⟩
  have B1 := Lib.hid (show Blk W w.heap.size #[.int .i64 (a : Int), .int .i64 (b : Int)] 32 by rw [hW]; exact heap_alloc_new _ _)
  have BB := Lib.hid (show Below w.heap.size w W by rw [hW]; exact (Below.refl w.heap.size w).alloc (Nat.le_refl _) _)
  have H := Lib.hid h
  have hck := fun W => check_yes (a : Int) (b : Int) hok W
  have hsc := fun W => sectors_yes (a : Int) (b : Int) hok W
  have hln := fun W (h : (ML C G g).At W s F) => mlen_any h
  obtain ⟨m, hm⟩ : ∃ m : Int, m = 2 + (a : Int) * (b : Int) := ⟨_, rfl⟩
  obtain ⟨l, hl⟩ : ∃ l : Nat, l = s.a.length := ⟨_, rfl⟩
  have hmul : ((a * b : Nat) : Int) = (a : Int) * (b : Int) := Int.natCast_mul _ _
  have d1 : decide (m > (l : Int)) = false := decide_eq_false (by omega)
  have d2 : decide ((l : Int) < m) = false := decide_eq_false (by omega)
  simp only [← hm] at hsc
  simp only [← hl] at hln
  have HCK := Lib.hid hck
  have HSC := Lib.hid hsc
  have HLN := Lib.hid hln
  have HOK := Lib.hid hok
  have HCV := Lib.hid (show ci.v = .iface ci.T ci.x from rfl)
  clear h hok hn hck hsc hln hm hl hmul
  unfold SCiph.v
  go_enter Tryz.func23, Tryz.ntmps23
  go_wp2_with fail
  rw [show (w.alloc (Obj.cells #[.int .i64 (a : Int), .int .i64 (b : Int)] 32)) = W from hW.symm]
  clear hW
  have c00 : W.cell? ⟨w.heap.size, 0, none⟩ = some (.int .i64 (a : Int)) := B1.out.cell 0
  have c01 : W.cell? ⟨w.heap.size, 1, none⟩ = some (.int .i64 (b : Int)) := B1.out.cell 1
  go_wp2_with fail
  refine (HCK.out _).mono ?_
  rintro e w2 ⟨rfl, bw⟩
  have B2 := Lib.hid (B1.out.below bw)
  have BB2 := Lib.hid (BB.out.trans (bw.mono BB.out.size))
  clear bw B1 BB c00 c01
  have c00 : w2.cell? ⟨w.heap.size, 0, none⟩ = some (.int .i64 (a : Int)) := B2.out.cell 0
  have c01 : w2.cell? ⟨w.heap.size, 1, none⟩ = some (.int .i64 (b : Int)) := B2.out.cell 1
  go_wp2_with fail
  refine (HSC.out _).mono ?_
  rintro e w3 ⟨rfl, bw⟩
  have B3 := Lib.hid (B2.out.below bw)
  have BB3 := Lib.hid (BB2.out.trans (bw.mono BB2.out.size))
  clear bw B2 BB2 c00 c01
  go_wp2_with fail
  refine (HLN.out _ ((ML C G g).below H.out BB3.out)).mono ?_
  rintro e w4 ⟨rfl, bw⟩
  have B4 := Lib.hid (B3.out.below bw)
  have BB4 := Lib.hid (BB3.out.trans (bw.mono BB3.out.size))
  clear bw B3 BB3
  have c00 : w4.cell? ⟨w.heap.size, 0, none⟩ = some (.int .i64 (a : Int)) := B4.out.cell 0
  have c01 : w4.cell? ⟨w.heap.size, 1, none⟩ = some (.int .i64 (b : Int)) := B4.out.cell 1
  have hmk : (Instr.makeMap 104 none).run Tryz.prog w4 = .ok (.map (some w4.heap.size)) (w4.alloc (.map #[] 0)) := rfl
  have HBLD := Lib.hid (show ∀ bm W, (Instr.build 106 #[(0, .pointer (some ⟨g, 0, none⟩)), (1, .iface ci.T ci.x), (2, .agg #[.int .i64 (a : Int), .int .i64 (b : Int)]), (3, .map (some bm)), (5, .int .i64 (-1))]).run Tryz.prog W = .ok (.agg (rwC g ci bm (Rl.new a b))) W from fun _ _ => by kernel_rfl)
  go_wp2_with (refine wpList_build rfl 106 #[(0, .tmp 26), (1, .tmp 27), (2, .tmp 28), (3, .tmp 29), (5, .const (.int .i64 (-1)))] rfl (v := .agg (rwC g ci w4.heap.size (Rl.new a b))) ?hbld ?_; case hbld => (simp only [List.map_toArray, List.map_cons, List.map_nil]; exact HBLD.out _ _))
  have HMP := Lib.hid (World.ownsMap_made w4 Tryz.prog 3 u64P)
  obtain ⟨bm, hbm⟩ : ∃ b, b = w4.heap.size := ⟨_, rfl⟩
  obtain ⟨w5, hw5⟩ : ∃ W, W = w4.alloc (.map #[] 0) := ⟨_, rfl⟩
  have B5 := Lib.hid (show Below w4.heap.size w4 w5 by rw [hw5]; exact (Below.refl _ _).alloc (Nat.le_refl _) _)
  have S5 := Lib.hid (show w5.heap.size = bm + 1 by rw [hw5, hbm]; simp)
  rw [← hw5, ← hbm] at HMP
  rw [← hw5, ← hbm]
  clear hw5 hmk
  have hge : w.heap.size ≤ bm := by rw [hbm]; exact BB4.out.size
  have b6 : Below w.heap.size w (w5.alloc (Obj.cells (rwC g ci bm (Rl.new a b)) 106)) := BB4.out.trans ((B5.out.mono (by rw [← hbm]; exact hge)).trans ((Below.refl _ _).alloc (Nat.le_trans (Nat.le_succ_of_le hge) (Nat.le_of_eq S5.out.symm)) _))
  have hX : Blk (w5.alloc (Obj.cells (rwC g ci bm (Rl.new a b)) 106)) (bm + 1) (rwC g ci bm (Rl.new a b)) 106 := by rw [← S5.out]; exact heap_alloc_new _ _
  have hlt : ∀ k, F k → k < w.heap.size := (ML C G g).lt H.out
  refine bodyPost_ret (results_tmp2 Tryz.results23 _ _ _) rfl ⟨bm + 1, fun k => F k ∨ (k = bm + 1 ∨ k = bm), rfl, ⟨F, fun k => k = bm + 1 ∨ k = bm, (ML C G g).below H.out b6, ⟨bm, ⟨hX, ⟨.map [], (World.ownsMap.alloc HMP.out _).mono (Nat.zero_le _), genM_empty a⟩, by omega, Rl.new_ok HOK.out⟩, .inl rfl, .inr rfl, ?_⟩, ?_, fun k => Iff.rfl⟩, ?_, b6⟩
  · rintro k (rfl | rfl)
    · exact hX.lt
    · exact Nat.lt_trans (Nat.lt_succ_self _) hX.lt
  · rintro k hk (rfl | rfl) <;> (have := hlt _ hk; omega)
  · rintro k (hk | rfl | rfl)
    · exact .inl hk
    · exact .inr (by omega)
    · exact .inr hge
set_option maxRecDepth 100000 in
set_option maxHeartbeats 1600000 in
theorem lnew_shape (h : (ML C G g).At w s F) (ci : SCiph) (a b : Int) (hn : ¬(okS a b ∧ 2 + a * b ≤ (s.a.length : Int))) :
    Calls Tryz.prog 23 #[.pointer (some ⟨g, 0, none⟩), ci.v, .agg #[.int .i64 a, .int .i64 b]] w (RetB (.tuple #[.pointer none, .int .i64 2]) w) := by
  obtain ⟨W, hW⟩ : ∃ W, W = w.alloc (.cells #[.int .i64 a, .int .i64 b] 32) := ⟨_, rfl⟩
  have B1 := Lib.hid (show Blk W w.heap.size #[.int .i64 a, .int .i64 b] 32 by rw [hW]; exact heap_alloc_new _ _)
  have BB := Lib.hid (show Below w.heap.size w W by rw [hW]; exact (Below.refl w.heap.size w).alloc (Nat.le_refl _) _)
  have H := Lib.hid h
  have c00 : W.cell? ⟨w.heap.size, 0, none⟩ = some (.int .i64 a) := B1.out.cell 0
  have c01 : W.cell? ⟨w.heap.size, 1, none⟩ = some (.int .i64 b) := B1.out.cell 1
  by_cases hok : okS a b
  · have hck := fun W => check_yes a b hok W
    have hsc := fun W => sectors_yes a b hok W
    have hln := fun W (h : (ML C G g).At W s F) => mlen_any h
    obtain ⟨m, hm⟩ : ∃ m : Int, m = 2 + a * b := ⟨_, rfl⟩
    obtain ⟨l, hl⟩ : ∃ l : Nat, l = s.a.length := ⟨_, rfl⟩
    have hgt : (l : Int) < m := by rw [hl, hm]; exact Int.not_le.1 (fun h => hn ⟨hok, h⟩)
    have d1 : decide (m > (l : Int)) = true := decide_eq_true hgt
    have d2 : decide ((l : Int) < m) = true := decide_eq_true hgt
    simp only [← hm] at hsc
    simp only [← hl] at hln
    have HCK := Lib.hid hck
    have HSC := Lib.hid hsc
    have HLN := Lib.hid hln
    clear h hok hn hck hsc hln hm hl hgt
    unfold SCiph.v
    go_enter Tryz.func23, Tryz.ntmps23
    go_wp2_with fail
    rw [show (w.alloc (Obj.cells #[.int .i64 a, .int .i64 b] 32)) = W from hW.symm]
    clear hW
    go_wp2_with fail
    refine (HCK.out _).mono ?_
    rintro e w2 ⟨rfl, bw⟩
    have B2 := Lib.hid (B1.out.below bw)
    have BB2 := Lib.hid (BB.out.trans (bw.mono BB.out.size))
    clear bw B1 BB c00 c01
    have c00 : w2.cell? ⟨w.heap.size, 0, none⟩ = some (.int .i64 a) := B2.out.cell 0
    have c01 : w2.cell? ⟨w.heap.size, 1, none⟩ = some (.int .i64 b) := B2.out.cell 1
    go_wp2_with fail
    refine (HSC.out _).mono ?_
    rintro e w3 ⟨rfl, bw⟩
    have BB3 := Lib.hid (BB2.out.trans (bw.mono BB2.out.size))
    clear bw B2 BB2 c00 c01
    go_wp2_with fail
    refine (HLN.out _ ((ML C G g).below H.out BB3.out)).mono ?_
    rintro e w4 ⟨rfl, bw⟩
    have BB4 := Lib.hid (BB3.out.trans (bw.mono BB3.out.size))
    clear bw BB3
    go_wp2_with fail
    exact bodyPost_ret (results_tmp2 Tryz.results23 _ _ _) rfl ⟨rfl, BB4.out⟩
  · have HCK := Lib.hid (fun W => check_no a b hok W)
    clear h hok hn
    unfold SCiph.v
    go_enter Tryz.func23, Tryz.ntmps23
    go_wp2_with fail
    rw [show (w.alloc (Obj.cells #[.int .i64 a, .int .i64 b] 32)) = W from hW.symm]
    clear hW
    go_wp2_with fail
    refine (HCK.out _).mono ?_
    rintro e w2 ⟨rfl, bw⟩
    have BB2 := Lib.hid (BB.out.trans (bw.mono BB.out.size))
    clear bw B1 BB c00 c01
    go_wp2_with fail
    exact bodyPost_ret (results_tmp2 Tryz.results23 _ _ _) rfl ⟨rfl, BB2.out⟩
end
theorem logr_step {C : Duo} {G : Gd} {g q : Nat} {ci : SCiph} {w : World} {s : Mr C} {r : Rl} {F : Nat → Prop} (h : (LogR C G g q ci).At w (s, r) F) :
    ∃ bm, RlO g q bm ci w r ∧ F q ∧ F bm ∧ ∀ {w' : World} {r' : Rl}, RlO g q bm ci w' r' → But (fun k => k = q ∨ k = bm) w w' → ∃ F', Mv (LogR C G g q ci) w F w' (s, r') F' := by
  obtain ⟨F1, F2, h1, ⟨bm, ho, hq, hbm, h3⟩, hd, hF⟩ := h
  exact ⟨bm, ho, (hF q).2 (.inr hq), (hF bm).2 (.inr hbm), fun hr hb => ⟨_, fin_own ⟨hq, hbm, h3, hd, hF⟩ (Mv.start h1) hr hb⟩⟩
end Go.Proofs.YtnplhagfmfggcaaGreat.Lo
/-
  A log, and the mirror that it has: what Flush and Read tell.
-/
namespace Go.Proofs.YtnplhagfmfggcaaGreat.Lo
open Go.RowKit Go.Maps Kd Mi Sx Sg
attribute [local go_sem ↓] Go.wp_at_zero Go.wp_at_succ
section
variable {C : Duo} {G : Gd} {g q bm : Nat} {ci : SCiph} {w w' : World} {s s' : Mr C} {r r' : Rl} {F1 F2 F5 F T : Nat → Prop}
set_option maxRecDepth 100000 in
theorem rflush_any (h : (LogR C G g q ci).At w (s, r) F) : Calls Tryz.prog 25 #[.pointer (some ⟨q, 0, none⟩)] w (RetA (LogR C G g q ci) (.int .i64 s.flush.1) (s.flush.2, r) F w) := by
  obtain ⟨F1, F2, hm, ⟨bm, ho, hq, hbm, h3⟩, hd, hF⟩ := h
  have ho : RlO g q bm ci w r := ho
  have hm : (ML C G g).At w s F1 := hm
  have c0 : w.cell? ⟨q, 0, none⟩ = some (.pointer (some ⟨g, 0, none⟩)) := ho.blk.cell 0
  have HC := Lib.hid (mflushm_any hm)
  have HO := Lib.hid ho
  have H2F := Lib.hid (show F2 q ∧ F2 bm ∧ (∀ k, F2 k → k < w.heap.size) ∧ (∀ k, F1 k → F2 k → False) ∧ (∀ k, F k ↔ F1 k ∨ F2 k) from ⟨hq, hbm, h3, hd, hF⟩)
  obtain ⟨s2, hs2⟩ : ∃ x, x = s.flush.2 := ⟨_, rfl⟩
  obtain ⟨v, hv⟩ : ∃ x, x = s.flush.1 := ⟨_, rfl⟩
  rw [← hs2, ← hv] at HC
  rw [← hs2, ← hv]
  clear hm ho hs2 hv hq hbm h3 hd hF
  go_enter Tryz.func25, Tryz.ntmps25
  go_wp2_with fail
  refine HC.out.mono ?_
  rintro e w1 ⟨rfl, F5, hmv⟩
  have HMV := Lib.hid hmv
  clear hmv
  go_wp2_with fail
  go_ret
  exact ⟨rfl, _, fin_own H2F.out HMV.out (HO.out.but HMV.out.but (fun h => H2F.out.2.2.2.1 q h H2F.out.1) (fun h => H2F.out.2.2.2.1 bm h H2F.out.2.1)) (But.refl _)⟩
/-! ### Read -/
/-- What Read tells: the body, and the error. -/
def rdR (ci : SCiph) (G : Gd) (s : Mr C) (r : Rl) (k : Int) : List UInt8 × Int :=
  if (2 ≤ k ∧ k < 2 + (r.segs : Int) * (r.size : Int)) ∧ usedG r.gens ((k - 2) / (r.size : Int)) = true then
    (if (readM C G s k).2 = 0 then (if okS ci.f k (readM C G s k).1 = true ∧ genS (readM C G s k).1 = genG r.gens ((k - 2) / (r.size : Int)) then (bodyS (readM C G s k).1, 0) else ([], 9)) else ([], (readM C G s k).2))
  else ([], 2)
/-- It returns bytes in new memory, and a number; what is laid is as it was. -/
def RetN (L : Laid) (x : L.St) (b : List UInt8) (k : Int) (F : Nat → Prop) (w : World) (e : Ending) (w' : World) : Prop :=
  ∃ A n c, e = .returned (.tuple #[.slice A n c, .int .i64 k]) ∧ w'.ownsRow w.heap.size 5 1 (.slice A n c) n (bv b) ∧ ∃ F', Mv L w F w' x F' ∧ ∀ j, (Value.slice A n c).ownBlock = some j → ¬F' j
theorem RetN.nil {L : Laid} {x : L.St} {k : Int} (h : ∃ F', Mv L w F w' x F') : RetN L x [] k F w (.returned (.tuple #[.slice none 0 0, .int .i64 k])) w' := by
  obtain ⟨F', h⟩ := h
  exact ⟨none, 0, 0, rfl, World.ownsRow_nil _ _ _ _, F', h, fun j hj => by cases hj⟩
theorem readM_len (h : (ML C G g).At w s F) (k : Int) : (readM C G s k).1.length = 128 := by
  obtain ⟨A, n, c, B, m, e, F1, hr, _⟩ := h
  unfold readM
  split
  · split
    · exact C.rd_len hr.d (by omega)
    · split
      · exact C.rd_len hr.d (by omega)
      · exact zeroS_length
  · exact zeroS_length
set_option maxRecDepth 100000 in
set_option maxHeartbeats 1600000 in
theorem read_out (h : (LogR C G g q ci).At w (s, r) F) (k : Int) (hk : ¬(2 ≤ k ∧ k < 2 + (r.segs : Int) * (r.size : Int))) : Calls Tryz.prog 18 #[.pointer (some ⟨q, 0, none⟩), .int .i64 k] w (RetN (LogR C G g q ci) (s, r) [] 2 F w) := by
  obtain ⟨bm, ho⟩ := logr_own h
  have c2 : w.cell? ⟨q, 2, none⟩ = some (.int .i64 (r.segs : Int)) := ho.blk.cell 2
  have c3 : w.cell? ⟨q, 3, none⟩ = some (.int .i64 (r.size : Int)) := ho.blk.cell 3
  have H := Lib.hid h
  have HN := Lib.hid (fun W => of_no (r.segs : Int) (r.size : Int) k (fun h => hk h.2) W)
  clear h ho hk
  go_enter Tryz.func18, Tryz.ntmps18
  go_wp2_with fail
  refine (HN.out _).mono ?_
  rintro e w1 ⟨rfl, bw⟩
  have BW := Lib.hid bw
  clear bw
  go_wp2_with fail
  exact bodyPost_ret (results_tmp2 Tryz.results18 _ _ _) rfl (RetN.nil ⟨F, (Mv.start H.out).below BW.out⟩)
set_option maxRecDepth 100000 in
set_option maxHeartbeats 1600000 in
theorem read_free (h : (LogR C G g q ci).At w (s, r) F) (i j : Int) (hi : inS (r.segs : Int) (r.size : Int) i j) (hu : usedG r.gens i = false) : Calls Tryz.prog 18 #[.pointer (some ⟨q, 0, none⟩), .int .i64 (2 + i * (r.size : Int) + j)] w (RetN (LogR C G g q ci) (s, r) [] 2 F w) := by
  obtain ⟨bm, ho⟩ := logr_own h
  have c2 : w.cell? ⟨q, 2, none⟩ = some (.int .i64 (r.segs : Int)) := ho.blk.cell 2
  have c3 : w.cell? ⟨q, 3, none⟩ = some (.int .i64 (r.size : Int)) := ho.blk.cell 3
  obtain ⟨⟨i1, i2⟩, i3, i4⟩ := hi.2
  have hsm := ho.ok.small
  have H := Lib.hid h
  have HN := Lib.hid (fun W => of_yes (r.segs : Int) (r.size : Int) i j hi W)
  have hus := fun W (h : RlO g q bm ci W r) => used_any h (z := i) (by omega) (by omega)
  rw [hu] at hus
  have HUS := Lib.hid hus
  have HO := Lib.hid ho
  obtain ⟨at_, hat⟩ : ∃ a, a = 2 + i * (r.size : Int) + j := ⟨_, rfl⟩
  rw [← hat] at HN
  rw [← hat]
  clear h ho hi hu hus i1 i2 i3 i4 hsm hat
  go_enter Tryz.func18, Tryz.ntmps18
  go_wp2_with fail
  refine (HN.out _).mono ?_
  rintro e w1 ⟨rfl, bw⟩
  have BW := Lib.hid bw
  clear bw
  go_wp2_with fail
  refine (HUS.out _ (HO.out.below BW.out)).mono ?_
  rintro e w2 ⟨rfl, bw⟩
  have BW2 := Lib.hid (BW.out.trans (bw.mono BW.out.size))
  clear bw
  go_wp2_with fail
  exact bodyPost_ret (results_tmp2 Tryz.results18 _ _ _) rfl (RetN.nil ⟨F, (Mv.start H.out).below BW2.out⟩)
set_option maxRecDepth 100000 in
set_option maxHeartbeats 3200000 in
theorem read_used (h : (LogR C G g q ci).At w (s, r) F) (hab : s.b.length = s.a.length) (i j : Int) (hi : inS (r.segs : Int) (r.size : Int) i j) (hu : usedG r.gens i = true) : Calls Tryz.prog 18 #[.pointer (some ⟨q, 0, none⟩), .int .i64 (2 + i * (r.size : Int) + j)] w
    (RetN (LogR C G g q ci) (s, r) (if (readM C G s (2 + i * (r.size : Int) + j)).2 = 0 then (if okS ci.f (2 + i * (r.size : Int) + j) (readM C G s (2 + i * (r.size : Int) + j)).1 = true ∧ genS (readM C G s (2 + i * (r.size : Int) + j)).1 = genG r.gens i then bodyS (readM C G s (2 + i * (r.size : Int) + j)).1 else []) else [])
      (if (readM C G s (2 + i * (r.size : Int) + j)).2 = 0 then (if okS ci.f (2 + i * (r.size : Int) + j) (readM C G s (2 + i * (r.size : Int) + j)).1 = true ∧ genS (readM C G s (2 + i * (r.size : Int) + j)).1 = genG r.gens i then 0 else 9) else (readM C G s (2 + i * (r.size : Int) + j)).2) F w) := by
  obtain ⟨at_, hat⟩ : ∃ a, a = 2 + i * (r.size : Int) + j := ⟨_, rfl⟩
  obtain ⟨F1, F2, hm, ⟨bm, ho, hq, hbm, h3⟩, hd, hF⟩ := h
  have ho : RlO g q bm ci w r := ho
  have hm : (ML C G g).At w s F1 := hm
  have c2 : w.cell? ⟨q, 2, none⟩ = some (.int .i64 (r.segs : Int)) := ho.blk.cell 2
  have c3 : w.cell? ⟨q, 3, none⟩ = some (.int .i64 (r.size : Int)) := ho.blk.cell 3
  obtain ⟨⟨i1, i2⟩, i3, i4⟩ := hi.2
  have hsm := ho.ok.small
  have H2F := Lib.hid (show F2 q ∧ F2 bm ∧ (∀ k, F2 k → k < w.heap.size) ∧ (∀ k, F1 k → F2 k → False) ∧ (∀ k, F k ↔ F1 k ∨ F2 k) from ⟨hq, hbm, h3, hd, hF⟩)
  have HN := Lib.hid (fun W => of_yes (r.segs : Int) (r.size : Int) i j hi W)
  have hus := fun W (h : RlO g q bm ci W r) => used_any h (z := i) (by omega) (by omega)
  rw [hu] at hus
  have HUS := Lib.hid hus
  have HO := Lib.hid ho
  have HM := Lib.hid hm
  have HIB := Lib.hid (show -9223372036854775808 ≤ i ∧ i ≤ 9223372036854775807 by omega)
  rw [← hat] at HN
  rw [← hat]
  have hrd := fun W (h : (ML C G g).At W s F1) => mread_any h hab at_
  obtain ⟨y, hy⟩ : ∃ y, y = (readM C G s at_).1 := ⟨_, rfl⟩
  obtain ⟨ev, hev⟩ : ∃ y, y = (readM C G s at_).2 := ⟨_, rfl⟩
  have HY3 := Lib.hid (show y.length = 128 by rw [hy]; exact readM_len hm at_)
  simp only [← hy, ← hev] at hrd
  rw [← hy, ← hev]
  have HRD := Lib.hid hrd
  obtain ⟨z, hz0⟩ : ∃ z : List UInt8, z = zeroS := ⟨_, rfl⟩
  have hz : ∀ W, (zeroValue 101).run Tryz.prog W = .ok (.agg (bva z)) W := fun _ => by rw [hz0]; kernel_rfl
  have HZ3 := Lib.hid (show z.length = 128 by rw [hz0]; exact zeroS_length)
  have HIY : Hid ((Tryz.prog.info? 101).map (·.size) = some (bva y).size) := by rw [bva_size, HY3.out]; exact info_sec
  obtain ⟨gg, hgg⟩ : ∃ x : Nat, x = genG r.gens i := ⟨_, rfl⟩
  have HGG := Lib.hid hgg
  obtain ⟨ok, hok⟩ : ∃ x, x = okS ci.f at_ y := ⟨_, rfl⟩
  obtain ⟨us, hus2⟩ : ∃ x, x = unpackS ci.f at_ y := ⟨_, rfl⟩
  have HUS2 := Lib.hid (show us = if ok then (genS y, bodyS y) else (0, []) by rw [hus2, unpackS, hok])
  have hup := fun W => unpack_any ci at_ y HY3.out W
  simp only [← hus2, ← hok] at hup
  obtain ⟨u1, hu1⟩ : ∃ x, x = us.1 := ⟨_, rfl⟩
  obtain ⟨u2, hu2⟩ : ∃ x, x = us.2 := ⟨_, rfl⟩
  rw [← hu1, ← hu2] at hup
  have HUE := Lib.hid (And.intro hu1 hu2)
  have HUP := Lib.hid hup
  rw [← hgg, ← hok]
  obtain ⟨B0, hB0⟩ : ∃ B0, B0 = if ev = 0 then (if ok = true ∧ genS y = gg then bodyS y else []) else [] := ⟨_, rfl⟩
  obtain ⟨E0, hE0⟩ : ∃ E0 : Int, E0 = if ev = 0 then (if ok = true ∧ genS y = gg then 0 else 9) else ev := ⟨_, rfl⟩
  rw [← hB0, ← hE0]
  have HB0 := Lib.hid hB0
  have HE0 := Lib.hid hE0
  clear hB0 hE0
  clear ho hm hi hu hus i1 i2 i3 i4 hsm hat hq hbm h3 hd hF hrd hy hev hz0 hgg hok hus2 hup hu1 hu2 hab
  go_enter Tryz.func18, Tryz.ntmps18
  go_wp2_with fail
  refine (HN.out _).mono ?_
  rintro e w1 ⟨rfl, bw⟩
  have O1 := Lib.hid (HO.out.below bw)
  have M1 := Lib.hid ((Mv.start HM.out).below bw)
  clear bw HO HM c2 c3
  go_wp2_with fail
  refine (HUS.out _ O1.out).mono ?_
  rintro e w2 ⟨rfl, bw⟩
  have O2 := Lib.hid (O1.out.below bw)
  have M2 := Lib.hid (M1.out.below bw)
  clear bw O1 M1
  have c0 : w2.cell? ⟨q, 0, none⟩ = some (.pointer (some ⟨g, 0, none⟩)) := O2.out.blk.cell 0
  go_wp2_with fail
  refine (HRD.out _ M2.out.at_).mono ?_
  rintro e w3 ⟨rfl, F5, hmv⟩
  have O3 := Lib.hid (O2.out.but hmv.but (fun h => H2F.out.2.2.2.1 q h H2F.out.1) (fun h => H2F.out.2.2.2.1 bm h H2F.out.2.1))
  have M3 := Lib.hid (M2.out.trans hmv)
  clear hmv O2 M2 c0
  go_wp2_with (show wpList _ _ _ ({ dst := none, op := .store 101 (.tmp 9) (.tmp 40), type := _, pos := _, after := _, guard := _ } :: _) _ _; apply Classical.byContradiction; intro hneg)
  refine hneg ?_
  clear hneg
  refine wpList_store_row rfl 101 (.tmp 9) (.tmp 40) rfl w3.heap.size (bva y) rfl rfl 101 (bva z) (heap_alloc_new _ _) HIY.out (by rw [bva_size, bva_size, HY3.out, HZ3.out]) (bva_one _) ?_
  obtain ⟨w4, hw4⟩ : ∃ w4, w4 = (w3.alloc (.cells (bva z) 101)).setRow w3.heap.size (bva y) := ⟨_, rfl⟩
  have bw : Below w3.heap.size w3 w4 := by rw [hw4]; exact below_setRow ((Below.refl _ _).alloc (Nat.le_refl _) _) (Nat.le_refl _) _
  have X4 := Lib.hid (show Blk w4 w3.heap.size (bva y) 101 by rw [hw4]; exact setRow_heap _ _ _ _ _ _ (heap_alloc_new _ _))
  have O4 := Lib.hid (O3.out.below bw)
  have M4 := Lib.hid (M3.out.below bw)
  rw [← hw4]
  clear hw4 bw O3 M3
  obtain ⟨b3, hb3⟩ : ∃ b3, b3 = w3.heap.size := ⟨_, rfl⟩
  rw [← hb3] at X4
  rw [← hb3]
  clear hb3
  by_cases he : ev = 0
  · subst he
    have HB1 := Lib.hid (HB0.out.trans (if_pos rfl))
    have HE1 := Lib.hid (HE0.out.trans (if_pos rfl))
    clear HB0 HE0
    go_wp2_with fail
    refine wp_region_held_drew (S := (fun w' => Blk w' q (rwC g ci bm r) 106 ∧ Blk w' b3 (bva y) 101)) (by kernel_rfl) ⟨O4.out.drew.blk, X4.out⟩ (fun hh => ?_)
    have HH := Lib.hid hh
    clear hh
    refine wpAnyH_take (i := 0) (v := ?vw0) rfl (by kernel_rfl) (by kernel_rfl) (by kernel_rfl) (fun _ _ _ h => h) (Or.inl ⟨by rfl, fun w' _ => ?yw0⟩) HH.out ?_
    case yw0 => (go_simp; try with_reducible rfl)
    refine wpAnyH_take (i := 1) (v := ?vw1) rfl (by kernel_rfl) (by kernel_rfl) (by kernel_rfl) (fun _ _ _ h => h) (Or.inl ⟨by rfl, fun w' _ => ?yw1⟩) HH.out ?_
    case yw1 => (go_simp; try with_reducible rfl)
    try simp only [List.getElem_toArray, List.getElem_cons_succ, List.getElem_cons_zero, Act.put, List.setIfInBounds_toArray, List.set_cons_zero, List.set_cons_succ]
    refine wpAnyH_take (i := 2) (v := ?vw2) rfl (by kernel_rfl) (by kernel_rfl) (by kernel_rfl) (fun _ _ _ h => h) (Or.inl ⟨by rfl, fun w' _ => ?yw2⟩) HH.out ?_
    case yw2 => (go_simp; try with_reducible rfl)
    refine wpAnyH_take (i := 3) (v := ci.v) rfl (by kernel_rfl) (by kernel_rfl) (by kernel_rfl) (fun _ _ _ h => h) (Or.inl ⟨by rfl, fun w' hw' => ?lw3⟩) HH.out ?_
    case lw3 => (have hc : w'.cell? ⟨q, 1, none⟩ = some ci.v := hw'.1.cell 1; go_simp; try with_reducible rfl)
    try simp only [List.getElem_toArray, List.getElem_cons_succ, List.getElem_cons_zero, Act.put, List.setIfInBounds_toArray, List.set_cons_zero, List.set_cons_succ]
    refine wpAnyH_take (i := 4) (v := ?vw4) rfl (by kernel_rfl) (by kernel_rfl) (by kernel_rfl) (fun _ _ _ h => h) (Or.inl ⟨by rfl, fun w' _ => ?yw4⟩) HH.out ?_
    case yw4 => (go_simp; try with_reducible rfl)
    try simp only [List.getElem_toArray, List.getElem_cons_succ, List.getElem_cons_zero, Act.put, List.setIfInBounds_toArray, List.set_cons_zero, List.set_cons_succ]
    refine wpAnyH_take (i := 5) (v := .agg (bva y)) rfl (by kernel_rfl) (by kernel_rfl) (by kernel_rfl) (fun _ _ _ h => h) (Or.inl ⟨by rfl, fun w' hw' => ?yw5⟩) HH.out ?_
    case yw5 => exact exec_load 101 (.tmp 9) rfl rfl hw'.2 Tryz.underlying101 rfl HIY.out
    try simp only [List.getElem_toArray, List.getElem_cons_succ, List.getElem_cons_zero, Act.put, List.setIfInBounds_toArray, List.set_cons_zero, List.set_cons_succ]
    refine wpAnyH_ready (rs := [6]) (by kernel_rfl) (by simp) (AllReadyH.cons rfl (fun K hK => ?_) AllReadyH.nil)
    go_simp
    refine (HUP.out _).mono ?_
    rintro e w5 ⟨Ab, nb, cb, rfl, hown, bw⟩
    have M5 := Lib.hid ((M4.out.below (Below.refl _ _).drew).below bw)
    have O5 := Lib.hid (O4.out.drew.below bw)
    have OB := Lib.hid hown
    have X5 := Lib.hid (X4.out.below (w1 := w5) ((Below.refl _ _).drew.trans bw))
    have L4 := Lib.hid (And.intro M4.out.lt M4.out.but.size)
    clear hown bw
    go_simp
    refine hK.out _ _ ⟨O5.out.blk, X5.out⟩ (fun hh => ?_)
    have HH' := Lib.hid hh
    clear hh hK K HH O4 M4 X4
    have HH := Lib.hid HH'.out
    clear HH'
    refine wpAnyH_take (i := 7) (v := ?vw7) rfl (by kernel_rfl) (by kernel_rfl) (by kernel_rfl) (fun _ _ _ h => h) (Or.inl ⟨by rfl, fun w' _ => ?yw7⟩) HH.out ?_
    case yw7 => (go_simp; try with_reducible rfl)
    try simp only [List.getElem_toArray, List.getElem_cons_succ, List.getElem_cons_zero, Act.put, List.setIfInBounds_toArray, List.set_cons_zero, List.set_cons_succ]
    refine wpAnyH_take (i := 8) (v := ?vw8) rfl (by kernel_rfl) (by kernel_rfl) (by kernel_rfl) (fun _ _ _ h => h) (Or.inl ⟨by rfl, fun w' _ => ?yw8⟩) HH.out ?_
    case yw8 => (go_simp; try with_reducible rfl)
    refine wpAnyH_take (i := 9) (v := ?vw9) rfl (by kernel_rfl) (by kernel_rfl) (by kernel_rfl) (fun _ _ _ h => h) (Or.inl ⟨by rfl, fun w' _ => ?yw9⟩) HH.out ?_
    case yw9 => (go_simp; try with_reducible rfl)
    refine wpAnyH_take (i := 10) (v := ?vw10) rfl (by kernel_rfl) (by kernel_rfl) (by kernel_rfl) (fun _ _ _ h => h) (Or.inl ⟨by rfl, fun w' _ => ?yw10⟩) HH.out ?_
    case yw10 => (go_simp; try with_reducible rfl)
    try simp only [List.getElem_toArray, List.getElem_cons_succ, List.getElem_cons_zero, Act.put, List.setIfInBounds_toArray, List.set_cons_zero, List.set_cons_succ]
    refine wpAnyH_take (i := 11) (v := ?vw11) rfl (by kernel_rfl) (by kernel_rfl) (by kernel_rfl) (fun _ _ _ h => h) (Or.inl ⟨by rfl, fun w' _ => ?yw11⟩) HH.out ?_
    case yw11 => (go_simp; try with_reducible rfl)
    refine wpAnyH_take (i := 12) (v := ?vw12) rfl (by kernel_rfl) (by kernel_rfl) (by kernel_rfl) (fun _ _ _ h => h) (Or.inl ⟨by rfl, fun w' _ => ?yw12⟩) HH.out ?_
    case yw12 => (go_simp; try with_reducible rfl)
    refine wpAnyH_take (i := 13) (v := ?vw13) rfl (by kernel_rfl) (by kernel_rfl) (by kernel_rfl) (fun _ _ _ h => h) (Or.inl ⟨by rfl, fun w' _ => ?yw13⟩) HH.out ?_
    case yw13 => (go_simp; try with_reducible rfl)
    try simp only [List.getElem_toArray, List.getElem_cons_succ, List.getElem_cons_zero, Act.put, List.setIfInBounds_toArray, List.set_cons_zero, List.set_cons_succ]
    refine wpAnyH_done (by kernel_rfl) ?_ _
    clear HH X5 HRD HUP HUS HN HIY HZ3
    have hlk : (Instr.lookup 104 (.map (some bm)) (.int .i64 i) false).run Tryz.prog w5 = .ok (.int .u64 (gg : Int)) w5 := by rw [HGG.out]; exact O5.out.look HIB.out.1 HIB.out.2
    have c4 : w5.cell? ⟨q, 4, none⟩ = some (.map (some bm)) := O5.out.blk.cell 4
    cases ok with
    | false =>
      have hB := HB1.out.trans (if_neg (by simp))
      have hE := HE1.out.trans (if_neg (by simp))
      subst hB
      subst hE
      clear HB1 HE1
      go_wp2_with fail
      exact bodyPost_ret (results_tmp2 Tryz.results18 _ _ _) rfl (RetN.nil ⟨_, fin_own H2F.out M5.out O5.out (But.refl _)⟩)
    | true =>
      have e0 := HUS2.out
      rw [if_pos rfl] at e0
      have e1 : u1 = genS y := by rw [HUE.out.1, e0]
      have e2 : u2 = bodyS y := by rw [HUE.out.2, e0]
      by_cases hg : u1 = gg
      · have hB := HB1.out.trans (if_pos ⟨rfl, e1.symm.trans hg⟩)
        have hE := HE1.out.trans (if_pos ⟨rfl, e1.symm.trans hg⟩)
        have HB2 := Lib.hid (hB.trans e2.symm)
        subst hE
        subst hg
        clear hB e0 e1 e2 HB1 HE1 HUS2 HUE
        go_wp2_with fail
        refine bodyPost_ret (results_tmp2 Tryz.results18 _ _ _) rfl ⟨Ab, nb, cb, rfl, ?_, _, fin_own H2F.out M5.out O5.out (But.refl _), ?_⟩
        · rw [HB2.out]; exact own_more OB.out (Nat.le_trans L4.out.2 (Nat.le_refl _))
        · intro j hj hf
          have hlt := (OB.out.lt j hj).1
          rcases hf with hf | hf
          · have h9 : j < w4.heap.size := L4.out.1 j hf
            have h8 : w4.heap.size ≤ j := hlt
            omega
          · have h9 := H2F.out.2.2.1 j hf
            have h8 : w4.heap.size ≤ j := hlt
            have := L4.out.2
            omega
      · have hg2 : ((u1 : Int) != (gg : Int)) = true := bne_iff_ne.2 (fun e => hg (by omega))
        have hB := HB1.out.trans (if_neg (fun h => hg (e1.trans h.2)))
        have hE := HE1.out.trans (if_neg (fun h => hg (e1.trans h.2)))
        subst hB
        subst hE
        clear e0 e1 e2 HB1 HE1 HUS2 HUE hg
        go_wp2_with fail
        exact bodyPost_ret (results_tmp2 Tryz.results18 _ _ _) rfl (RetN.nil ⟨_, fin_own H2F.out M5.out O5.out (But.refl _)⟩)
  · have he2 : (ev != 0) = true := bne_iff_ne.2 he
    have HB1 := HB0.out.trans (if_neg he)
    have HE1 := HE0.out.trans (if_neg he)
    subst HB1
    subst HE1
    clear HB0 HE0
    go_wp2_with fail
    exact bodyPost_ret (results_tmp2 Tryz.results18 _ _ _) rfl (RetN.nil ⟨_, fin_own H2F.out M4.out O4.out (But.refl _)⟩)
theorem read_raw (h : (LogR C G g q ci).At w (s, r) F) (hab : s.b.length = s.a.length) (k : Int) : Calls Tryz.prog 18 #[.pointer (some ⟨q, 0, none⟩), .int .i64 k] w (RetN (LogR C G g q ci) (s, r) (rdR ci G s r k).1 (rdR ci G s r k).2 F w) := by
  obtain ⟨bm, ho⟩ := logr_own h
  have hsm := ho.ok.small
  by_cases hk : 2 ≤ k ∧ k < 2 + (r.segs : Int) * (r.size : Int)
  · have hz : 0 < (r.size : Int) := by omega
    have e1 := Int.mul_ediv_add_emod (k - 2) (r.size : Int)
    have e2 := Int.emod_nonneg (k - 2) (show (r.size : Int) ≠ 0 by omega)
    have e3 := Int.emod_lt_of_pos (k - 2) hz
    have e4 : 0 ≤ (k - 2) / (r.size : Int) := Int.ediv_nonneg (by omega) (by omega)
    have e5 : (k - 2) / (r.size : Int) < (r.segs : Int) := Int.ediv_lt_of_lt_mul hz (by omega)
    have ek : 2 + ((k - 2) / (r.size : Int)) * (r.size : Int) + (k - 2) % (r.size : Int) = k := by rw [Int.mul_comm]; omega
    have hi : inS (r.segs : Int) (r.size : Int) ((k - 2) / (r.size : Int)) ((k - 2) % (r.size : Int)) := ⟨ho.ok.shape, ⟨e4, e5⟩, e2, e3⟩
    cases hu : usedG r.gens ((k - 2) / (r.size : Int)) with
    | false =>
      have hc := read_free h _ _ hi hu
      rw [ek] at hc
      rw [rdR, if_neg (by rw [hu]; simp)]
      exact hc
    | true =>
      have hc := read_used h hab _ _ hi hu
      rw [ek] at hc
      rw [rdR, if_pos ⟨hk, hu⟩]
      split
      · rename_i h0
        rw [if_pos h0, if_pos h0] at hc
        split
        · rename_i h1
          rw [if_pos h1, if_pos h1] at hc
          exact hc
        · rename_i h1
          rw [if_neg h1, if_neg h1] at hc
          exact hc
      · rename_i h0
        rw [if_neg h0, if_neg h0] at hc
        exact hc
  · rw [rdR, if_neg (fun h => hk h.1)]
    exact read_out h k hk
end
end Go.Proofs.YtnplhagfmfggcaaGreat.Lo
/-
  A log, purely, as its cells tell of it: the two descriptions.
-/
namespace Go.Proofs.YtnplhagfmfggcaaGreat.Lo
open Go.RowKit Mi Sx Sg
def optG (g : Nat) : Option Nat := if g = 0 then none else some g
def rlOf (l : Lg) : Rl := ⟨l.gens.length, l.size, l.gens.map optG, l.last, l.headI, l.slotI⟩
theorem optG_getD (g : Nat) : (optG g).getD 0 = g := by unfold optG; split <;> simp_all
theorem optG_some (g : Nat) : (optG g).isSome = decide (g ≠ 0) := by unfold optG; split <;> simp_all
theorem rl_getD (gs : List Nat) (k : Nat) : (gs.map optG).getD k none = optG (gs.getD k 0) := by
  rw [List.getD_eq_getElem?_getD, List.getElem?_map, List.getD_eq_getElem?_getD]
  cases gs[k]? <;> rfl
theorem rl_used (l : Lg) (z : Int) : usedG (rlOf l).gens z = decide (0 ≤ z ∧ l.gens.getD z.toNat 0 ≠ 0) := by
  rw [usedG, show (rlOf l).gens = l.gens.map optG from rfl, rl_getD, optG_some]
  by_cases h : 0 ≤ z <;> simp [h]
theorem rl_gen (l : Lg) (z : Int) : genG (rlOf l).gens z = if 0 ≤ z then l.gens.getD z.toNat 0 else 0 := by
  rw [genG, show (rlOf l).gens = l.gens.map optG from rfl, rl_getD, optG_getD]
theorem rl_new (a b : Nat) : rlOf (Lg.new a b) = Rl.new a b := by
  unfold rlOf Lg.new Rl.new
  simp [Lg.headI, Lg.slotI, optG]
theorem rl_left {l : Lg} (hf : l.Fine) : (rlOf l).left = (l.left : Int) := by
  rw [Rl.left, Lg.left]
  show (if l.headI = -1 then (0 : Int) else (l.size : Int) - l.slotI) = _
  unfold Lg.headI Lg.slotI
  cases hh : l.h with
  | none => rfl
  | some p =>
    obtain ⟨s, j⟩ := p
    have := (hf.head s j hh).2.1
    show (if (s : Int) = -1 then (0 : Int) else (l.size : Int) - (j : Int)) = ((l.size - j : Nat) : Int)
    rw [if_neg (by omega)]
    omega
theorem rl_free (gs : List Nat) : freeG (gs.map optG) = freeK gs := by
  unfold freeG freeK
  rw [List.findIdx?_map]
  congr 1
  funext g
  show (optG g).isNone = (g == 0)
  unfold optG
  split <;> simp_all
theorem rl_next {l : Lg} (hf : l.Fine) : (rlOf l).next = match l.next with | some p => ((p.1 : Int), (p.2.1 : Int), p.2.2, true) | none => (0, 0, 0, false) := by
  rw [Rl.next, rl_left hf, show (rlOf l).gens = l.gens.map optG from rfl, rl_free]
  unfold Lg.next Lg.left
  cases hh : l.h with
  | none =>
    rw [if_neg (by show ¬ (0 : Int) < ((0 : Nat) : Int); omega)]
    show (match freeK l.gens with | some k => ((k : Int), (0 : Int), l.last + 1, true) | none => (0, 0, 0, false)) = _
    cases freeK l.gens <;> rfl
  | some p =>
    obtain ⟨s, j⟩ := p
    show (if (0 : Int) < ((l.size - j : Nat) : Int) then _ else _) = _
    by_cases hj : j < l.size
    · rw [if_pos (by omega)]
      have e1 : (rlOf l).seg = (s : Int) := by show l.headI = _; rw [Lg.headI, hh]
      have e2 : (rlOf l).slot = (j : Int) := by show l.slotI = _; rw [Lg.slotI, hh]
      have e3 : genG (l.gens.map optG) (s : Int) = l.gens.getD s 0 := by
        have := rl_gen l (s : Int)
        rw [if_pos (by omega), Int.toNat_natCast] at this
        exact this
      rw [e1, e2, e3]
      simp only [hj, if_true]
    · rw [if_neg (by omega)]
      simp only [hj, if_false]
      show (match freeK l.gens with | some k => ((k : Int), (0 : Int), l.last + 1, true) | none => (0, 0, 0, false)) = _
      cases freeK l.gens <;> rfl
theorem rl_put (l : Lg) {p : Nat × Nat × Nat} (h : p.2.2 ≠ 0) : rlOf (l.put p) = (rlOf l).put (p.1 : Int) (p.2.1 : Int) p.2.2 := by
  unfold rlOf Lg.put Rl.put
  simp only [List.length_set, List.map_set, Int.toNat_natCast]
  rw [show optG p.2.2 = some p.2.2 from if_neg h]
  rfl
theorem rl_freeSeg (l : Lg) (k : Nat) : rlOf (l.free k) = (rlOf l).free k := by
  unfold rlOf Lg.free Rl.free
  simp only [List.length_set, List.map_set]
  rw [show optG 0 = none from if_pos rfl]
  rfl
theorem rl_cnt (gs : List Nat) : cntG (gs.map optG) + (gs.filter (· == 0)).length = gs.length := by
  induction gs with
  | nil => rfl
  | cons g gs ih =>
    rw [cntG] at ih ⊢
    rw [List.map_cons]
    by_cases h : g = 0
    · subst h
      rw [show optG 0 = none from if_pos rfl]
      simp at ih ⊢
      omega
    · rw [show optG g = some g from if_neg h]
      simp [h] at ih ⊢
      omega
theorem rl_room {l : Lg} (hf : l.Fine) : (rlOf l).room = (l.room : Int) := by
  rw [Rl.room, rl_left hf, Lg.room]
  have h := rl_cnt l.gens
  show (l.left : Int) + ((l.gens.length : Int) - (cntG (l.gens.map optG) : Int)) * (l.size : Int) = _
  rw [show (l.gens.length : Int) - (cntG (l.gens.map optG) : Int) = ((l.gens.filter (· == 0)).length : Int) by omega]
  push_cast
  rfl
/-- What is found, learnt in an order in which the generations don't fall. -/
theorem rl_learn {l : Lg} {x : Nat × Nat × List UInt8} (h1 : 1 ≤ x.2.1) (h2 : l.last ≤ x.2.1) (h3 : ∀ g ∈ l.gens, g ≤ l.last) (h4 : l.h = none → l.last = 0) : rlOf (l.learn x) = (rlOf l).learn x := by
  obtain ⟨i, hi⟩ : ∃ i, i = (x.1 - 2) / l.size := ⟨_, rfl⟩
  obtain ⟨j, hj⟩ : ∃ j, j = (x.1 - 2) % l.size := ⟨_, rfl⟩
  have hg : max (l.gens.getD i 0) x.2.1 = x.2.1 := by
    have : l.gens.getD i 0 ≤ l.last := by
      rw [List.getD_eq_getElem?_getD]
      cases hx : l.gens[i]? with
      | none => exact Nat.zero_le _
      | some g => exact h3 g (List.mem_of_getElem? hx)
    omega
  have hm : max l.last x.2.1 = x.2.1 := by omega
  have hgs : (rlOf l).gens.set i (some x.2.1) = (l.gens.set i x.2.1).map optG := by
    rw [List.map_set, show optG x.2.1 = some x.2.1 from if_neg (by omega)]; rfl
  unfold Lg.learn Rl.learn
  rw [← hi, ← hj]
  show rlOf ⟨l.size, l.gens.set i (max (l.gens.getD i 0) x.2.1), max l.last x.2.1, _⟩ = if l.headI = -1 ∨ l.last < x.2.1 ∨ (((x.1 - 2) / l.size : Nat) : Int) = l.headI then ⟨l.gens.length, l.size, (rlOf l).gens.set ((x.1 - 2) / l.size) (some x.2.1), x.2.1, (((x.1 - 2) / l.size : Nat) : Int), (((x.1 - 2) % l.size : Nat) : Int) + 1⟩ else ⟨l.gens.length, l.size, (rlOf l).gens.set ((x.1 - 2) / l.size) (some x.2.1), l.last, l.headI, l.slotI⟩
  rw [← hi, ← hj, hg, hm, hgs]
  have key : (l.headI = -1 ∨ l.last < x.2.1 ∨ (i : Int) = l.headI) ↔ (l.last < x.2.1 ∨ (l.last = x.2.1 ∧ l.h.map (·.1) = some i)) := by
    unfold Lg.headI
    cases hh : l.h with
    | none =>
      have := h4 hh
      constructor
      · exact fun _ => .inl (by omega)
      · exact fun _ => .inl rfl
    | some p =>
      obtain ⟨s, t⟩ := p
      constructor
      · rintro (h | h | h)
        · have h : (s : Int) = -1 := h
          omega
        · exact .inl h
        · have h : (i : Int) = (s : Int) := h
          by_cases e : l.last < x.2.1
          · exact .inl e
          · exact .inr ⟨by omega, by simp; omega⟩
      · rintro (h | ⟨_, h⟩)
        · exact .inr (.inl h)
        · simp at h
          exact .inr (.inr (by show (i : Int) = (s : Int); omega))
  by_cases hc : l.last < x.2.1 ∨ (l.last = x.2.1 ∧ l.h.map (·.1) = some i)
  · rw [if_pos hc, if_pos (key.2 hc)]
    unfold rlOf
    simp only [List.length_set]
    rfl
  · rw [if_neg hc, if_neg (fun h => hc (key.1 h))]
    have e : x.2.1 = l.last := by omega
    unfold rlOf
    simp only [List.length_set, e]
    rfl
end Go.Proofs.YtnplhagfmfggcaaGreat.Lo
/-
  A log no segment of which was freed: what it knows behind T bodies, and what is found then. No program.
-/
namespace Go.Proofs.YtnplhagfmfggcaaGreat.Lo
open Go.RowKit Kd Sx
/-- Behind q segments and r bodies. -/
def lgQ (size segs q r : Nat) : Lg :=
  ⟨size, (List.range segs).map fun i => if i < q ∨ (i = q ∧ 0 < r) then i + 1 else 0, if 0 < r then q + 1 else q, if 0 < r then some (q, r) else if 0 < q then some (q - 1, size) else none⟩
theorem find_range (p : Nat → Bool) (n : Nat) {q : Nat} (h1 : ∀ i, i < q → p i = false) (h2 : p q = true) : ((List.range n).map fun i => if p i then (0 : Nat) else i + 1).findIdx? (· == 0) = if q < n then some q else none := by
  split
  · rename_i hq
    rw [List.findIdx?_eq_some_iff_getElem]
    refine ⟨by simpa using hq, by simp [h2], fun j hj => ?_⟩
    simp [h1 j hj]
  · rename_i hq
    rw [List.findIdx?_eq_none_iff]
    intro x hx
    obtain ⟨i, hi, rfl⟩ := List.mem_map.1 hx
    have hi := List.mem_range.1 hi
    rw [h1 i (by omega)]
    simp
theorem freeK_Q {size segs q : Nat} : freeK (lgQ size segs q 0).gens = if q < segs then some q else none := by
  have := find_range (fun i => decide (q ≤ i)) segs (q := q) (fun i hi => decide_eq_false (by omega)) (decide_eq_true (Nat.le_refl _))
  rw [← this, freeK, lgQ]
  congr 1
  refine List.map_congr_left fun i _ => ?_
  by_cases h : i < q
  · rw [if_pos (.inl h), if_neg (by simp; omega)]
  · rw [if_neg (by omega), if_pos (by simp; omega)]
theorem next_Q {size segs q r : Nat} (hr : r < size) : (lgQ size segs q r).next = if q < segs ∨ 0 < r then (if 0 < r then some (q, r, (lgQ size segs q r).gens.getD q 0) else some (q, 0, q + 1)) else none := by
  by_cases h : 0 < r
  · have e : (lgQ size segs q r).h = some (q, r) := by rw [lgQ]; exact if_pos h
    rw [Lg.next, e]
    show (if r < size then _ else _) = _
    rw [if_pos hr, if_pos (.inr h), if_pos h]
  · obtain rfl : r = 0 := by omega
    have hl : (lgQ size segs q 0).last = q := by show (if 0 < 0 then q + 1 else q) = q; exact if_neg h
    have hn : (lgQ size segs q 0).next = (freeK (lgQ size segs q 0).gens).map fun k => (k, 0, (lgQ size segs q 0).last + 1) := by
      by_cases h0 : 0 < q
      · have e : (lgQ size segs q 0).h = some (q - 1, size) := by show (if 0 < 0 then some (q, 0) else if 0 < q then some (q - 1, size) else none) = _; rw [if_neg h, if_pos h0]
        rw [Lg.next, e]
        show (if size < size then _ else _) = _
        rw [if_neg (Nat.lt_irrefl _)]
      · have e : (lgQ size segs q 0).h = none := by show (if 0 < 0 then some (q, 0) else if 0 < q then some (q - 1, size) else none) = _; rw [if_neg h, if_neg h0]
        rw [Lg.next, e]
    rw [hn, freeK_Q, hl]
    by_cases hq : q < segs
    · rw [if_pos hq, if_pos (.inl hq), if_neg h]; rfl
    · rw [if_neg hq, if_neg (by omega)]; rfl
theorem gens_Q {size segs q r : Nat} (hq : q < segs) (hr : 0 < r) : (lgQ size segs q r).gens.getD q 0 = q + 1 := by
  simp [lgQ, hq, hr]
theorem gens_set_Q {size segs q r g : Nat} (hg : g = q + 1) : (lgQ size segs q r).gens.set q g = (lgQ size segs q (r + 1)).gens := by
  apply List.ext_getElem
  · simp [lgQ]
  · intro i h1 h2
    have hi : i < segs := by simpa [lgQ] using h2
    rw [List.getElem_set]
    simp only [lgQ, List.getElem_map, List.getElem_range]
    by_cases e : q = i
    · subst e
      rw [if_pos rfl, if_pos (by omega), hg]
    · rw [if_neg e]
      by_cases h : i < q
      · rw [if_pos (.inl h), if_pos (.inl h)]
      · rw [if_neg (by omega), if_neg (by omega)]
/-- Behind T bodies. -/
def lgT (size segs T : Nat) : Lg := lgQ size segs (T / size) (T % size)
theorem lgQ_full {size segs q : Nat} (hs : 0 < size) : lgQ size segs q size = lgQ size segs (q + 1) 0 := by
  unfold lgQ
  congr 1
  · refine List.map_congr_left fun i _ => ?_
    by_cases h : i < q ∨ i = q
    · rw [if_pos (by omega), if_pos (by omega)]
    · rw [if_neg (by omega), if_neg (by omega)]
  · rw [if_pos hs, if_neg (by omega)]
  · rw [if_pos hs, if_neg (by omega), if_pos (by omega), Nat.add_sub_cancel]
theorem lgTsucc {size segs T : Nat} (hs : 0 < size) : lgT size segs (T + 1) = lgQ size segs (T / size) (T % size + 1) := by
  have h1 := Nat.div_add_mod T size
  have h2 := Nat.mod_lt T hs
  by_cases h : T % size + 1 < size
  · have e : T + 1 = (T % size + 1) + size * (T / size) := by omega
    rw [lgT]
    have e1 : (T + 1) / size = T / size := by
      rw [e, Nat.add_mul_div_left _ _ hs, Nat.div_eq_of_lt h, Nat.zero_add]
    have e2 : (T + 1) % size = T % size + 1 := by
      rw [e, Nat.add_mul_mod_self_left, Nat.mod_eq_of_lt h]
    rw [e1, e2]
  · have e3 : T % size + 1 = size := by omega
    have e : T + 1 = size * (T / size + 1) := by rw [Nat.mul_add]; omega
    rw [lgT]
    have e1 : (T + 1) / size = T / size + 1 := by rw [e, Nat.mul_div_cancel_left _ hs]
    have e2 : (T + 1) % size = 0 := by rw [e, Nat.mul_mod_right]
    rw [e1, e2, e3, lgQ_full hs]
theorem div_lt_segs {size segs T : Nat} (hs : 0 < size) : T / size < segs ↔ T < segs * size := by
  rw [Nat.div_lt_iff_lt_mul hs]
theorem next_T {size segs T : Nat} (hs : 0 < size) (hT : T < segs * size) : (lgT size segs T).next = some (T / size, T % size, T / size + 1) := by
  have hq := (div_lt_segs hs).2 hT
  rw [lgT, next_Q (Nat.mod_lt _ hs), if_pos (.inl hq)]
  split
  · rename_i h; rw [gens_Q hq h]
  · rename_i h; rw [show T % size = 0 by omega]
theorem next_full {size segs : Nat} (hs : 0 < size) : (lgT size segs (segs * size)).next = none := by
  rw [lgT, next_Q (Nat.mod_lt _ hs), if_neg (by rw [Nat.mul_div_cancel _ hs, Nat.mul_mod_left]; omega)]
theorem last_Q {size segs q r : Nat} : (lgQ size segs q r).last ≤ q + 1 ∧ (0 < r → (lgQ size segs q r).last = q + 1) ∧ (r = 0 → (lgQ size segs q r).last = q) := by
  unfold lgQ
  refine ⟨?_, fun h => if_pos h, fun h => if_neg (by omega)⟩
  show (if 0 < r then q + 1 else q) ≤ q + 1
  split <;> omega
theorem put_T {size segs T : Nat} (hs : 0 < size) : (lgT size segs T).put (T / size, T % size, T / size + 1) = lgT size segs (T + 1) := by
  rw [lgTsucc hs, lgT, Lg.put, gens_set_Q rfl]
  have hl := (last_Q (size := size) (segs := segs) (q := T / size) (r := T % size)).1
  show Lg.mk size _ (max _ (T / size + 1)) (some (T / size, T % size + 1)) = _
  rw [Nat.max_eq_right hl]
  unfold lgQ
  rw [if_pos (Nat.succ_pos _), if_pos (Nat.succ_pos _)]
/-- The sector of body t. -/
theorem at_T {size segs T : Nat} : (lgT size segs T).at_ (T / size, T % size, T / size + 1) = 2 + T := by
  show 2 + T / size * size + T % size = 2 + T
  have := Nat.div_add_mod T size
  rw [Nat.mul_comm] at this; omega
theorem learn_T {size segs T : Nat} (hs : 0 < size) (hT : T < segs * size) (b : List UInt8) : (lgT size segs T).learn (2 + T, T / size + 1, b) = lgT size segs (T + 1) := by
  have hq := (div_lt_segs hs).2 hT
  rw [← put_T hs, Lg.learn, Lg.put]
  have e : 2 + T - 2 = T := by omega
  show Lg.mk size _ _ _ = Lg.mk size _ _ _
  have hgq : ((lgT size segs T).gens.getD (T / size) 0) ≤ T / size + 1 := by
    by_cases hr : 0 < T % size
    · rw [lgT, gens_Q hq hr]; exact Nat.le_refl _
    · have : (lgT size segs T).gens.getD (T / size) 0 = 0 := by
        simp [lgT, lgQ, hq, hr]
      rw [this]; exact Nat.zero_le _
  show Lg.mk size ((lgT size segs T).gens.set ((2 + T - 2) / size) (max ((lgT size segs T).gens.getD ((2 + T - 2) / size) 0) (T / size + 1))) (max (lgT size segs T).last (T / size + 1)) (if _ ∨ _ then some ((2 + T - 2) / size, (2 + T - 2) % size + 1) else (lgT size segs T).h) = _
  rw [e, Nat.max_eq_right hgq, if_pos]
  by_cases hr : 0 < T % size
  · refine .inr ⟨(last_Q (size := size) (segs := segs)).2.1 hr, ?_⟩
    show Option.map _ (lgQ size segs (T / size) (T % size)).h = _
    rw [lgQ]
    show Option.map _ (if 0 < T % size then _ else _) = _
    rw [if_pos hr]; rfl
  · refine .inl ?_
    show (lgQ size segs (T / size) (T % size)).last < T / size + 1
    rw [(last_Q (size := size) (segs := segs)).2.2 (by omega)]
    exact Nat.lt_succ_self _
theorem lgTzero (size segs : Nat) : lgT size segs 0 = Lg.new segs size := by
  rw [lgT, Nat.zero_div, Nat.zero_mod, lgQ, Lg.new]
  congr 1
  apply List.ext_getElem
  · simp
  · intro i h1 h2
    simp
/-- What is found of T bodies. -/
def itemsT (size : Nat) (all : List (List UInt8)) : List (Nat × Nat × List UInt8) := (List.range all.length).map fun t => (2 + t, t / size + 1, all.getD t [])
theorem itemsTsnoc (size : Nat) (all : List (List UInt8)) (b : List UInt8) : itemsT size (all ++ [b]) = itemsT size all ++ [(2 + all.length, all.length / size + 1, b)] := by
  unfold itemsT
  rw [List.length_append, List.length_singleton, List.range_succ, List.map_append, List.map_singleton]
  congr 1
  · refine List.map_congr_left fun t ht => ?_
    have ht := List.mem_range.1 ht
    rw [List.getD_eq_getElem?_getD, List.getElem?_append_left ht, ← List.getD_eq_getElem?_getD]
  · simp
theorem lgOf_T {size segs : Nat} (hs : 0 < size) (all : List (List UInt8)) (hT : all.length ≤ segs * size) : lgOf segs size (itemsT size all) = lgT size segs all.length := by
  have H : ∀ (n : Nat) (l : List (List UInt8)), l.length = n → n ≤ segs * size → lgOf segs size (itemsT size l) = lgT size segs l.length := by
    intro n
    induction n with
    | zero =>
      intro l hl _
      have : l = [] := List.length_eq_zero_iff.1 hl
      subst this
      show Lg.new segs size = _
      rw [← lgTzero]; rfl
    | succ n ih =>
      intro l hl hn
      have hne : l ≠ [] := by intro e; rw [e] at hl; cases hl
      have hl' : l.dropLast ++ [l.getLast hne] = l := List.dropLast_concat_getLast hne
      have hd : l.dropLast.length = n := by rw [List.length_dropLast, hl]; rfl
      have h1 := ih l.dropLast hd (by omega)
      rw [← hl', itemsTsnoc, lgOf, List.foldl_append]
      rw [lgOf] at h1
      rw [h1, List.foldl_cons, List.foldl_nil, learn_T hs (by omega), List.length_append]; rfl
  exact H _ all rfl hT
/-- They stand in their order. -/
theorem itemsTsorted (size : Nat) (all : List (List UInt8)) : (itemsT size all).Pairwise ltF := by
  unfold itemsT
  rw [List.pairwise_map]
  refine List.Pairwise.imp ?_ List.pairwise_lt_range
  intro a b h
  rcases Nat.lt_or_ge (a / size) (b / size) with h1 | h1
  · exact .inl (Nat.succ_lt_succ h1)
  · refine .inr ⟨?_, by show 2 + a < 2 + b; omega⟩
    have h2 : a / size ≤ b / size := Nat.div_le_div_right (by omega)
    show a / size + 1 = b / size + 1
    omega
end Go.Proofs.YtnplhagfmfggcaaGreat.Lo
/-
  What stands on a list of sectors, where bodies were appended. No program.
-/
namespace Go.Proofs.YtnplhagfmfggcaaGreat.Lo
open Go.RowKit Kd Sx
section
variable {f : List UInt8 → List UInt8 → List UInt8}
theorem seen_set (hf : ∀ k l, (f k l).length = 16) {L : List (List UInt8)} {k g : Nat} {b : List UInt8} (hk : k < L.length) (h4 : k < 4096) (hb : b.length ≤ 103) (hg : g < 18446744073709551616) (j : Nat) :
    seenA f (L.set k (sealedS f k g b)) j = if j = k then some (g, b) else seenA f L j := by
  by_cases e : j = k
  · subst e
    have hm : mayS (j : Int) b = true := decide_eq_true ⟨by omega, by omega, hb⟩
    rw [if_pos rfl, seenA, List.getD_eq_getElem?_getD, List.getElem?_set_self hk, Option.getD_some, if_pos (ok_sealed hf hm hg), sealed_gen hf hg, sealed_body hf hb]
  · rw [if_neg e, seenA, seenA, List.getD_eq_getElem?_getD, List.getElem?_set_ne (by omega), ← List.getD_eq_getElem?_getD]
theorem seen_zero {n k : Nat} (h : okS f k zeroS = false) : seenA f (List.replicate n zeroS) k = none := by
  have e : (List.replicate n zeroS).getD k zeroS = zeroS := by
    rw [List.getD_eq_getElem?_getD, List.getElem?_replicate]; split <;> rfl
  rw [seenA, e, h]; rfl
theorem found_same {L : List (List UInt8)} {k : Nat} : foundAt f L L k = (seenA f L k).map fun p => (k, p.1, p.2) := by
  rw [foundAt, best_same, seenA]; split <;> rfl
theorem mem_base {L : List (List UInt8)} {k N : Nat} {p : Nat × List UInt8} (h : seenA f L k = some p) (h2 : 2 ≤ k) (hN : k < N) : (k, p.1, p.2) ∈ baseF f L L N := by
  rw [baseF, List.mem_filterMap]
  exact ⟨k - 2, List.mem_range.2 (by omega), by rw [Nat.sub_add_cancel h2, found_same, h]; rfl⟩
/-- T bodies stand there, one behind the other, and nothing else. -/
def hasT (f : List UInt8 → List UInt8 → List UInt8) (size M : Nat) (L : List (List UInt8)) (all : List (List UInt8)) : Prop :=
  ∀ i, i < M → seenA f L (i + 2) = if i < all.length then some (i / size + 1, all.getD i []) else none
theorem filter_range {β : Type} (g : Nat → β) {T M : Nat} (h : T ≤ M) : ((List.range M).filterMap fun i => if i < T then some (g i) else none) = (List.range T).map g := by
  induction M with
  | zero => obtain rfl : T = 0 := by omega
            rfl
  | succ M ih =>
    rw [List.range_succ, List.filterMap_append]
    by_cases e : T = M + 1
    · subst e
      rw [List.range_succ, List.map_append]
      congr 1
      · rw [← List.filterMap_eq_map]
        refine fm_congr fun i hi => ?_
        have hi := List.mem_range.1 hi
        rw [if_pos (by omega)]; rfl
      · rw [List.filterMap_cons, if_pos (Nat.lt_succ_self _)]; rfl
    · rw [ih (by omega), List.filterMap_cons, if_neg (by omega)]
      exact List.append_nil _
theorem base_T {size M : Nat} {L all : List (List UInt8)} (h : hasT f size M L all) (hT : all.length ≤ M) : baseF f L L (2 + M) = itemsT size all := by
  rw [baseF, itemsT, ← filter_range _ hT, show 2 + M - 2 = M by omega]
  refine fm_congr fun i hi => ?_
  rw [found_same, h i (List.mem_range.1 hi)]
  split
  · rw [Nat.add_comm i 2]; rfl
  · rfl
theorem hasTzero {size M n : Nat} (h : ∀ k, k < M + 2 → okS f k zeroS = false) : hasT f size M (List.replicate n zeroS) [] := fun i hi => by
  rw [seen_zero (h _ (by omega)), if_neg (by simp)]
theorem hasTsnoc (hf : ∀ k l, (f k l).length = 16) {size M : Nat} {L all : List (List UInt8)} (h : hasT f size M L all) {b : List UInt8} (hb : b.length ≤ 103) (hT : all.length < M) (hL : M + 2 ≤ L.length) (hM : M + 2 ≤ 4096) :
    hasT f size M (L.set (2 + all.length) (sealedS f ((2 + all.length : Nat) : Int) (all.length / size + 1) b)) (all ++ [b]) := fun i hi => by
  have hd : all.length / size ≤ all.length := Nat.div_le_self _ _
  rw [seen_set hf (by omega) (by omega) hb (by omega)]
  by_cases e : i = all.length
  · subst e
    rw [if_pos (by omega), if_pos (by simp)]
    simp
  · rw [if_neg (by omega), h i hi]
    by_cases h1 : i < all.length
    · rw [if_pos h1, if_pos (by simp; omega), List.getD_eq_getElem?_getD, List.getD_eq_getElem?_getD, List.getElem?_append_left h1]
    · rw [if_neg h1, if_neg (by simp; omega)]
end
/-! ### What is sorted -/
theorem ltFtrans {x y z : Nat × Nat × List UInt8} (h : ltF x y) (h' : ltF y z) : ltF x z := by unfold ltF at *; omega
theorem ltFirrefl {x : Nat × Nat × List UInt8} : ¬ltF x x := by unfold ltF; omega
/-- Of the same, in this order, there is one row. -/
theorem sorted_one {l r : List (Nat × Nat × List UInt8)} (hp : l.Perm r) (hl : l.Pairwise ltF) (hr : r.Pairwise ltF) : l = r := by
  induction l generalizing r with
  | nil => exact (List.Perm.nil_eq hp)
  | cons x l ih =>
    cases r with
    | nil => exact absurd hp.length_eq (by simp)
    | cons y r =>
      have hxy : x = y := by
        have h1 : x ∈ y :: r := hp.subset (List.mem_cons_self)
        have h2 : y ∈ x :: l := hp.symm.subset (List.mem_cons_self)
        rcases List.mem_cons.1 h1 with h1 | h1
        · exact h1
        · rcases List.mem_cons.1 h2 with h2 | h2
          · exact h2.symm
          · have h3 := (List.pairwise_cons.1 hr).1 x h1
            have h4 := (List.pairwise_cons.1 hl).1 y h2
            exact absurd (ltFtrans h3 h4) ltFirrefl
      subst hxy
      rw [ih (List.Perm.cons_inv hp) (List.pairwise_cons.1 hl).2 (List.pairwise_cons.1 hr).2]
end Go.Proofs.YtnplhagfmfggcaaGreat.Lo
/-
  A walk through a mirror, as it lies; the contract of a report's count; New, Report.
-/
namespace Go.Proofs.YtnplhagfmfggcaaGreat.Sc
open Go.RowKit Kd Mi
attribute [local go_sem ↓] Go.wp_at_zero Go.wp_at_succ
/-- A walk: its next place, and what the ones behind it counted as. -/
structure Wk where
  n : Nat
  r : Nat
  h : Nat
  l : Nat
def Wk.cells (x : Wk) (P : Option Addr) : Array Value := #[.pointer P, .int .i64 x.n, .int .i64 x.r, .int .i64 x.h, .int .i64 x.l]
def Wk.rep (x : Wk) : Array Value := #[.int .i64 x.r, .int .i64 x.h, .int .i64 x.l]
def Wk.add (x : Wk) (k : Int) : Wk := if k = 0 then { x with r := x.r + 1 } else if k = 1 then { x with h := x.h + 1 } else { x with l := x.l + 1 }
def Wk.zero : Wk := ⟨0, 0, 0, 0⟩
theorem but_cell {w : World} {q o : Nat} (v : Value) : But (fun y => y = q) w (w.setCell ⟨q, o, none⟩ v) := but_one v
theorem walk_set {w : World} {q : Nat} {cs cs' : Array Value} {t : TypeId} (h : Blk w q cs t) (j : Nat) (v : Value) (e : cs.setIfInBounds j v = cs') : Blk (w.setCell ⟨q, j, none⟩ v) q cs' t := by
  rw [← e]; exact heap_setCell_same _ _ _ _ _ _ h
end Go.Proofs.YtnplhagfmfggcaaGreat.Sc
/-
  The contracts of a walk's New, Report, Step.
-/
namespace Go.Proofs.YtnplhagfmfggcaaGreat.Sc
open Go.RowKit Kd Mi
attribute [local go_sem ↓] Go.wp_at_zero Go.wp_at_succ
section
variable {L : Laid} {P : Option Addr} {q : Nat} {w w' : World} {s : L.St × Wk} {F : Nat → Prop}
end
/-! ### New -/
/-! ### Report -/
/-! ### Step -/
section
variable {C : Duo} {G : Gd} {g q : Nat} {w : World} {F : Nat → Prop}
theorem heal_kind (s : Mr C) (n : Int) : (s.heal G n).1.2 = 0 → (s.heal G n).1.1 = 0 ∨ (s.heal G n).1.1 = 1 ∨ (s.heal G n).1.1 = 2 := by
  have ht : ∀ i k x, (s.healTo i k x).1.2 = 0 → (s.healTo i k x).1.1 = 0 ∨ (s.healTo i k x).1.1 = 1 ∨ (s.healTo i k x).1.1 = 2 := fun i k x => by
    unfold Mr.healTo; dsimp only; split
    · exact fun _ => .inr (.inl rfl)
    · exact fun _ => .inl rfl
  unfold Mr.heal
  split
  · split
    · split
      · split
        · split
          · exact fun _ => .inl rfl
          · exact ht _ _ _
        · exact ht _ _ _
      · split
        · exact ht _ _ _
        · exact fun _ => .inr (.inr rfl)
    · exact fun h => by cases h
  · exact fun h => by cases h
theorem heal_okk {s : Mr C} {k : Nat} (h : s.ok k) (n : Int) : (s.heal G n).2.ok k := by
  unfold Mr.heal
  (repeat' split) <;> first | exact h | exact mend_ok h
theorem heal_most (s : Mr C) (n : Int) : C.most (s.heal G n).2.d ≤ C.most s.d + 1 := by
  unfold Mr.heal
  (repeat' split) <;> first | exact Nat.le_succ _ | exact mend_most (by omega)
/-- A step of a walk: what it counts. -/
def Wk.step (x : Wk) (r : Int × Int) : Wk := if r.2 = 0 then ({ x with n := x.n + 1 } : Wk).add r.1 else { x with n := x.n + 1 }
/-- What Step tells, and makes of both. -/
def stepN (G : Gd) (s : Mr C × Wk) : (Int × Bool) × (Mr C × Wk) :=
  if s.1.a.length ≤ s.2.n then ((0, false), s) else ((s.2.n, true), ((s.1.heal G s.2.n).2, s.2.step (s.1.heal G s.2.n).1))
def Wk.small (x : Wk) : Prop := x.n < 100000 ∧ x.r < 100000 ∧ x.h < 100000 ∧ x.l < 100000
def tupS (x : Int × Bool) : Value := .tuple #[.int .i64 x.1, .bool x.2]
end
end Go.Proofs.YtnplhagfmfggcaaGreat.Sc
/-
  The contract of All.
-/
namespace Go.Proofs.YtnplhagfmfggcaaGreat.Sc
open Go.RowKit Kd Mi
attribute [local go_sem ↓] Go.wp_at_zero Go.wp_at_succ
section
variable {C : Duo} {G : Gd} {g q : Nat} {w : World} {F : Nat → Prop}
/-- k steps. -/
def runN (G : Gd) (s : Mr C × Wk) : Nat → Mr C × Wk
  | 0 => s
  | k + 1 => (stepN G (runN G s k)).2
theorem step_okk {s : Mr C × Wk} {n : Nat} (h : s.1.ok n) : (stepN G s).2.1.ok n := by
  unfold stepN; split
  · exact h
  · exact heal_okk h _
theorem run_okk {s : Mr C × Wk} {n : Nat} (h : s.1.ok n) : ∀ k, (runN G s k).1.ok n
  | 0 => h
  | k + 1 => step_okk (run_okk h k)
theorem step_most (s : Mr C × Wk) : C.most (stepN G s).2.1.d ≤ C.most s.1.d + 1 := by
  unfold stepN; split
  · exact Nat.le_succ _
  · exact heal_most _ _
theorem run_most (s : Mr C × Wk) : ∀ k, C.most (runN G s k).1.d ≤ C.most s.1.d + k
  | 0 => Nat.le_refl _
  | k + 1 => by have h1 := run_most s k; have h2 := step_most (G := G) (runN G s k); show C.most (stepN G (runN G s k)).2.1.d ≤ _; omega
theorem add_few (x : Wk) (r : Int) {k : Nat} (h : x.n ≤ k + 1 ∧ x.r ≤ k ∧ x.h ≤ k ∧ x.l ≤ k) : (x.add r).n ≤ k + 1 ∧ (x.add r).r ≤ k + 1 ∧ (x.add r).h ≤ k + 1 ∧ (x.add r).l ≤ k + 1 := by
  unfold Wk.add; split
  · exact ⟨h.1, by show x.r + 1 ≤ _; omega, by show x.h ≤ _; omega, by show x.l ≤ _; omega⟩
  · split
    · exact ⟨h.1, by show x.r ≤ _; omega, by show x.h + 1 ≤ _; omega, by show x.l ≤ _; omega⟩
    · exact ⟨h.1, by show x.r ≤ _; omega, by show x.h ≤ _; omega, by show x.l + 1 ≤ _; omega⟩
theorem step_few (s : Mr C × Wk) {k : Nat} (h : s.2.n ≤ k ∧ s.2.r ≤ k ∧ s.2.h ≤ k ∧ s.2.l ≤ k) : (stepN G s).2.2.n ≤ k + 1 ∧ (stepN G s).2.2.r ≤ k + 1 ∧ (stepN G s).2.2.h ≤ k + 1 ∧ (stepN G s).2.2.l ≤ k + 1 := by
  unfold stepN; split
  · exact ⟨by show s.2.n ≤ _; omega, by show s.2.r ≤ _; omega, by show s.2.h ≤ _; omega, by show s.2.l ≤ _; omega⟩
  · show (s.2.step _).n ≤ _ ∧ (s.2.step _).r ≤ _ ∧ (s.2.step _).h ≤ _ ∧ (s.2.step _).l ≤ _
    unfold Wk.step; split
    · exact add_few _ _ ⟨by show s.2.n + 1 ≤ _; omega, h.2⟩
    · exact ⟨by show s.2.n + 1 ≤ _; omega, by show s.2.r ≤ _; omega, by show s.2.h ≤ _; omega, by show s.2.l ≤ _; omega⟩
theorem run_few (s : Mr C) : ∀ k, (runN G (s, Wk.zero) k).2.n ≤ k ∧ (runN G (s, Wk.zero) k).2.r ≤ k ∧ (runN G (s, Wk.zero) k).2.h ≤ k ∧ (runN G (s, Wk.zero) k).2.l ≤ k
  | 0 => ⟨Nat.le_refl _, Nat.le_refl _, Nat.le_refl _, Nat.le_refl _⟩
  | k + 1 => step_few _ (run_few s k)
/-- What All makes of a mirror, and tells. -/
def allN (G : Gd) (s : Mr C) (n : Nat) : Mr C × Wk := runN G (s, Wk.zero) n
end
end Go.Proofs.YtnplhagfmfggcaaGreat.Sc
/-
  Scrubbing, of a mirror as the document tells of it: what each place counts as, what both devices have then. No program.
-/
namespace Go.Proofs.YtnplhagfmfggcaaGreat.Sc
open Kd Mi
def mdStep (f : Int → List UInt8 → Bool) (s : Md × Wk) : (Int × Bool) × (Md × Wk) :=
  if s.1.a.length ≤ s.2.n then ((0, false), s) else (((s.2.n : Int), true), ((s.1.heal f s.2.n).2, s.2.step (s.1.heal f s.2.n).1))
def mdRun (f : Int → List UInt8 → Bool) (s : Md × Wk) : Nat → Md × Wk
  | 0 => s
  | k + 1 => (mdStep f (mdRun f s k)).2
section
variable {pw g1 g2 : Nat} {s : Mr (Mu.one pw g1 g2)} {x : Md} {y : Wk} {m : Nat} {G : Gd}
theorem sees_step (h : Mu.Sees s x m) (hd : Mu.Dry s x) (y : Wk) : (stepN G (s, y)).1 = (mdStep G.f (x, y)).1 ∧ (stepN G (s, y)).2.2 = (mdStep G.f (x, y)).2.2 ∧ Mu.Sees (stepN G (s, y)).2.1 (mdStep G.f (x, y)).2.1 (m + 1) ∧ Mu.Dry (stepN G (s, y)).2.1 (mdStep G.f (x, y)).2.1 := by
  unfold stepN mdStep
  rw [show s.a = x.a from h.a]
  split
  · exact ⟨rfl, rfl, h.more (Nat.le_succ _), hd⟩
  · obtain ⟨h1, h2⟩ := h.heal (G := G) (y.n : Int)
    exact ⟨rfl, by show y.step _ = y.step _; rw [h1], h2, hd.heal h _⟩
theorem sees_run (h : Mu.Sees s x m) (hd : Mu.Dry s x) (y : Wk) : ∀ k, (runN G (s, y) k).2 = (mdRun G.f (x, y) k).2 ∧ Mu.Sees (runN G (s, y) k).1 (mdRun G.f (x, y) k).1 (m + k) ∧ Mu.Dry (runN G (s, y) k).1 (mdRun G.f (x, y) k).1
  | 0 => ⟨rfl, h, hd⟩
  | k + 1 => by
    obtain ⟨h1, h2, h3⟩ := sees_run h hd y k
    obtain ⟨h4, h5, h6, h7⟩ := sees_step (G := G) h2 h3 (runN G (s, y) k).2
    refine ⟨?_, ?_, ?_⟩
    · show (stepN G (runN G (s, y) k)).2.2 = (mdStep G.f (mdRun G.f (x, y) k)).2.2
      rw [show mdRun G.f (x, y) k = ((mdRun G.f (x, y) k).1, (runN G (s, y) k).2) by rw [h1]]
      exact h5
    · show Mu.Sees (stepN G (runN G (s, y) k)).2.1 (mdStep G.f (mdRun G.f (x, y) k)).2.1 _
      rw [show mdRun G.f (x, y) k = ((mdRun G.f (x, y) k).1, (runN G (s, y) k).2) by rw [h1]]
      exact h6
    · show Mu.Dry (stepN G (runN G (s, y) k)).2.1 (mdStep G.f (mdRun G.f (x, y) k)).2.1
      rw [show mdRun G.f (x, y) k = ((mdRun G.f (x, y) k).1, (runN G (s, y) k).2) by rw [h1]]
      exact h7
end
/-! ### Two devices that are there, nothing of which is stale -/
structure Fresh (x : Md) (n : Nat) : Prop where
  o0 : x.o0 = false
  o1 : x.o1 = false
  n0 : x.l0.length = n
  n1 : x.l1.length = n
  a : x.a = List.replicate n false
  b : x.b = List.replicate n false
variable {f : Int → List UInt8 → Bool} {x : Md} {n k : Nat}
/-- What a place counts as. -/
def ck (f : Int → List UInt8 → Bool) (k : Nat) (u v : List UInt8) : Int := if !(f k u) && !(f k v) then 2 else if f k u && (f k v && decide (u = v)) then 0 else 1
/-- What both have then. -/
def hl0 (f : Int → List UInt8 → Bool) (k : Nat) (u v : List UInt8) : List UInt8 := if f k u then u else if f k v then v else u
def hl1 (f : Int → List UInt8 → Bool) (k : Nat) (u v : List UInt8) : List UInt8 := if f k u then u else v
theorem rep_getD {n k : Nat} : (List.replicate n false).getD k false = false := by
  rw [List.getD_eq_getElem?_getD, List.getElem?_replicate]; split <;> rfl
theorem rep_set {n k : Nat} : (List.replicate n false).set k false = List.replicate n false := by simp
theorem Fresh.right (h : Fresh x n) (i : Nat) (k : Nat) : x.right f i k = f k ((x.l i).getD k zeroS) := by
  have h1 : (x.st i).getD k false = false := by
    unfold Md.st; split
    · rw [h.a]; exact rep_getD
    · rw [h.b]; exact rep_getD
  have h2 : x.o i = false := by unfold Md.o; split; exact h.o0; exact h.o1
  rw [Md.right, h1, h2]; rfl
theorem Fresh.mend (h : Fresh x n) (i k : Nat) (y : List UInt8) : Fresh (x.mend i k y) n ∧ x.mend i k y = x.setL i k y := by
  unfold Md.mend Md.put Md.setL
  split
  · rename_i hi
    subst hi
    refine ⟨⟨h.o0, h.o1, by simpa using h.n0, h.n1, by show x.a.set k false = _; rw [h.a, rep_set], h.b⟩, ?_⟩
    show ({ l0 := x.l0.set k y, l1 := x.l1, o0 := x.o0, o1 := x.o1, a := x.a.set k false, b := x.b } : Md) = _
    rw [h.a, rep_set]
  · rename_i hi
    refine ⟨⟨h.o0, h.o1, h.n0, by simpa using h.n1, h.a, by show x.b.set k false = _; rw [h.b, rep_set]⟩, ?_⟩
    show ({ l0 := x.l0, l1 := x.l1.set k y, o0 := x.o0, o1 := x.o1, a := x.a, b := x.b.set k false } : Md) = _
    rw [h.b, rep_set]
theorem Fresh.len (h : Fresh x n) : x.a.length = n := by rw [h.a, List.length_replicate]
theorem Fresh.has (h : Fresh x n) (hk : k < n) : x.has (k : Int) = true := by rw [Md.has, h.len]; simp; omega
theorem Fresh.heal (h : Fresh x n) (hk : k < n) : (x.heal f k).1 = (ck f k (x.l0.getD k zeroS) (x.l1.getD k zeroS), 0) ∧ Fresh (x.heal f k).2 n ∧
    (x.heal f k).2.l0 = x.l0.set k (hl0 f k (x.l0.getD k zeroS) (x.l1.getD k zeroS)) ∧ (x.heal f k).2.l1 = x.l1.set k (hl1 f k (x.l0.getD k zeroS) (x.l1.getD k zeroS)) := by
  have r0 : x.right f 0 k = f k (x.l0.getD k zeroS) := h.right 0 k
  have r1 : x.right f 1 k = f k (x.l1.getD k zeroS) := h.right 1 k
  rw [Md.heal, h.has hk, if_pos rfl, if_neg (by rw [h.o0, h.o1]; simp), Int.toNat_natCast, r0, r1]
  unfold ck hl0 hl1
  have e0 : x.l0.set k (x.l0.getD k zeroS) = x.l0 := list_set_self _ _ _
  have e1 : x.l1.set k (x.l1.getD k zeroS) = x.l1 := list_set_self _ _ _
  cases f0 : f k (x.l0.getD k zeroS) with
  | true =>
    simp only [if_true, Bool.not_true, Bool.false_and, Bool.false_eq_true, if_false, Bool.true_and]
    cases f1 : f k (x.l1.getD k zeroS) with
    | true =>
      simp only [Bool.true_and, decide_eq_true_eq]
      by_cases he : x.l0.getD k zeroS = x.l1.getD k zeroS
      · rw [if_pos he, if_pos he]
        exact ⟨rfl, h, e0.symm, by rw [he]; exact e1.symm⟩
      · rw [if_neg he, if_neg he]
        obtain ⟨h1, h2⟩ := h.mend 1 k (x.l0.getD k zeroS)
        exact ⟨rfl, h1, by rw [h2]; exact e0.symm, by rw [h2]; rfl⟩
    | false =>
      simp only [Bool.false_and, Bool.false_eq_true, if_false]
      obtain ⟨h1, h2⟩ := h.mend 1 k (x.l0.getD k zeroS)
      exact ⟨trivial, h1, by rw [h2]; exact e0.symm, by rw [h2]; rfl⟩
  | false =>
    simp only [Bool.false_eq_true, if_false, Bool.not_false, Bool.true_and, Bool.false_and]
    cases f1 : f k (x.l1.getD k zeroS) with
    | true =>
      simp only [if_true, Bool.not_true, Bool.false_eq_true, if_false]
      obtain ⟨h1, h2⟩ := h.mend 0 k (x.l1.getD k zeroS)
      exact ⟨trivial, h1, by rw [h2]; rfl, by rw [h2]; exact e1.symm⟩
    | false =>
      simp only [Bool.false_eq_true, if_false, Bool.not_false, if_true]
      exact ⟨trivial, h, e0.symm, e1.symm⟩
/-- What the first k places count as. -/
def cntK (f : Int → List UInt8 → Bool) (l0 l1 : List (List UInt8)) : Nat → Wk
  | 0 => Wk.zero
  | k + 1 => (cntK f l0 l1 k).step (ck f k (l0.getD k zeroS) (l1.getD k zeroS), 0)
theorem cntK_n (f : Int → List UInt8 → Bool) (l0 l1 : List (List UInt8)) : ∀ k, (cntK f l0 l1 k).n = k
  | 0 => rfl
  | k + 1 => by
    rw [cntK, Wk.step, if_pos rfl, Wk.add]
    have h := cntK_n f l0 l1 k
    split
    · show (cntK f l0 l1 k).n + 1 = _; rw [h]
    · split
      · show (cntK f l0 l1 k).n + 1 = _; rw [h]
      · show (cntK f l0 l1 k).n + 1 = _; rw [h]
/-- What k steps make of it. -/
theorem Fresh.run (h : Fresh x n) : ∀ k, k ≤ n → Fresh (mdRun f (x, Wk.zero) k).1 n ∧ (mdRun f (x, Wk.zero) k).2 = cntK f x.l0 x.l1 k ∧
    (∀ j, j < n → (mdRun f (x, Wk.zero) k).1.l0.getD j zeroS = if j < k then hl0 f j (x.l0.getD j zeroS) (x.l1.getD j zeroS) else x.l0.getD j zeroS) ∧
    (∀ j, j < n → (mdRun f (x, Wk.zero) k).1.l1.getD j zeroS = if j < k then hl1 f j (x.l0.getD j zeroS) (x.l1.getD j zeroS) else x.l1.getD j zeroS)
  | 0, _ => ⟨h, rfl, fun j _ => by rw [if_neg (by omega)]; rfl, fun j _ => by rw [if_neg (by omega)]; rfl⟩
  | k + 1, hk => by
    obtain ⟨h1, h2, h3, h4⟩ := h.run k (by omega)
    have hn : (mdRun f (x, Wk.zero) k).2.n = k := by rw [h2, cntK_n]
    have hs : mdRun f (x, Wk.zero) (k + 1) = (((mdRun f (x, Wk.zero) k).1.heal f k).2, (cntK f x.l0 x.l1 k).step ((mdRun f (x, Wk.zero) k).1.heal f k).1) := by
      show (mdStep f (mdRun f (x, Wk.zero) k)).2 = _
      unfold mdStep
      rw [if_neg (by rw [h1.len, hn]; omega), hn, h2]
    obtain ⟨h5, h6, h7, h8⟩ := h1.heal (f := f) (k := k) (by omega)
    have q0 := h3 k (by omega)
    have q1 := h4 k (by omega)
    rw [if_neg (by omega)] at q0 q1
    rw [q0, q1] at h5 h7 h8
    rw [hs]
    refine ⟨h6, by show (cntK f x.l0 x.l1 k).step _ = _; rw [h5]; rfl, fun j hj => ?_, fun j hj => ?_⟩
    · show ((mdRun f (x, Wk.zero) k).1.heal f k).2.l0.getD j zeroS = _
      rw [h7, set_getD _ _ _ _ (by rw [h1.n0]; exact hj)]
      by_cases e : k = j
      · subst e; rw [if_pos rfl, if_pos (by omega)]
      · rw [if_neg e, h3 j hj]
        by_cases hjk : j < k
        · rw [if_pos hjk, if_pos (by omega)]
        · rw [if_neg hjk, if_neg (by omega)]
    · show ((mdRun f (x, Wk.zero) k).1.heal f k).2.l1.getD j zeroS = _
      rw [h8, set_getD _ _ _ _ (by rw [h1.n1]; exact hj)]
      by_cases e : k = j
      · subst e; rw [if_pos rfl, if_pos (by omega)]
      · rw [if_neg e, h4 j hj]
        by_cases hjk : j < k
        · rw [if_pos hjk, if_pos (by omega)]
        · rw [if_neg hjk, if_neg (by omega)]
end Go.Proofs.YtnplhagfmfggcaaGreat.Sc
/-
  The mirror that pair makes, as the document tells of it; with a device that is out nothing counts. No program.
-/
namespace Go.Proofs.YtnplhagfmfggcaaGreat.Sc
open Kd Mi
def startM (L0 L1 : List (List UInt8)) (k : Nat) : Md := ⟨L0, L1, false, false, List.replicate k false, List.replicate k false⟩
theorem start_fresh {L0 L1 : List (List UInt8)} {k : Nat} (h0 : L0.length = k) (h1 : L1.length = k) : Fresh (startM L0 L1 k) k := ⟨rfl, rfl, h0, h1, rfl, rfl⟩
theorem start_len {L0 L1 : List (List UInt8)} {k : Nat} : (startM L0 L1 k).a.length = k := List.length_replicate
variable {f : Int → List UInt8 → Bool} {x : Md}
theorem down_heal (hd : (x.o0 || x.o1) = true) {n : Nat} (hn : n < x.a.length) : x.heal f n = ((0, 13), x) := by
  rw [Md.heal, show x.has (n : Int) = true by rw [Md.has]; simp; omega, if_pos rfl, if_pos hd]
theorem down_step (hd : (x.o0 || x.o1) = true) {n : Nat} (hn : n < x.a.length) : mdStep f (x, ⟨n, 0, 0, 0⟩) = (((n : Int), true), (x, ⟨n + 1, 0, 0, 0⟩)) := by
  rw [mdStep, if_neg (by show ¬ x.a.length ≤ n; omega)]
  show (((n : Int), true), ((x.heal f n).2, Wk.step ⟨n, 0, 0, 0⟩ (x.heal f n).1)) = _
  rw [down_heal hd hn, Wk.step, if_neg (show ¬ ((13 : Int) = 0) by decide)]
theorem down_run (hd : (x.o0 || x.o1) = true) : ∀ k, k ≤ x.a.length → mdRun f (x, Wk.zero) k = (x, ⟨k, 0, 0, 0⟩)
  | 0, _ => rfl
  | k + 1, hk => by rw [mdRun, down_run hd k (by omega), down_step hd (by omega)]
end Go.Proofs.YtnplhagfmfggcaaGreat.Sc
/-
  The contract of sector.Good, and of the function that it answers.
-/
namespace Go.Proofs.YtnplhagfmfggcaaGreat.Sx
open Go.RowKit Kd
attribute [local go_sem ↓] Go.wp_at_zero Go.wp_at_succ
/-- Good tells a function that keeps the cipher in a box of its own. -/
theorem good_iface (T : TypeId) (x : Value) (w : World) : Calls Tryz.prog 14 #[.iface T x] w (fun e w' => e = .returned (.func (.func 42) #[] #[.pointer (some ⟨w.heap.size, 0, none⟩)]) ∧ w' = w.alloc (.cells #[.iface T x] 84)) := by
  go_enter Tryz.func14, Tryz.ntmps14
  go_wp2_with fail
  go_ret
  exact ⟨rfl, rfl⟩
theorem good_nil (w : World) : Calls Tryz.prog 14 #[.nilIface] w (fun e w' => e = .returned (.func (.func 42) #[] #[.pointer (some ⟨w.heap.size, 0, none⟩)]) ∧ w' = w.alloc (.cells #[.nilIface] 84)) := by
  go_enter Tryz.func14, Tryz.ntmps14
  go_wp2_with fail
  go_ret
  exact ⟨rfl, rfl⟩
set_option maxRecDepth 100000 in
set_option maxHeartbeats 3200000 in
theorem goodf_any (v : Value) (ok : Bool) (n : Int) (x : List UInt8) (hx : x.length = 128) (b : Nat) (w : World) (hb : Blk w b #[v] 84) (g : Nat) (l : List UInt8)
    (hU : ∀ W, Calls Tryz.prog 43 #[v, .int .i64 n, .agg (bva x)] W (RetU g l ok W)) :
    Calls Tryz.prog 42 #[.int .i64 n, .agg (bva x), .pointer (some ⟨b, 0, none⟩)] w (RetB (.bool ok) w) := by
  obtain ⟨w2, hw2⟩ : ∃ w2, w2 = w.alloc (.cells (bva x) 101) := ⟨_, rfl⟩
  have B1 := Lib.hid (show Blk w2 w.heap.size (bva x) 101 from by rw [hw2]; exact heap_alloc_new _ _)
  have hbb : Below w.heap.size w w2 := by rw [hw2]; exact (Below.refl _ _).alloc (Nat.le_refl _) _
  have BB := Lib.hid hbb
  have c0 : (w.alloc (.cells (bva x) 101)).cell? ⟨b, 0, none⟩ = some v := by rw [← hw2]; exact (hb.below hbb).cell 0
  have HIX : Hid ((Tryz.prog.info? 101).map (·.size) = some (bva x).size) := by rw [bva_size, hx]; exact info_sec
  have HU := Lib.hid hU
  clear hU hb hbb hx
  go_enter Tryz.func42, Tryz.ntmps42
  go_wp2_with (refine wpList_load_row rfl 101 (.tmp 4) rfl w.heap.size rfl 101 (bva x) (0, 0) _ ?hg Tryz.underlying101 rfl HIX.out ?_; case hg => (rw [← hw2]; exact B1.out))
  rw [← hw2]
  clear hw2 c0
  refine (HU.out w2).mono ?_
  rintro e w3 ⟨A, k, c, rfl, _, hb3⟩
  have CB := Lib.hid (BB.out.trans (hb3.mono BB.out.size))
  clear hb3 BB B1
  go_wp2_with fail
  go_ret
  exact ⟨rfl, CB.out⟩
theorem goodf_enter (args : Array Value) (W : World) : (callFunc 42 args).run Tryz.prog W = .ok (.enter 42 args) W := by kernel_rfl
end Go.Proofs.YtnplhagfmfggcaaGreat.Sx
/-
  Good by a cipher, as a function that a mirror is handed.
-/
namespace Go.Proofs.YtnplhagfmfggcaaGreat.Sx
open Go.RowKit Kd
set_option maxRecDepth 100000 in
/-- Good by a cipher, in a box b. -/
def gdS (ci : SCiph) (b : Nat) : Mi.Gd where
  k := some 42
  c := #[.pointer (some ⟨b, 0, none⟩)]
  l := [(b, #[ci.v], 84)]
  ty := by
    intro x hx
    rw [List.mem_singleton] at hx
    subst hx
    exact ⟨show 84 ≠ 4 by decide, show 84 ≠ 96 by decide⟩
  f := fun n x => okS ci.f n x
  R _ _ _ _ _ _ := True
  none_ h := by cases h
  enter k' h args W := by injection h with h; subst h; exact goodf_enter args W
  call k' h w n x hl hx := by
    injection h with h; subst h
    exact goodf_any ci.v _ n x hx b w (hl _ (List.mem_singleton.2 rfl)) _ _ (fun W => unpack_any ci n x hx W)
end Go.Proofs.YtnplhagfmfggcaaGreat.Sx
/-
  A log over a mirror, as the document tells of it, as it is laid: what its methods tell, and make of it.
-/
namespace Go.Proofs.YtnplhagfmfggcaaGreat.Lo
open Go.RowKit Kd Mi Sx Sg
/-- A log, and the mirror that it has, as they are laid. -/
def LogL (C : Duo) (G : Gd) (g q : Nat) (ci : SCiph) : Laid where
  St := Mr C × Lg
  At w x F := (LogR C G g q ci).At w (x.1, rlOf x.2) F
  but := fun h hb hd => (LogR C G g q ci).but h hb hd
  lt := fun h => (LogR C G g q ci).lt h
section
variable {C : Duo} {G : Gd} {g q : Nat} {ci : SCiph} {w w' : World} {s s' : Mr C} {l l' : Lg} {F F' : Nat → Prop} {v : Value} {e : Ending}
theorem logl_mv (h : Mv (LogR C G g q ci) w F w' (s', rlOf l') F') : Mv (LogL C G g q ci) w F w' (s', l') F' := ⟨h.at_, h.new, h.but⟩
theorem logl_ret (h : RetA (LogR C G g q ci) v (s', rlOf l') F w e w') : RetA (LogL C G g q ci) v (s', l') F w e w' := by
  obtain ⟨rfl, F', h⟩ := h
  exact ⟨rfl, F', logl_mv h⟩
theorem logl_own (h : (LogL C G g q ci).At w (s, l) F) : ∃ bm, RlO g q bm ci w (rlOf l) := logr_own h
/-- What Append tells, and makes of it. -/
def apnd (ci : SCiph) (s : Mr C) (l : Lg) (b : List UInt8) : (Int × Int) × Mr C × Lg :=
  if 103 < b.length then ((0, 3), s, l) else match l.next with
    | none => ((0, 6), s, l)
    | some p => if (s.write (l.at_ p : Int) (sealedS ci.f (l.at_ p : Int) p.2.2 b)).1 = 0 then (((l.at_ p : Int), 0), (s.write (l.at_ p : Int) (sealedS ci.f (l.at_ p : Int) p.2.2 b)).2, l.put p)
        else ((0, (s.write (l.at_ p : Int) (sealedS ci.f (l.at_ p : Int) p.2.2 b)).1), (s.write (l.at_ p : Int) (sealedS ci.f (l.at_ p : Int) p.2.2 b)).2, l)
theorem apnd_eq (hf : l.Fine) (h0 : 0 < l.size) (b : List UInt8) : apR ci s (rlOf l) b = ((apnd ci s l b).1, (apnd ci s l b).2.1, rlOf (apnd ci s l b).2.2) := by
  unfold apR apnd
  by_cases hb : 103 < b.length
  · rw [if_pos hb, if_pos hb]
  · rw [if_neg hb, if_neg hb, rl_next hf]
    cases hn : l.next with
    | none => rfl
    | some p =>
      have hp := (Lg.next_lt hf hn h0).2.2
      have ha : (rlOf l).at_ (p.1 : Int) (p.2.1 : Int) = (l.at_ p : Int) := by
        show 2 + (p.1 : Int) * (l.size : Int) + (p.2.1 : Int) = ((2 + p.1 * l.size + p.2.1 : Nat) : Int)
        push_cast; rfl
      simp only [ha]
      rw [if_neg (by simp)]
      split
      · rw [rl_put l (by omega)]
      · rfl
theorem append_any (h : (LogL C G g q ci).At w (s, l) F) (hf : l.Fine) {k : Nat} (hk : s.ok k) (hm : C.most s.d < 900000) (hl : l.last < 1000000) (A : Option Addr) (n c : Nat) (b : List UInt8) (hb : b.length = n) (hr : Rd w.heap.size w A (bv b)) :
    Calls Tryz.prog 17 #[.pointer (some ⟨q, 0, none⟩), .slice A n c] w (RetA (LogL C G g q ci) (.tuple #[.int .i64 (apnd ci s l b).1.1, .int .i64 (apnd ci s l b).1.2]) (apnd ci s l b).2 F w) := by
  obtain ⟨bm, ho⟩ := logl_own h
  have h0 : 0 < l.size := by have := ho.ok.small.2.2.2; exact this
  have hc := append_raw (A := A) (n := n) (c := c) h hk hm (show l.last < _ by omega) hb hr
  rw [apnd_eq hf h0] at hc
  exact hc.mono fun _ _ hr => logl_ret hr
theorem lflush_any (h : (LogL C G g q ci).At w (s, l) F) : Calls Tryz.prog 25 #[.pointer (some ⟨q, 0, none⟩)] w (RetA (LogL C G g q ci) (.int .i64 s.flush.1) (s.flush.2, l) F w) :=
  (rflush_any h).mono fun _ _ hr => logl_ret hr
theorem lgen_any (h : (LogL C G g q ci).At w (s, l) F) {k : Int} (h1 : -9223372036854775808 ≤ k) (h2 : k ≤ 9223372036854775807) :
    Calls Tryz.prog 19 #[.pointer (some ⟨q, 0, none⟩), .int .i64 k] w (RetB (.int .u64 (if 0 ≤ k then ((l.gens.getD k.toNat 0 : Nat) : Int) else 0)) w) := by
  obtain ⟨bm, ho⟩ := logl_own h
  have hc := gen_any ho h1 h2
  rw [rl_gen] at hc
  rwa [show (((if 0 ≤ k then l.gens.getD k.toNat 0 else 0 : Nat)) : Int) = if 0 ≤ k then ((l.gens.getD k.toNat 0 : Nat) : Int) else 0 by split <;> rfl] at hc
theorem lfreeE (l : Lg) (k : Int) : (rlOf l).freeE k = l.freeE k := by
  unfold Rl.freeE Lg.freeE
  rw [rl_used]
  show (if k < 0 ∨ (l.gens.length : Int) ≤ k then _ else _) = _
  by_cases h : k < 0 ∨ (l.gens.length : Int) ≤ k
  · rw [if_pos h, if_pos h]
  · rw [if_neg h, if_neg h]
    by_cases h0 : l.gens.getD k.toNat 0 = 0
    · rw [if_pos (decide_eq_false (fun h => h.2 h0)), if_pos h0]
    · rw [if_neg (fun h => of_decide_eq_false h ⟨by omega, h0⟩), if_neg h0]
      show (if k = l.headI then _ else _) = _
      by_cases e : k = l.headI
      · rw [if_pos e, if_pos e.symm]
      · rw [if_neg e, if_neg (fun h => e h.symm)]
theorem lfree_any (h : (LogL C G g q ci).At w (s, l) F) {k : Int} (h1 : -9223372036854775808 ≤ k) (h2 : k ≤ 9223372036854775807) :
    Calls Tryz.prog 24 #[.pointer (some ⟨q, 0, none⟩), .int .i64 k] w (RetA (LogL C G g q ci) (.int .i64 (l.freeE k)) (s, if l.freeE k = 0 then l.free k.toNat else l) F w) := by
  obtain ⟨bm, ho, _, _, hst⟩ := logr_step h
  refine (free_own ho h1 h2).mono ?_
  rintro e w' ⟨rfl, ho', hb⟩
  rw [lfreeE] at ho'
  obtain ⟨F', hm⟩ := hst ho' hb
  refine ⟨by rw [lfreeE], F', logl_mv ?_⟩
  split
  · rename_i h0
    rw [if_pos h0] at hm
    rw [rl_freeSeg]; exact hm
  · rename_i h0
    rw [if_neg h0] at hm
    exact hm
theorem lhead_any (h : (LogL C G g q ci).At w (s, l) F) : Calls Tryz.prog 16 #[.pointer (some ⟨q, 0, none⟩)] w (RetB (.tuple #[.int .i64 l.headI, .int .i64 l.slotI]) w) := by
  obtain ⟨bm, ho⟩ := logl_own h
  exact head_any ho
theorem lroom_any (h : (LogL C G g q ci).At w (s, l) F) (hf : l.Fine) : Calls Tryz.prog 15 #[.pointer (some ⟨q, 0, none⟩)] w (RetB (.int .i64 (l.room : Int)) w) := by
  obtain ⟨bm, ho⟩ := logl_own h
  have hc := room_any ho
  rwa [rl_room hf] at hc
/-- What Read tells: the body, and the error. -/
def readL (ci : SCiph) (G : Gd) (s : Mr C) (l : Lg) (k : Int) : List UInt8 × Int :=
  if 2 ≤ k ∧ k < 2 + (l.gens.length : Int) * l.size ∧ l.gens.getD ((k.toNat - 2) / l.size) 0 ≠ 0 then
    (if (readM C G s k).2 = 0 then (if okS ci.f k (readM C G s k).1 = true ∧ genS (readM C G s k).1 = l.gens.getD ((k.toNat - 2) / l.size) 0 then (bodyS (readM C G s k).1, 0) else ([], 9)) else ([], (readM C G s k).2))
  else ([], 2)
theorem readL_eq (k : Int) : rdR ci G s (rlOf l) k = readL ci G s l k := by
  unfold rdR readL
  rw [rl_used, rl_gen]
  show (if (2 ≤ k ∧ k < 2 + (l.gens.length : Int) * (l.size : Int)) ∧ decide (0 ≤ (k - 2) / (l.size : Int) ∧ l.gens.getD ((k - 2) / (l.size : Int)).toNat 0 ≠ 0) = true then _ else _) = _
  by_cases hk : 2 ≤ k ∧ k < 2 + (l.gens.length : Int) * (l.size : Int)
  · have e1 : (k - 2) / (l.size : Int) = (((k.toNat - 2) / l.size : Nat) : Int) := by
      have : k - 2 = ((k.toNat - 2 : Nat) : Int) := by omega
      rw [this]; rfl
    have e2 : 0 ≤ (k - 2) / (l.size : Int) := by rw [e1]; exact Int.natCast_nonneg _
    have e3 : ((k - 2) / (l.size : Int)).toNat = (k.toNat - 2) / l.size := by rw [e1]; exact Int.toNat_natCast _
    have e4 : genG (rlOf l).gens ((k - 2) / (l.size : Int)) = l.gens.getD ((k.toNat - 2) / l.size) 0 := by rw [rl_gen, if_pos e2, e3]
    have e5 : (if 0 ≤ (k - 2) / ((rlOf l).size : Int) then l.gens.getD ((k - 2) / ((rlOf l).size : Int)).toNat 0 else 0) = l.gens.getD ((k.toNat - 2) / l.size) 0 := by
      show (if 0 ≤ (k - 2) / (l.size : Int) then l.gens.getD ((k - 2) / (l.size : Int)).toNat 0 else 0) = _
      rw [if_pos e2, e3]
    rw [e5, e3]
    by_cases h0 : l.gens.getD ((k.toNat - 2) / l.size) 0 ≠ 0
    · exact (if_pos ⟨hk, decide_eq_true ⟨e2, h0⟩⟩).trans (if_pos ⟨hk.1, hk.2, h0⟩).symm
    · exact (if_neg (fun h => h0 (of_decide_eq_true h.2).2)).trans (if_neg (fun h => h0 h.2.2)).symm
  · rw [if_neg (fun h => hk h.1), if_neg (fun h => hk ⟨h.1, h.2.1⟩)]
theorem lread_any (h : (LogL C G g q ci).At w (s, l) F) (hab : s.b.length = s.a.length) (k : Int) :
    Calls Tryz.prog 18 #[.pointer (some ⟨q, 0, none⟩), .int .i64 k] w (RetN (LogL C G g q ci) (s, l) (readL ci G s l k).1 (readL ci G s l k).2 F w) := by
  have hc := read_raw h hab k
  rw [readL_eq] at hc
  refine hc.mono ?_
  rintro e w' ⟨A, n, c, rfl, ho, F', hm, hd⟩
  exact ⟨A, n, c, rfl, ho, F', logl_mv hm, hd⟩
end
end Go.Proofs.YtnplhagfmfggcaaGreat.Lo
/-
  A log whose power may fail: what its devices keep, whatever is done to them, and what they are when power is back.
-/
namespace Go.Proofs.YtnplhagfmfggcaaGreat.Lo
open Go.RowKit Kd Mi Sx
/-- What is so of a device, whatever is done to it. -/
structure Dk (off : Bool) (n m : Nat) (d : Dv) : Prop where
  st : d.st.length = n
  lies : d.lies = false
  few : d.wt.length ≤ m
  idle : d.gone = true → d.wt = []
  dark : off = true → d.wt = []
structure Pd (S : Sy) (n m : Nat) : Prop where
  ds : S.ds.length = 2
  d : ∀ i, i < 2 → Dk S.p.off n m (S.at i)
theorem at_put2 (S : Sy) (d : Dv) (i j : Nat) : (S.put i d).at j = if i = j ∧ i < S.ds.length then d else S.at j := by
  unfold Sy.put Sy.at
  simp only
  rw [List.getD_eq_getElem?_getD, List.getD_eq_getElem?_getD, List.getElem?_set]
  by_cases h : i = j
  · subst h
    by_cases h2 : i < S.ds.length
    · rw [if_pos rfl, if_pos h2, if_pos ⟨rfl, h2⟩]; rfl
    · rw [if_pos rfl, if_neg h2, if_neg (fun h => h2 h.2), List.getElem?_eq_none (by omega)]
  · rw [if_neg h, if_neg (fun h2 => h h2.1)]
section
variable {S : Sy} {n m : Nat}
theorem Dk.more {off : Bool} {d : Dv} (h : Dk off n m d) {m' : Nat} (hm : m ≤ m') : Dk off n m' d := ⟨h.st, h.lies, Nat.le_trans h.few hm, h.idle, h.dark⟩
theorem Pd.more (h : Pd S n m) {m' : Nat} (hm : m ≤ m') : Pd S n m' := ⟨h.ds, fun i hi => (h.d i hi).more hm⟩
theorem Pd.put (h : Pd S n m) {i : Nat} {d : Dv} (hd : Dk S.p.off n m d) : Pd (S.put i d) n m := by
  refine ⟨by show (S.ds.set i d).length = 2; rw [List.length_set]; exact h.ds, fun j hj => ?_⟩
  rw [at_put2]
  split
  · exact hd
  · exact h.d j hj
theorem at_map (S : Sy) {i : Nat} (hi : i < S.ds.length) (P : Pw) : (⟨P, S.ds.map Dv.fall⟩ : Sy).at i = (S.at i).fall := by
  unfold Sy.at
  simp only
  rw [List.getD_eq_getElem?_getD, List.getD_eq_getElem?_getD, List.getElem?_map, List.getElem?_eq_getElem hi]
  rfl
theorem Dk.fall {off off' : Bool} {d : Dv} (h : Dk off n m d) : Dk off' n m d.fall ∧ d.fall.wt = [] := by
  unfold Dv.fall
  cases hg : d.gone with
  | true => exact ⟨⟨h.st, h.lies, h.few, fun _ => h.idle hg, fun _ => h.idle hg⟩, h.idle hg⟩
  | false =>
    refine ⟨⟨?_, h.lies, Nat.zero_le _, fun _ => rfl, fun _ => rfl⟩, rfl⟩
    show (fallL d.kept d.bytes 0 d.wt d.st).length = n
    rw [fall_length]; exact h.st
theorem step_off (P : Pw) (h : P.fails = false) (ho : P.off = false) : P.step.off = false := by
  unfold Pw.fails at h
  unfold Pw.step
  split
  · exact ho
  · rename_i hl
    simp only [Bool.and_eq_false_iff, decide_eq_false_iff_not] at h
    show decide (P.left - 1 < 0) = false
    exact decide_eq_false (by omega)
theorem Pd.count (h : Pd S n m) (ho : S.p.off = false) : Pd S.count n m := by
  unfold Sy.count
  cases hf : S.p.fails with
  | true =>
    refine ⟨by show (S.ds.map Dv.fall).length = 2; rw [List.length_map]; exact h.ds, fun i hi => ?_⟩
    simp only [if_true]
    rw [at_map S (by rw [h.ds]; exact hi)]
    exact ((h.d i hi).fall).1
  | false =>
    refine ⟨h.ds, fun i hi => ?_⟩
    have hd := h.d i hi
    exact ⟨hd.st, hd.lies, hd.few, hd.idle, fun e => by
      have := step_off S.p hf ho
      have e2 : S.p.step.off = true := e
      rw [this] at e2; cases e2⟩
theorem refuse_on {P : Pw} {d : Dv} {k : Int} (h : ¬ refuseN P d k ≠ 0) : P.off = false ∧ d.gone = false := by
  unfold refuseN at h
  cases ho : P.off <;> cases hg : d.gone <;> simp_all
theorem Pd.write (h : Pd S n m) {i : Nat} (hi : i < 2) (k : Int) (y : List UInt8) : Pd (S.write i k y).2 n (m + 1) := by
  unfold Sy.write
  simp only
  by_cases hr : refuseN S.p (S.at i) k ≠ 0
  · rw [if_pos hr]; exact h.more (Nat.le_succ m)
  · rw [if_neg hr]
    obtain ⟨h1, h2⟩ := refuse_on hr
    have hd := h.d i hi
    refine Pd.count ((h.more (Nat.le_succ m)).put ⟨hd.st, hd.lies, ?_, fun e => ?_, fun e => ?_⟩) h1
    · show ((S.at i).wt ++ [(k.toNat, y)]).length ≤ m + 1
      rw [List.length_append]
      exact Nat.succ_le_succ hd.few
    · have e : (S.at i).gone = true := e
      rw [h2] at e; cases e
    · rw [h1] at e; cases e
theorem Pd.flush (h : Pd S n m) {i : Nat} (hi : i < 2) : Pd (S.flush i).2 n m := by
  unfold Sy.flush
  simp only
  by_cases h0 : (S.p.off || (S.at i).gone) = true
  · rw [if_pos h0]; exact h
  · rw [if_neg h0]
    have ho : S.p.off = false := by cases hx : S.p.off; rfl; rw [hx] at h0; simp at h0
    by_cases hf : S.p.fails = true
    · rw [if_pos hf]; exact h.count ho
    · rw [if_neg hf]
      have hd := h.d i hi
      rw [if_neg (by rw [hd.lies]; simp)]
      refine (h.count ho).put ⟨?_, hd.lies, Nat.zero_le _, fun _ => rfl, fun _ => rfl⟩
      show (flushL (S.at i).st (S.at i).wt).length = n
      rw [flush_length]; exact hd.st
theorem Pd.tear (h : Pd S n m) {i : Nat} (hi : i < 2) (x y : Int) : Pd (S.put i ((S.at i).tear x y)) n m := by
  have hd := h.d i hi
  exact h.put ⟨hd.st, hd.lies, hd.few, hd.idle, hd.dark⟩
theorem Pd.fail (h : Pd S n m) (x : Int) : Pd (S.fail x) n m := ⟨h.ds, fun i hi => h.d i hi⟩
theorem Pd.out (h : Pd S n m) {i : Nat} (hi : i < 2) (on : Bool) : Pd (S.put i ((S.at i).out on)) n m := by
  have hd := h.d i hi
  cases on with
  | true => exact h.put ⟨hd.st, hd.lies, Nat.zero_le _, fun _ => rfl, fun _ => rfl⟩
  | false => exact h.put ⟨hd.st, hd.lies, hd.few, (fun e => by cases e), hd.dark⟩
theorem Pd.restart (h : Pd S n m) : Pd S.restart n m := ⟨h.ds, fun i hi => ⟨(h.d i hi).st, (h.d i hi).lies, (h.d i hi).few, (h.d i hi).idle, (fun e => by cases e)⟩⟩
/-- Power fails now, is back: nothing waits. -/
def endS (S : Sy) : Sy := ((S.fail 0).flush 0).2.restart
theorem pd_end (h : Pd S n m) (hg : ∀ i, i < 2 → (S.at i).gone = false) : Pd (endS S) n m ∧ ∀ i, i < 2 → ((endS S).at i).wt = [] ∧ ((endS S).at i).gone = false := by
  refine ⟨((h.fail 0).flush (by omega)).restart, fun i hi => ?_⟩
  have hd := h.d i hi
  show (((S.fail 0).flush 0).2.at i).wt = [] ∧ (((S.fail 0).flush 0).2.at i).gone = false
  unfold Sy.flush
  simp only
  by_cases h0 : ((S.fail 0).p.off || ((S.fail 0).at 0).gone) = true
  · rw [if_pos h0]
    have e0 : ((S.fail 0).at 0).gone = false := hg 0 (by omega)
    rw [e0, Bool.or_false] at h0
    exact ⟨hd.dark h0, hg i hi⟩
  · rw [if_neg h0, if_pos (show (S.fail 0).p.fails = true by rfl)]
    unfold Sy.count
    rw [if_pos (show (S.fail 0).p.fails = true by rfl), at_map (S.fail 0) (by show i < S.ds.length; rw [h.ds]; exact hi)]
    have e1 : (S.fail 0).at i = S.at i := rfl
    rw [e1]
    refine ⟨(hd.fall (off' := false)).2, ?_⟩
    unfold Dv.fall
    rw [if_neg (by rw [hg i hi]; simp)]
    exact hg i hi
end
end Go.Proofs.YtnplhagfmfggcaaGreat.Lo
/-
  Two devices of one power that fails, beneath a mirror: what a write that is flushed makes of them. The second one is never torn.
-/
namespace Go.Proofs.YtnplhagfmfggcaaGreat.Mu
open Go.RowKit Kd Mi
def dvT (st : List (List UInt8)) (wt : List (Nat × List UInt8)) (k b : Int) : Dv := ⟨st, wt, k, b, false, false⟩
def syT (c : Nat) (d0 d1 : Dv) : Sy := ⟨⟨false, (c : Int)⟩, [d0, d1]⟩
/-- Power is on. -/
def upS (c : Nat) (D : List (List UInt8)) (k b : Int) : Sy := syT c (dvT D [] k b) (dvT D [] 0 0)
/-- Power has failed. -/
def dnS (E D : List (List UInt8)) (k b : Int) : Sy := ⟨⟨true, -1⟩, [dvT E [] k b, dvT D [] 0 0]⟩
theorem fails_zero (x : Bool) : Pw.fails ⟨x, ((0 : Nat) : Int)⟩ = true := rfl
theorem fails_succ (x : Bool) (c : Nat) : Pw.fails ⟨x, ((c + 1 : Nat) : Int)⟩ = false := by
  unfold Pw.fails
  rw [decide_eq_false (show ¬ (((c + 1 : Nat) : Int) - 1 < 0) by omega), Bool.and_false]
theorem step_zero (x : Bool) : Pw.step ⟨x, ((0 : Nat) : Int)⟩ = ⟨true, -1⟩ := rfl
theorem step_succ (x : Bool) (c : Nat) : Pw.step ⟨x, ((c + 1 : Nat) : Int)⟩ = ⟨false, (c : Int)⟩ := by
  unfold Pw.step
  rw [if_neg (show ¬ (((c + 1 : Nat) : Int) < 0) by omega)]
  show Pw.mk (decide (((c + 1 : Nat) : Int) - 1 < 0)) (((c + 1 : Nat) : Int) - 1) = _
  rw [decide_eq_false (by omega)]
  congr 1
  omega
theorem count_zero (d0 d1 : Dv) : (syT 0 d0 d1).count = ⟨⟨true, -1⟩, [d0.fall, d1.fall]⟩ := rfl
theorem count_succ (c : Nat) (d0 d1 : Dv) : (syT (c + 1) d0 d1).count = syT c d0 d1 := by
  unfold Sy.count syT
  show (if Pw.fails ⟨false, ((c + 1 : Nat) : Int)⟩ = true then _ else Sy.mk (Pw.step ⟨false, ((c + 1 : Nat) : Int)⟩) [d0, d1]) = _
  rw [fails_succ, step_succ, if_neg (by simp)]
theorem refT {c : Nat} {d : Dv} (hg : d.gone = false) {n : Nat} (hn : n < d.st.length) : refuseN ⟨false, (c : Int)⟩ d (n : Int) = 0 := by
  unfold refuseN
  rw [hg, if_neg (by simp), if_neg (by omega)]
theorem wr0_up (c n : Nat) {D : List (List UInt8)} {k b : Int} (hn : n < D.length) (y : List UInt8) (d1 : Dv) : (syT (c + 1) (dvT D [] k b) d1).write 0 (n : Int) y = (0, syT c (dvT D [(n, y)] k b) d1) := by
  rw [Kd.write_yes (s := y) (show refuseN (syT (c + 1) (dvT D [] k b) d1).p ((syT (c + 1) (dvT D [] k b) d1).at 0) (n : Int) = 0 from refT rfl hn)]
  show (if Pw.fails ⟨false, ((c + 1 : Nat) : Int)⟩ = true then (13 : Int) else 0, (syT (c + 1) (dvT D [(n, y)] k b) d1).count) = _
  rw [fails_succ, count_succ, if_neg (by simp)]
theorem wr0_dn (n : Nat) {D : List (List UInt8)} {k b : Int} (hn : n < D.length) (y : List UInt8) (d1 : Dv) : (syT 0 (dvT D [] k b) d1).write 0 (n : Int) y = (13, ⟨⟨true, -1⟩, [(dvT D [(n, y)] k b).fall, d1.fall]⟩) := by
  rw [Kd.write_yes (s := y) (show refuseN (syT 0 (dvT D [] k b) d1).p ((syT 0 (dvT D [] k b) d1).at 0) (n : Int) = 0 from refT rfl hn)]
  rfl
theorem wr1_up (c n : Nat) {D : List (List UInt8)} {k b : Int} (hn : n < D.length) (y : List UInt8) (d0 : Dv) : (syT (c + 1) d0 (dvT D [] k b)).write 1 (n : Int) y = (0, syT c d0 (dvT D [(n, y)] k b)) := by
  rw [Kd.write_yes (s := y) (show refuseN (syT (c + 1) d0 (dvT D [] k b)).p ((syT (c + 1) d0 (dvT D [] k b)).at 1) (n : Int) = 0 from refT rfl hn)]
  show (if Pw.fails ⟨false, ((c + 1 : Nat) : Int)⟩ = true then (13 : Int) else 0, (syT (c + 1) d0 (dvT D [(n, y)] k b)).count) = _
  rw [fails_succ, count_succ, if_neg (by simp)]
theorem wr1_dn (n : Nat) {D : List (List UInt8)} {k b : Int} (hn : n < D.length) (y : List UInt8) (d0 : Dv) : (syT 0 d0 (dvT D [] k b)).write 1 (n : Int) y = (13, ⟨⟨true, -1⟩, [d0.fall, (dvT D [(n, y)] k b).fall]⟩) := by
  rw [Kd.write_yes (s := y) (show refuseN (syT 0 d0 (dvT D [] k b)).p ((syT 0 d0 (dvT D [] k b)).at 1) (n : Int) = 0 from refT rfl hn)]
  rfl
theorem set_same (D : List (List UInt8)) (n : Nat) : D.set n (D.getD n zeroS) = D := by
  apply List.ext_getElem?
  intro i
  rw [List.getElem?_set]
  split
  · rename_i h; subst h
    split
    · rename_i h; rw [List.getD_eq_getElem?_getD, List.getElem?_eq_getElem h]; rfl
    · rename_i h; rw [List.getElem?_eq_none (by omega)]
  · rfl
theorem fl_up (S : Sy) (i : Nat) (ho : S.p.off = false) (hg : (S.at i).gone = false) (hl : (S.at i).lies = false) (hf : S.p.fails = false) : S.flush i = (0, S.count.put i { S.at i with st := flushL (S.at i).st (S.at i).wt, wt := [] }) := by
  unfold Sy.flush
  dsimp only
  rw [if_neg (by rw [ho, hg]; simp), if_neg (by rw [hf]; simp), if_neg (by rw [hl]; simp)]
theorem fl_dn (S : Sy) (i : Nat) (ho : S.p.off = false) (hg : (S.at i).gone = false) (hf : S.p.fails = true) : S.flush i = (13, S.count) := by
  unfold Sy.flush
  dsimp only
  rw [if_neg (by rw [ho, hg]; simp), if_pos hf]
theorem fl0_up (c n : Nat) (D : List (List UInt8)) (k b : Int) (y : List UInt8) (d1 : Dv) : (syT (c + 1) (dvT D [(n, y)] k b) d1).flush 0 = (0, syT c (dvT (D.set n y) [] k b) d1) := by
  rw [fl_up _ _ rfl rfl rfl (fails_succ _ _), count_succ]
  rfl
theorem fl0_dn (d0 d1 : Dv) (hg : d0.gone = false) : (syT 0 d0 d1).flush 0 = (13, ⟨⟨true, -1⟩, [d0.fall, d1.fall]⟩) := fl_dn _ _ rfl hg rfl
theorem fl1_up (c n : Nat) (D : List (List UInt8)) (k b : Int) (y : List UInt8) (d0 : Dv) : (syT (c + 1) d0 (dvT D [(n, y)] k b)).flush 1 = (0, syT c d0 (dvT (D.set n y) [] k b)) := by
  rw [fl_up _ _ rfl rfl rfl (fails_succ _ _), count_succ]
  rfl
theorem fl1_dn (d0 d1 : Dv) (hg : d1.gone = false) : (syT 0 d0 d1).flush 1 = (13, ⟨⟨true, -1⟩, [d0.fall, d1.fall]⟩) := fl_dn _ _ rfl hg rfl
theorem wr_off (ds : List Dv) (i : Nat) (n : Int) (y : List UInt8) : (Sy.mk ⟨true, -1⟩ ds).write i n y = (13, ⟨⟨true, -1⟩, ds⟩) := write_down8 rfl
theorem fl_off (ds : List Dv) (i : Nat) : (Sy.mk ⟨true, -1⟩ ds).flush i = (13, ⟨⟨true, -1⟩, ds⟩) := flush_down8 rfl
/-- What waits on the first device when power fails: some of it is there. -/
theorem fall0 (D : List (List UInt8)) (n : Nat) (y : List UInt8) (k b : Int) (h3 : ∀ s ∈ D, s.length = 128) (hy : y.length = 128) (hb : 0 ≤ b ∧ b ≤ 128) : ∃ z : List UInt8, z.length = 128 ∧ (dvT D [(n, y)] k b).fall = dvT (D.set n z) [] k b := by
  show ∃ z : List UInt8, z.length = 128 ∧ dvT (if ((0 : Nat) : Int) < k then D.set n y else if ((0 : Nat) : Int) = k then D.set n (tornL b y (D.getD n zeroS)) else D) [] k b = _
  by_cases h1 : ((0 : Nat) : Int) < k
  · exact ⟨y, hy, by rw [if_pos h1]⟩
  · by_cases h2 : ((0 : Nat) : Int) = k
    · exact ⟨tornL b y (D.getD n zeroS), torn_length hy (getD_ok h3 _) hb, by rw [if_neg h1, if_pos h2]⟩
    · refine ⟨D.getD n zeroS, getD_ok h3 _, ?_⟩
      rw [if_neg h1, if_neg h2, set_same]
theorem fall_dry (D : List (List UInt8)) (k b : Int) : (dvT D [] k b).fall = dvT D [] k b := rfl
/-- What waits on the second one is lost. -/
theorem fall1 (D : List (List UInt8)) (n : Nat) (y : List UInt8) : (dvT D [(n, y)] 0 0).fall = dvT D [] 0 0 := by
  show dvT (D.set n (tornL 0 y (D.getD n zeroS))) [] 0 0 = _
  rw [show tornL 0 y (D.getD n zeroS) = D.getD n zeroS from rfl, set_same]
/-! ### A write that is flushed -/
section
variable {p g1 g2 : Nat} {s : Mr (one p g1 g2)} {D : List (List UInt8)} {c n : Nat} {k b : Int} {y : List UInt8}
theorem one_there {S : Sy} {i : Nat} (hi : i < 2) : (one p g1 g2).there S i = (refuseN S.p (S.at i) 0 != 13) := by
  rcases (show i = 0 ∨ i = 1 by omega) with rfl | rfl <;> rfl
theorem there_up {d0 d1 : Dv} {i : Nat} (hi : i < 2) (h0 : d0.gone = false) (h1 : d1.gone = false) (l0 : 0 < d0.st.length) (l1 : 0 < d1.st.length) : (one p g1 g2).there (syT c d0 d1) i = true := by
  rw [one_there hi]
  rcases (show i = 0 ∨ i = 1 by omega) with rfl | rfl
  · rw [show refuseN (syT c d0 d1).p ((syT c d0 d1).at 0) 0 = 0 from refT (n := 0) h0 l0]; rfl
  · rw [show refuseN (syT c d0 d1).p ((syT c d0 d1).at 1) 0 = 0 from refT (n := 0) h1 l1]; rfl
theorem there_off {ds : List Dv} {i : Nat} (hi : i < 2) : (one p g1 g2).there (Sy.mk ⟨true, -1⟩ ds) i = false := by
  rw [one_there hi, show refuseN (Sy.mk ⟨true, -1⟩ ds).p ((Sy.mk ⟨true, -1⟩ ds).at i) 0 = 13 from by unfold refuseN; rw [if_pos (by rfl)]]
  rfl
/-- Power has failed: the first device has anything at n, all else is as it was. -/
def Dn (S : Sy) (D : List (List UInt8)) (n : Nat) (k b : Int) : Prop := ∃ z : List UInt8, z.length = 128 ∧ S = dnS (D.set n z) D k b
theorem reach_d (s2 : Mr (one p g1 g2)) (m : Nat) (x y : Bool) : (s2.reach m x y).1 = (if x || y then 0 else 13) ∧ (s2.reach m x y).2.d = s2.d ∧ (s2.reach m x y).2.a.length = s2.a.length ∧ (s2.reach m x y).2.b.length = s2.b.length := by
  cases x <;> cases y <;> first | exact ⟨rfl, rfl, rfl, rfl⟩ | exact ⟨rfl, rfl, List.length_set, List.length_set⟩
theorem write_d (hn : n < s.a.length) : (s.write (n : Int) y).1 = (if ((s.d.write 0 n y).1 == 0) || (((s.d.write 0 n y).2.write 1 n y).1 == 0) then 0 else 13) ∧ (s.write (n : Int) y).2.d = ((s.d.write 0 n y).2.write 1 n y).2 ∧ (s.write (n : Int) y).2.a.length = s.a.length ∧ (s.write (n : Int) y).2.b.length = s.b.length := by
  have hh : has s (n : Int) = true := by
    show (decide (0 ≤ (n : Int)) && decide ((n : Int) < s.a.length)) = true
    rw [decide_eq_true (by omega), decide_eq_true (by omega)]; rfl
  rw [Mr.write, hh, if_pos rfl]
  exact reach_d _ _ _ _
theorem flush_d : (s.flush).1 = (if ((one p g1 g2).there s.d 0 || (one p g1 g2).there s.d 1) && (((s.d.flush 0).1 == 0, ((s.d.flush 0).2.flush 1).1 == 0) == ((one p g1 g2).there s.d 0, (one p g1 g2).there s.d 1)) then 0 else 13) ∧ s.flush.2.d = ((s.d.flush 0).2.flush 1).2 := ⟨rfl, rfl⟩
/-- What flushing tells when power is off. -/
theorem flush_off {ds : List Dv} (hs : s.d = Sy.mk ⟨true, -1⟩ ds) : s.flush.1 = 13 ∧ s.flush.2.d = s.d := by
  obtain ⟨f1, f2⟩ := flush_d (s := s)
  rw [hs, there_off (by omega), there_off (by omega)] at f1
  rw [hs, fl_off] at f2
  exact ⟨f1, f2.trans (by rw [fl_off, hs])⟩
/-- A write that is flushed: all is there, on both; or power has failed, and one of the two told so. -/
theorem step_torn (hs : s.d = upS c D k b) (hl : D.length = 4) (ha : s.a.length = 4) (hn : n < 4) (h3 : ∀ s ∈ D, s.length = 128) (hy : y.length = 128) (hb : 0 ≤ b ∧ b ≤ 128) :
    ((s.write (n : Int) y).1 = 13 ∧ Dn (s.write (n : Int) y).2.d D n k b) ∨ ((s.write (n : Int) y).1 = 0 ∧ (((s.write (n : Int) y).2.flush.1 = 13 ∧ Dn (s.write (n : Int) y).2.flush.2.d D n k b) ∨ ((s.write (n : Int) y).2.flush.1 = 0 ∧ ∃ c', (s.write (n : Int) y).2.flush.2.d = upS c' (D.set n y) k b))) := by
  obtain ⟨w1, w2, _⟩ := write_d (s := s) (n := n) (y := y) (by omega)
  have hnl : n < D.length := by omega
  obtain ⟨z, hz, hf⟩ := fall0 D n y k b h3 hy hb
  rw [hs] at w1 w2
  rcases c with _ | c
  · rw [show upS 0 D k b = syT 0 (dvT D [] k b) (dvT D [] 0 0) from rfl, wr0_dn n hnl, wr_off] at w1 w2
    refine .inl ⟨w1, z, hz, ?_⟩
    rw [w2]
    show Sy.mk _ [(dvT D [(n, y)] k b).fall, _] = _
    rw [hf]; rfl
  rw [show upS (c + 1) D k b = syT (c + 1) (dvT D [] k b) (dvT D [] 0 0) from rfl, wr0_up c n hnl] at w1 w2
  rcases c with _ | c
  · rw [show ((0 : Int), syT 0 (dvT D [(n, y)] k b) (dvT D [] 0 0)).2 = syT 0 (dvT D [(n, y)] k b) (dvT D [] 0 0) from rfl, wr1_dn n hnl] at w1 w2
    have e : (s.write (n : Int) y).2.d = dnS (D.set n z) D k b := by
      rw [w2]
      show Sy.mk _ [(dvT D [(n, y)] k b).fall, (dvT D [(n, y)] 0 0).fall] = _
      rw [hf, fall1]; rfl
    obtain ⟨f1, f2⟩ := flush_off (s := (s.write (n : Int) y).2) e
    exact .inr ⟨w1, .inl ⟨f1, z, hz, f2.trans e⟩⟩
  rw [show ((0 : Int), syT (c + 1) (dvT D [(n, y)] k b) (dvT D [] 0 0)).2 = syT (c + 1) (dvT D [(n, y)] k b) (dvT D [] 0 0) from rfl, wr1_up c n hnl] at w1 w2
  refine .inr ⟨w1, ?_⟩
  obtain ⟨f1, f2⟩ := flush_d (s := (s.write (n : Int) y).2)
  have w3 : (s.write (n : Int) y).2.d = syT c (dvT D [(n, y)] k b) (dvT D [(n, y)] 0 0) := w2
  rw [w3, there_up (by omega) rfl rfl (by show 0 < D.length; omega) (by show 0 < D.length; omega), there_up (by omega) rfl rfl (by show 0 < D.length; omega) (by show 0 < D.length; omega)] at f1
  rw [w3] at f2
  rcases c with _ | c
  · rw [fl0_dn _ _ rfl] at f1 f2
    dsimp only at f1 f2
    rw [fl_off] at f1 f2
    refine .inl ⟨f1, z, hz, ?_⟩
    rw [f2]
    show Sy.mk _ [(dvT D [(n, y)] k b).fall, (dvT D [(n, y)] 0 0).fall] = _
    rw [hf, fall1]; rfl
  rw [fl0_up] at f1 f2
  dsimp only at f1 f2
  rcases c with _ | c
  · rw [fl1_dn _ _ rfl] at f1 f2
    refine .inl ⟨f1, y, hy, ?_⟩
    rw [f2]
    show Sy.mk _ [(dvT (D.set n y) [] k b).fall, (dvT D [(n, y)] 0 0).fall] = _
    rw [fall1]; rfl
  · rw [fl1_up] at f1 f2
    exact .inr ⟨f1, c, f2⟩
end
end Go.Proofs.YtnplhagfmfggcaaGreat.Mu
/-
  A log whose power may fail, purely: what each act makes of it, its mirror and its devices; what is there when power is back.
-/
namespace Go.Proofs.YtnplhagfmfggcaaGreat.Lo
open Go.RowKit Kd Mi Sx
section
variable {p g1 g2 : Nat} {s : Mr (Mu.one p g1 g2)} {l : Lg} {n m a b k : Nat}
theorem pd_mwrite (h : Pd s.d n m) (x : Int) (y : List UInt8) : Pd (s.write x y).2.d n (m + 2) := by
  by_cases hh : has s x = true
  · obtain ⟨c, rfl⟩ : ∃ c : Nat, x = (c : Int) := ⟨x.toNat, by unfold has at hh; simp at hh; omega⟩
    have hn : c < s.a.length := by unfold has at hh; simp at hh; omega
    rw [(Mu.write_d (y := y) hn).2.1]
    exact (h.write (by omega) _ y).write (by omega) _ y
  · rw [Mr.write, if_neg hh]; exact h.more (by omega)
theorem ok_mwrite (h : s.ok k) (x : Int) (y : List UInt8) : (s.write x y).2.ok k := by
  by_cases hh : has s x = true
  · obtain ⟨c, rfl⟩ : ∃ c : Nat, x = (c : Int) := ⟨x.toNat, by unfold has at hh; simp at hh; omega⟩
    have hn : c < s.a.length := by unfold has at hh; simp at hh; omega
    exact ⟨(Mu.write_d (y := y) hn).2.2.1.trans h.1, (Mu.write_d (y := y) hn).2.2.2.trans h.2⟩
  · rw [Mr.write, if_neg hh]; exact h
theorem pd_mflush (h : Pd s.d n m) : Pd s.flush.2.d n m := by
  rw [Mu.flush_d.2]
  exact (h.flush (by omega)).flush (by omega)
/-- What is so of a log, its mirror and its devices behind k acts, whatever power does. -/
structure Tw (s : Mr (Mu.one p g1 g2)) (l : Lg) (a b k : Nat) : Prop where
  pd : Pd s.d (2 + a * b) (2 * k)
  ok : s.ok (2 + a * b)
  fine : l.Fine
  last : l.last ≤ k
  size : l.size = b
  len : l.gens.length = a
theorem Tw.more (h : Tw s l a b k) {k' : Nat} (hk : k ≤ k') : Tw s l a b k' := ⟨h.pd.more (by omega), h.ok, h.fine, Nat.le_trans h.last hk, h.size, h.len⟩
theorem Tw.most (h : Tw s l a b k) : (Mu.one p g1 g2).most s.d ≤ 2 * k := by
  show Mu.mostD s.d ≤ 2 * k
  unfold Mu.mostD
  rw [if_pos h.pd.ds]
  exact Nat.max_le.2 ⟨(h.pd.d 0 (by omega)).few, (h.pd.d 1 (by omega)).few⟩
theorem next_le {l : Lg} (hf : l.Fine) {t : Nat × Nat × Nat} (h : l.next = some t) : t.2.2 ≤ l.last + 1 := by
  have new : (freeK l.gens).map (fun k => (k, 0, l.last + 1)) = some t → t.2.2 ≤ l.last + 1 := by
    intro h
    cases hk : freeK l.gens with
    | none => rw [hk] at h; cases h
    | some k =>
      rw [hk] at h
      simp only [Option.map_some, Option.some.injEq] at h
      subst h
      exact Nat.le_refl _
  unfold Lg.next at h
  split at h
  · rename_i s j hh
    split at h
    · simp only [Option.some.injEq] at h
      subst h
      obtain ⟨h1, _⟩ := hf.head s j hh
      show l.gens.getD s 0 ≤ l.last + 1
      rw [List.getD_eq_getElem?_getD, List.getElem?_eq_getElem h1]
      exact Nat.le_succ_of_le (hf.le _ (List.getElem_mem h1))
    · exact new h
  · exact new h
theorem Tw.append (h : Tw s l a b k) (h0 : 0 < b) (y : List UInt8) : Tw (apnd litS s l y).2.1 (apnd litS s l y).2.2 a b (k + 1) := by
  unfold apnd
  by_cases hy : 103 < y.length
  · rw [if_pos hy]; exact h.more (Nat.le_succ k)
  · rw [if_neg hy]
    cases hn : l.next with
    | none => exact h.more (Nat.le_succ k)
    | some t =>
      have hp := pd_mwrite h.pd (l.at_ t : Int) (sealedS litS.f (l.at_ t : Int) t.2.2 y)
      have ho := ok_mwrite h.ok (l.at_ t : Int) (sealedS litS.f (l.at_ t : Int) t.2.2 y)
      have hl := next_le h.fine hn
      have h1 := h.last
      by_cases hw : (s.write (l.at_ t : Int) (sealedS litS.f (l.at_ t : Int) t.2.2 y)).1 = 0
      · simp only [hw, if_true]
        exact ⟨hp.more (by omega), ho, Lg.put_fine h.fine hn (by rw [h.size]; exact h0), by show max l.last t.2.2 ≤ k + 1; omega, h.size, by show (l.gens.set _ _).length = a; rw [List.length_set]; exact h.len⟩
      · simp only [hw, if_false]
        exact ⟨hp.more (by omega), ho, h.fine, by omega, h.size, h.len⟩
theorem Tw.flush (h : Tw s l a b k) : Tw s.flush.2 l a b k := ⟨pd_mflush h.pd, h.ok, h.fine, h.last, h.size, h.len⟩
theorem Tw.free (h : Tw s l a b k) (x : Int) : Tw s (if l.freeE x = 0 then l.free x.toNat else l) a b k := by
  by_cases hx : l.freeE x = 0
  · rw [if_pos hx]
    exact ⟨h.pd, h.ok, Lg.free_fine h.fine hx, h.last, h.size, by show (l.gens.set _ _).length = a; rw [List.length_set]; exact h.len⟩
  · rw [if_neg hx]; exact h
theorem Tw.out (h : Tw s l a b k) {i : Nat} (hi : i < 2) (on : Bool) : Tw (⟨s.d.put i ((s.d.at i).out on), s.a, s.b⟩ : Mr (Mu.one p g1 g2)) l a b k := ⟨h.pd.out hi on, h.ok, h.fine, h.last, h.size, h.len⟩
theorem Tw.tear (h : Tw s l a b k) {i : Nat} (hi : i < 2) (x y : Int) : Tw (⟨s.d.put i ((s.d.at i).tear x y), s.a, s.b⟩ : Mr (Mu.one p g1 g2)) l a b k := ⟨h.pd.tear hi x y, h.ok, h.fine, h.last, h.size, h.len⟩
theorem Tw.fail (h : Tw s l a b k) (x : Int) : Tw (⟨s.d.fail x, s.a, s.b⟩ : Mr (Mu.one p g1 g2)) l a b k := ⟨h.pd.fail x, h.ok, h.fine, h.last, h.size, h.len⟩
/-- A device that comes in. -/
theorem in_at {S : Sy} (h : S.ds.length = 2) {i : Nat} (hi : i < 2) (j : Nat) : ((S.put i ((S.at i).out false)).at j).gone = if i = j then false else (S.at j).gone := by
  rw [at_put2, h]
  by_cases e : i = j
  · rw [if_pos ⟨e, hi⟩, if_pos e]; rfl
  · rw [if_neg (fun h => e h.1), if_neg e]
/-- What is seen of a device when power is back. -/
theorem see_end {S : Sy} (h : Pd S n m) (hg : ∀ i, i < 2 → (S.at i).gone = false) {i : Nat} (hi : i < 2) : Mu.See (endS S) i ((endS S).at i).st false 0 ∧ ((endS S).at i).st.length = n := by
  obtain ⟨h1, h2⟩ := pd_end h hg
  have hd := h1.d i hi
  obtain ⟨h3, h4⟩ := h2 i hi
  exact ⟨⟨h1.ds, rfl, hi, rfl, fun k _ => by rw [Dv.now, h3]; rfl, h4, hd.lies, by rw [h3]; exact Nat.le_refl _⟩, hd.st⟩
end
end Go.Proofs.YtnplhagfmfggcaaGreat.Lo
/-
  A mirror of two devices of one power, whatever becomes of it: what is called. Four sectors in a box.
-/
namespace Go.Proofs.YtnplhagfmfggcaaGreat.Mu
open Go.RowKit Kd Mi
attribute [local go_sem ↓] Go.wp_at_zero Go.wp_at_succ
section
variable {p g1 g2 g : Nat} {G : Gd} {w0 w w' : World} {F F' : Nat → Prop} {s s' : Mr (one p g1 g2)} {e : Ending} {v : Value}
/-- It returns v; the mirror is s' now. -/
def RetT (v : Value) (p g1 g2 : Nat) (G : Gd) (g : Nat) (w0 : World) (s' : Mr (one p g1 g2)) (F : Nat → Prop) (w : World) (e : Ending) (w' : World) : Prop :=
  e = .returned v ∧ ∃ F' : Nat → Prop, LiveA (ML (one p g1 g2) G g) w0 w' s' F' ∧ Mv (ML (one p g1 g2) G g) w F w' s' F'
theorem retT (h : LiveA (ML (one p g1 g2) G g) w0 w s F) (hr : RetA (ML (one p g1 g2) G g) v s' F w e w') : RetT v p g1 g2 G g w0 s' F w e w' := by
  obtain ⟨rfl, F', hm⟩ := hr
  exact ⟨rfl, F', h.step hm, hm⟩
theorem tm_write (h : LiveA (ML (one p g1 g2) G g) w0 w s F) {k : Nat} (hk : s.ok k) (n : Int) (y : List UInt8) (hy : y.length = 128) (hm : mostD s.d < 900000) :
    Calls Tryz.prog 48 #[.pointer (some ⟨g, 0, none⟩), .int .i64 n, .agg (bva y)] w (RetT (.int .i64 (s.write n y).1) p g1 g2 G g w0 (s.write n y).2 F w) :=
  (mwrite_any h.at_ hk n y hy hm).mono fun _ _ hr => retT h hr
theorem tm_flush (h : LiveA (ML (one p g1 g2) G g) w0 w s F) : Calls Tryz.prog 31 #[.pointer (some ⟨g, 0, none⟩)] w (RetT (.int .i64 s.flush.1) p g1 g2 G g w0 s.flush.2 F w) :=
  (mflushm_any h.at_).mono fun _ _ hr => retT h hr
theorem tm_tear (h : LiveA (ML (one p g1 g2) G g) w0 w s F) (x y : Int) : Calls Tryz.prog 7 #[.pointer (some ⟨g1, 0, none⟩), .int .i64 x, .int .i64 y] w (RetT (.tuple #[]) p g1 g2 G g w0 ⟨s.d.put 0 ((s.d.at 0).tear x y), s.a, s.b⟩ F w) := by
  obtain ⟨F1, h1, h2, hl⟩ := ml_sys h.at_
  exact (tear_sys h1 0 (by rw [h2]; omega) x y).mono fun _ _ hr => retT h (hl ((len_put _).trans h2) hr)
theorem tm_fail (h : LiveA (ML (one p g1 g2) G g) w0 w s F) (x : Int) (hx : x ≤ 9223372036854775807) : Calls Tryz.prog 8 #[.pointer (some ⟨p, 0, none⟩), .int .i64 x] w (RetT (.tuple #[]) p g1 g2 G g w0 ⟨s.d.fail x, s.a, s.b⟩ F w) := by
  obtain ⟨F1, h1, h2, hl⟩ := ml_sys h.at_
  exact (fail_sys h1 x hx).mono fun _ _ hr => retT h (hl h2 hr)
theorem lt_own (h : LiveA (ML (one p g1 g2) G g) w0 w s F) {w1 : World} {T : Nat → Prop} (hb : But T w w1) (ht : ∀ q, T q → w0.heap.size ≤ q) (hd : ∀ q, F q → T q → False) : LiveA (ML (one p g1 g2) G g) w0 w1 s F :=
  ⟨(ML (one p g1 g2) G g).but h.at_ hb hd, h.new, h.bel.trans (hb.below (fun k hk hq => by have := ht k hq; omega) h.bel.size)⟩
/-- New devices, the first one told what is kept, and power when it fails. -/
theorem up_new (x y z : Int) : (((S0.new 4).new 4).put 0 ((((S0.new 4).new 4).at 0).tear x y)).fail z = ⟨⟨false, failN z⟩, [dvT (List.replicate 4 zeroS) [] (keptN x) (bytesN y), dvT (List.replicate 4 zeroS) [] 0 0]⟩ := rfl
end
/-! ### Four sectors in a box -/
def svF (l : List (List UInt8)) : Array Value := (svs l).toArray
theorem svFs {l : List (List UInt8)} (h3 : ∀ s ∈ l, s.length = 128) (hl : l.length = 4) : (svF l).size = 512 := by
  rw [svF, List.size_toArray, svs_length h3, hl]
end Go.Proofs.YtnplhagfmfggcaaGreat.Mu
/-
  A log over a mirror of two devices of one power, in the laws: what each method tells, and makes of it.
-/
namespace Go.Proofs.YtnplhagfmfggcaaGreat.Lo
open Go.RowKit Kd Mi Sx Sg
section
variable {p g1 g2 g q : Nat} {G : Gd} {w0 w w' : World} {s s' : Mr (Mu.one p g1 g2)} {l l' : Lg} {F : Nat → Prop} {x x' : Md} {m m' : Nat}
/-- A log, its mirror, their devices: all new behind w0. -/
structure LgM (p g1 g2 : Nat) (G : Gd) (g q : Nat) (w0 w : World) (s : Mr (Mu.one p g1 g2)) (l : Lg) (F : Nat → Prop) (x : Md) (m : Nat) : Prop where
  live : LiveA (LogL (Mu.one p g1 g2) G g q litS) w0 w (s, l) F
  sees : Mu.Sees s x m
  dry : Mu.Dry s x
  fine : l.Fine
/-- It returns v; the log is l now, the mirror x. -/
def RetLM (v : Value) (p g1 g2 : Nat) (G : Gd) (g q : Nat) (w0 : World) (l : Lg) (x : Md) (m : Nat) (F : Nat → Prop) (w : World) (e : Ending) (w' : World) : Prop :=
  e = .returned v ∧ ∃ (s : Mr (Mu.one p g1 g2)) (F' : Nat → Prop), LgM p g1 g2 G g q w0 w' s l F' x m ∧ Mv (LogL (Mu.one p g1 g2) G g q litS) w F w' (s, l) F'
theorem LgM.ret (h : LgM p g1 g2 G g q w0 w s l F x m) {v : Value} {e : Ending} (hr : RetA (LogL (Mu.one p g1 g2) G g q litS) v (s', l') F w e w') (hs : Mu.Sees s' x' m') (hd : Mu.Dry s' x') (hf : l'.Fine) : RetLM v p g1 g2 G g q w0 l' x' m' F w e w' := by
  obtain ⟨rfl, F', hm⟩ := hr
  exact ⟨rfl, s', F', ⟨h.live.step hm, hs, hd, hf⟩, hm⟩
theorem LgM.below (h : LgM p g1 g2 G g q w0 w s l F x m) (hb : Below w.heap.size w w') : LgM p g1 g2 G g q w0 w' s l F x m := ⟨h.live.below hb, h.sees, h.dry, h.fine⟩
theorem LgM.more (h : LgM p g1 g2 G g q w0 w s l F x m) {m' : Nat} (hm : m ≤ m') : LgM p g1 g2 G g q w0 w s l F x m' := ⟨h.live, h.sees.more hm, h.dry, h.fine⟩
/-- A body is appended. -/
theorem lgm_append (h : LgM p g1 g2 G g q w0 w s l F x m) (hm : m < 900000) (hl : l.last < 1000000) (h0 : 0 < l.size) {t : Nat × Nat × Nat} (hn : l.next = some t) (A : Option Addr) (n c : Nat) (b : List UInt8) (hb : b.length = n) (hb3 : n ≤ 103) (hr : Rd w.heap.size w A (bv b))
    (hw : (x.write (l.at_ t : Int) (sealedS litS.f (l.at_ t : Int) t.2.2 b)).1 = 0) :
    Calls Tryz.prog 17 #[.pointer (some ⟨q, 0, none⟩), .slice A n c] w (RetLM (.tuple #[.int .i64 (l.at_ t : Int), .int .i64 0]) p g1 g2 G g q w0 (l.put t) (x.write (l.at_ t : Int) (sealedS litS.f (l.at_ t : Int) t.2.2 b)).2 (m + 2) F w) := by
  have hc := append_any h.live.at_ h.fine h.sees.ok (Nat.lt_of_le_of_lt h.sees.most hm) hl A n c b hb hr
  obtain ⟨h1, h2⟩ := h.sees.write (l.at_ t : Int) (sealedS litS.f (l.at_ t : Int) t.2.2 b)
  have e : apnd litS s l b = (((l.at_ t : Int), 0), (s.write (l.at_ t : Int) (sealedS litS.f (l.at_ t : Int) t.2.2 b)).2, l.put t) := by
    rw [apnd, if_neg (by omega), hn]
    show (if _ then _ else _) = _
    rw [if_pos (by rw [h1]; exact hw)]
  rw [e] at hc
  exact hc.mono fun _ _ hr => h.ret hr h2 (h.dry.write h.sees _ _) (Lg.put_fine h.fine hn h0)
theorem lgm_append_long (h : LgM p g1 g2 G g q w0 w s l F x m) (hm : m < 900000) (hl : l.last < 1000000) (A : Option Addr) (n c : Nat) (b : List UInt8) (hb : b.length = n) (hb3 : 103 < n) (hr : Rd w.heap.size w A (bv b)) :
    Calls Tryz.prog 17 #[.pointer (some ⟨q, 0, none⟩), .slice A n c] w (RetLM (.tuple #[.int .i64 0, .int .i64 3]) p g1 g2 G g q w0 l x m F w) := by
  have hc := append_any h.live.at_ h.fine h.sees.ok (Nat.lt_of_le_of_lt h.sees.most hm) hl A n c b hb hr
  rw [apnd, if_pos (by omega)] at hc
  exact hc.mono fun _ _ hr => h.ret hr h.sees h.dry h.fine
theorem lgm_append_full (h : LgM p g1 g2 G g q w0 w s l F x m) (hm : m < 900000) (hl : l.last < 1000000) (hn : l.next = none) (A : Option Addr) (n c : Nat) (b : List UInt8) (hb : b.length = n) (hb3 : n ≤ 103) (hr : Rd w.heap.size w A (bv b)) :
    Calls Tryz.prog 17 #[.pointer (some ⟨q, 0, none⟩), .slice A n c] w (RetLM (.tuple #[.int .i64 0, .int .i64 6]) p g1 g2 G g q w0 l x m F w) := by
  have hc := append_any h.live.at_ h.fine h.sees.ok (Nat.lt_of_le_of_lt h.sees.most hm) hl A n c b hb hr
  rw [apnd, if_neg (by omega), hn] at hc
  exact hc.mono fun _ _ hr => h.ret hr h.sees h.dry h.fine
theorem lgm_flush (h : LgM p g1 g2 G g q w0 w s l F x m) :
    Calls Tryz.prog 25 #[.pointer (some ⟨q, 0, none⟩)] w (RetLM (.int .i64 (if x.o0 && x.o1 then 13 else 0)) p g1 g2 G g q w0 l x 0 F w) := by
  obtain ⟨h1, h2⟩ := h.sees.flush h.dry
  have hc := lflush_any h.live.at_
  rw [h1] at hc
  exact hc.mono fun _ _ hr => h.ret hr h2 h2.dry h.fine
theorem lgm_free (h : LgM p g1 g2 G g q w0 w s l F x m) (k : Int) (h1 : -9223372036854775808 ≤ k) (h2 : k ≤ 9223372036854775807) :
    Calls Tryz.prog 24 #[.pointer (some ⟨q, 0, none⟩), .int .i64 k] w (RetLM (.int .i64 (l.freeE k)) p g1 g2 G g q w0 (if l.freeE k = 0 then l.free k.toNat else l) x m F w) := by
  refine (lfree_any h.live.at_ h1 h2).mono fun _ _ hr => h.ret hr h.sees h.dry ?_
  by_cases hk : l.freeE k = 0
  · rw [if_pos hk]; exact Lg.free_fine h.fine hk
  · rw [if_neg hk]; exact h.fine
theorem lgm_gen (h : LgM p g1 g2 G g q w0 w s l F x m) (k : Int) (h1 : -9223372036854775808 ≤ k) (h2 : k ≤ 9223372036854775807) :
    Calls Tryz.prog 19 #[.pointer (some ⟨q, 0, none⟩), .int .i64 k] w (RetB (.int .u64 (if 0 ≤ k then ((l.gens.getD k.toNat 0 : Nat) : Int) else 0)) w) := lgen_any h.live.at_ h1 h2
theorem lgm_head (h : LgM p g1 g2 G g q w0 w s l F x m) : Calls Tryz.prog 16 #[.pointer (some ⟨q, 0, none⟩)] w (RetB (.tuple #[.int .i64 l.headI, .int .i64 l.slotI]) w) := lhead_any h.live.at_
theorem lgm_room (h : LgM p g1 g2 G g q w0 w s l F x m) : Calls Tryz.prog 15 #[.pointer (some ⟨q, 0, none⟩)] w (RetB (.int .i64 (l.room : Int)) w) := lroom_any h.live.at_ h.fine
/-- What Read tells of a mirror that is x. -/
def readX (G : Gd) (x : Md) (l : Lg) (k : Int) : List UInt8 × Int :=
  if 2 ≤ k ∧ k < 2 + (l.gens.length : Int) * l.size ∧ l.gens.getD ((k.toNat - 2) / l.size) 0 ≠ 0 then
    (if (x.read G.f k).2 = 0 then (if okS litS.f k (x.read G.f k).1 = true ∧ genS (x.read G.f k).1 = l.gens.getD ((k.toNat - 2) / l.size) 0 then (bodyS (x.read G.f k).1, 0) else ([], 9)) else ([], (x.read G.f k).2))
  else ([], 2)
theorem lgm_read (h : LgM p g1 g2 G g q w0 w s l F x m) (k : Int) :
    Calls Tryz.prog 18 #[.pointer (some ⟨q, 0, none⟩), .int .i64 k] w (fun e w' => ∃ A n c F', e = .returned (.tuple #[.slice A n c, .int .i64 (readX G x l k).2]) ∧ w'.ownsRow w.heap.size 5 1 (.slice A n c) n (bv (readX G x l k).1) ∧
      LgM p g1 g2 G g q w0 w' s l F' x m ∧ Mv (LogL (Mu.one p g1 g2) G g q litS) w F w' (s, l) F' ∧ ∀ j, (Value.slice A n c).ownBlock = some j → ¬F' j) := by
  have hc := lread_any h.live.at_ (by rw [h.sees.ok.1, h.sees.ok.2]) k
  have e : readL litS G s l k = readX G x l k := by rw [readL, readX, h.sees.read k]
  rw [e] at hc
  refine hc.mono ?_
  rintro e w' ⟨A, n, c, rfl, ho, F', hm, hd⟩
  exact ⟨A, n, c, F', rfl, ho, ⟨h.live.step hm, h.sees, h.dry, h.fine⟩, hm, hd⟩
end
end Go.Proofs.YtnplhagfmfggcaaGreat.Lo
/-
  A new log over a mirror, in the laws.
-/
namespace Go.Proofs.YtnplhagfmfggcaaGreat.Lo
open Go.RowKit Kd Mi Sx Sg
section
variable {p g1 g2 g : Nat} {w0 w : World} {s : Mr (Mu.one p g1 g2)} {F : Nat → Prop} {x : Md} {m b n : Nat}
theorem lgm_new (h : Mu.LM p g1 g2 (gdS litS b) g w0 w s F x m) (a sz : Nat) (hok : Sg.okS (a : Int) (sz : Int)) (hn : 2 + a * sz ≤ x.a.length) :
    Calls Tryz.prog 23 #[.pointer (some ⟨g, 0, none⟩), litS.v, .agg #[.int .i64 a, .int .i64 sz]] w (fun e w' => ∃ q F', e = .returned (.tuple #[.pointer (some ⟨q, 0, none⟩), .int .i64 0]) ∧ LgM p g1 g2 (gdS litS b) g q w0 w' s (Lg.new a sz) F' x m ∧ (∀ k, F' k → F k ∨ w.heap.size ≤ k) ∧ Below w.heap.size w w') := by
  refine (rnew_any h.live.at_ litS a sz hok (by rw [h.sees.a]; exact hn)).mono ?_
  rintro e w' ⟨q, F', rfl, h1, h2, h3⟩
  rw [← rl_new] at h1
  exact ⟨q, F', rfl, ⟨⟨h1, fun k hk => (h2 k hk).elim (h.live.new k) (Nat.le_trans h.live.bel.size), h.live.bel.trans (h3.mono h.live.bel.size)⟩, h.sees, h.dry, Lg.new_fine a sz⟩, h2, h3⟩
end
end Go.Proofs.YtnplhagfmfggcaaGreat.Lo
/-
  A mirror of two devices of one power, made by a function that has boxes; the devices that a mirror has.
-/
namespace Go.Proofs.YtnplhagfmfggcaaGreat.Lo
open Go.RowKit Kd Mi Sx
section
variable {p g1 g2 g : Nat} {G : Gd} {w0 w w' : World} {d : Sy} {s s' : Mr (Mu.one p g1 g2)} {F : Nat → Prop} {x x' : Md} {m m' : Nat}
/-- A mirror of two devices of one power, by a function that has boxes. -/
theorem lm_newB (hR : ∀ A n c B m e, G.R A n c B m e) {L0 L1 : List (List UInt8)} {o0 o1 : Bool} {n : Nat} (h : Mu.LD p g1 g2 w0 w d F L0 L1 o0 o1 0) (hG : ∀ x ∈ G.l, Blk w x.1 x.2.1 x.2.2 ∧ ¬ F x.1 ∧ w0.heap.size ≤ x.1) (e0 : L0.length = n) (e1 : L1.length = n) :
    Calls Tryz.prog 13 #[.pointer (some ⟨g1, 0, none⟩), .pointer (some ⟨g2, 0, none⟩), G.v] w (fun e w' => ∃ g s F', e = .returned (.pointer (some ⟨g, 0, none⟩)) ∧ Mu.LM p g1 g2 G g w0 w' s F' ⟨L0, L1, o0, o1, List.replicate n o0, List.replicate n o1⟩ 0 ∧
      (∀ q, F' q → (F q ∨ ∃ y ∈ G.l, q = y.1) ∨ w.heap.size ≤ q) ∧ But (fun q => F q ∨ ∃ y ∈ G.l, q = y.1) w w') := by
  refine (new_anyG (C := Mu.one p g1 g2) hR h.live.at_ (fun x hx => ⟨(hG x hx).1, (hG x hx).2.1⟩) rfl).mono ?_
  rintro e w' ⟨g, F', rfl, h1, h2, h3⟩
  have hs : Mu.Sees (newM (Mu.one p g1 g2) d) ⟨L0, L1, o0, o1, List.replicate n o0, List.replicate n o1⟩ 0 := Mu.sees_new h.d0 h.d1 e0 e1
  have hF : ∀ q, (F q ∨ ∃ y ∈ G.l, q = y.1) → w0.heap.size ≤ q := fun q hq => hq.elim (h.live.new q) (fun ⟨y, hy, e⟩ => by rw [e]; exact (hG y hy).2.2)
  exact ⟨g, _, F', rfl, ⟨⟨h1, fun q hq => (h2 q hq).elim (hF q) (Nat.le_trans h.live.bel.size), h.live.bel.trans (h3.below (fun k hk hq => by have := hF k hq; omega) h.live.bel.size)⟩, hs, hs.dry⟩, h2, h3⟩
/-- The devices that a mirror has. -/
theorem lm_devs (h : Mu.LM p g1 g2 G g w0 w s F x 0) : ∃ F1, Mu.LD p g1 g2 w0 w s.d F1 x.l0 x.l1 x.o0 x.o1 0 ∧ ∀ k, F1 k → F k := by
  obtain ⟨A, n, c, B, m, e, F1, hr, h1, h2⟩ := h.live.at_
  exact ⟨F1, ⟨⟨hr.d, fun q hq => h.live.new q (h1 q (.inr (.inr (.inr (.inl hq))))), h.live.bel⟩, h.sees.d0, h.sees.d1⟩, fun k hk => h1 k (.inr (.inr (.inr (.inl hk))))⟩
end
end Go.Proofs.YtnplhagfmfggcaaGreat.Lo
