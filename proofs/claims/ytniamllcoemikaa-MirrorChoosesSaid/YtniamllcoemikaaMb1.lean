/-
  Texts of this seat, one behind the other: ScSeal, ScMap.
-/
import Derived.OrdersHeld
import Derived.Deep.RegionHeld
import Derived.Maps.RangeWalk
import Derived.Maps.OwnSet
import Derived.Test.YtniamllcoemikaaMz1
/-
  The laws' sealed and healthy: what a sealed sector is, and that one that is rotten at a byte isn't one.
-/
namespace Go.Proofs.Ytniamllcoemikaa.Sc
open Go.RowKit Kd Mi
attribute [local go_sem ↓] Go.wp_at_zero Go.wp_at_succ
/-- A number's lowest byte. -/
def bN (n : Int) : UInt8 := UInt8.ofNat (n % 256).toNat
theorem bN_wrap (n : Int) : IntKind.u8.wrap n = ((bN n).toNat : Int) := by
  rw [bN, UInt8.toNat_ofNat', IntKind.wrap_u8]; omega
def sealN (n : Int) (x : UInt8) : List UInt8 := bN n :: List.replicate 127 x
theorem sealN_length (n : Int) (x : UInt8) : (sealN n x).length = 128 := by simp [sealN]
def healN (n : Int) (t : List UInt8) : Bool := decide (t = sealN n (t.getD 1 0))
theorem heal_seal (n : Int) (x : UInt8) : healN n (sealN n x) = true := by
  rw [healN, show (sealN n x).getD 1 0 = x from rfl]; exact decide_eq_true rfl
theorem seal_get (n : Int) (x : UInt8) {a : Nat} (h0 : 0 < a) (ha : a < 128) : (sealN n x).getD a 0 = x := by
  obtain ⟨b, rfl⟩ : ∃ b, a = b + 1 := ⟨a - 1, by omega⟩
  rw [sealN, List.getD_eq_getElem?_getD, List.getElem?_cons_succ, List.getElem?_replicate, if_pos (by omega)]; rfl
theorem xor_ne {x m : UInt8} (h : m ≠ 0) : x ^^^ m ≠ x := fun e => h (by
  have h1 : x ^^^ (x ^^^ m) = x ^^^ x := by rw [e]
  rwa [← UInt8.xor_assoc, UInt8.xor_self, UInt8.zero_xor] at h1)
theorem rot_ill (n : Int) (x : UInt8) {a : Nat} (ha : a < 128) {m : UInt8} (hm : m ≠ 0) : healN n (rotS (sealN n x) a m) = false := by
  have hg : ∀ j, j < 128 → (rotS (sealN n x) a m).getD j 0 = if j = a then (sealN n x).getD j 0 ^^^ m else (sealN n x).getD j 0 := fun j hj => rotS_get (by rw [sealN_length]; exact hj)
  rw [healN]
  refine decide_eq_false fun e => ?_
  by_cases h1 : a = 1
  · subst h1
    have e1 := hg 1 (by omega)
    have e2 := hg 2 (by omega)
    rw [if_pos rfl, seal_get n x (by omega) (by omega)] at e1
    rw [if_neg (by omega), seal_get n x (by omega) (by omega), e, e1, seal_get n _ (by omega) (by omega)] at e2
    exact xor_ne hm e2
  · have e1 := hg 1 (by omega)
    rw [if_neg (by omega), seal_get n x (by omega) (by omega)] at e1
    have ea := hg a ha
    rw [if_pos rfl, e, e1] at ea
    exact xor_ne hm ea.symm
theorem blk_byte {w : World} {g : Nat} {l : List UInt8} {t : TypeId} (h : Blk w g (bva l) t) {j : Nat} (hj : j < l.length) : w.cell? ⟨g, j, none⟩ = some (.int .u8 ((l.getD j 0).toNat : Int)) := byte_cell h hj
def part (x : UInt8) (j : Nat) : List UInt8 := List.replicate j x ++ List.replicate (128 - j) 0
theorem part_set (x : UInt8) {j : Nat} (h : j < 128) : (part x j).set j x = part x (j + 1) := by
  rw [part, List.set_append_right _ _ (by simp), List.length_replicate, Nat.sub_self, show 128 - j = (128 - (j + 1)) + 1 by omega, List.replicate_succ, List.set_cons_zero, part, List.replicate_succ', List.append_assoc]; rfl
theorem part_end (n : Int) (x : UInt8) : ((part x 128).set 0 (bN n)).set 1 x = sealN n x := by
  rw [part, Nat.sub_self, List.replicate_zero, List.append_nil]; rfl
set_option maxRecDepth 100000 in
set_option maxHeartbeats 6400000 in
theorem sealed_any (w : World) (n : Int) (x : UInt8) : Calls Try.prog 37 #[.int .i64 n, .int .u8 (x.toNat : Int)] w (RetB (.agg (bva (sealN n x))) w) := by
  obtain ⟨z, hz0⟩ : ∃ z : List UInt8, z = zeroS := ⟨_, rfl⟩
  have hz : ∀ W, (zeroValue 37).run Try.prog W = .ok (.agg (bva z)) W := fun _ => by rw [hz0]; kernel_rfl
  have HZ3 := Lib.hid (show z.length = 128 by rw [hz0]; exact zeroS_length)
  have HZP := Lib.hid (show z = part x 0 by rw [hz0]; rfl)
  clear hz0
  obtain ⟨w1, hw1⟩ : ∃ w1, w1 = (w.alloc (.cells (bva z) 37)).alloc (.cells (bva z) 37) := ⟨_, rfl⟩
  obtain ⟨w2, hw2, hX, hY, hB⟩ := two_boxesS w z z
  obtain rfl : w1 = w2 := hw1.trans hw2.symm
  have X1 := Lib.hid hX
  have Y1 := Lib.hid hY
  have B1 := Lib.hid hB
  have wn := bN_wrap n
  obtain ⟨bn, hbn⟩ : ∃ bn, bn = bN n := ⟨_, rfl⟩
  rw [← hbn] at wn
  have HEN := Lib.hid (show ((part x 128).set 0 bn).set 1 x = sealN n x by rw [hbn]; exact part_end n x)
  obtain ⟨y, hy⟩ : ∃ y, y = sealN n x := ⟨_, rfl⟩
  have HY3 := Lib.hid (show y.length = 128 by rw [hy]; exact sealN_length n x)
  have HIY : Hid ((Try.prog.info? 37).map (·.size) = some (bva y).size) := by rw [bva_size, HY3.out]; exact info_sec
  rw [← hy] at HEN
  rw [← hy]
  clear hX hY hB hw2 hbn hy
  go_enter Try.func37, Try.ntmps37
  go_upto_region 2 with fail
  rw [← hw1]
  clear hw1
  obtain ⟨q, hq⟩ : ∃ q, q = w.heap.size := ⟨_, rfl⟩
  rw [← hq] at X1 Y1
  rw [← hq]
  have HQ := Lib.hid (show w.heap.size ≤ q by omega)
  clear hq
  go_wp2_with fail
  go_loopw [7] (fun i wr => ∃ (j : Nat), j ≤ 128 ∧ i = .int .i64 j ∧ Below w.heap.size w wr ∧ Blk wr q (bva z) 37 ∧ Blk wr (q + 1) (bva (part x j)) 37) (fun i _ => 128 - (intOf i).toNat)
  case atStart => exact ⟨0, by omega, rfl, B1.out, X1.out, by rw [← HZP.out]; exact Y1.out⟩
  case round =>
    clear X1 Y1 B1
    obtain ⟨j, hj, rfl, hb, hx, hy⟩ := hrel
    have HJ := Lib.hid hj
    have HW := Lib.hid hb
    have X := Lib.hid hx
    have Y := Lib.hid hy
    clear hj hb hx hy
    by_cases hlt : j < 128
    · have HLT := Lib.hid hlt
      have j0 : (0 : Int) ≤ (j : Int) := by omega
      have j1 : (j : Int) < 128 := by omega
      have wj : IntKind.i64.wrap ((j : Int) + 1) = ((j + 1 : Nat) : Int) := IntWalk.i64_in _ (by omega)
      have hc := blk_byte Y.out (j := j) (by simp [part]; omega)
      have hf := Y.out.free j
      have HS := Lib.hid (part_set x hlt)
      clear hlt
      go_wp2_with fail
      go_roundw
      case rel => exact ⟨j + 1, HLT.out, by go_num, HW.out.setCell (by have := HQ.out; show w.heap.size ≤ q + 1; omega) _, X.out.but (but_one _) (by omega), by rw [← HS.out]; exact Y.out.setb j x rfl⟩
      case measure => (have := HLT.out; simp [intOf]; omega)
    · obtain rfl : j = 128 := by have := HJ.out; omega
      have hc0 := blk_byte Y.out (j := 0) (by simp [part])
      have hf0 := Y.out.free 0
      have hf1 := Y.out.free 1
      have hc1 := blk_byte Y.out (j := 1) (by simp [part])
      clear hlt
      go_upto_region 8 with fail
      obtain ⟨wy, hwy⟩ : ∃ wy, wy = (wr.setCell ⟨q + 1, 0, none⟩ (.int .u8 (bn.toNat : Int))).setCell ⟨q + 1, 1, none⟩ (.int .u8 (x.toNat : Int)) := ⟨_, rfl⟩
      have YY := Lib.hid (show Blk wy (q + 1) (bva y) 37 by rw [hwy, ← HEN.out]; exact (Y.out.setb 0 bn rfl).setb 1 x rfl)
      have XX := Lib.hid (show Blk wy q (bva z) 37 by rw [hwy]; exact (X.out.but (but_one _) (by omega)).but (but_one _) (by omega))
      have BW := Lib.hid (show Below w.heap.size w wy by rw [hwy]; exact (HW.out.setCell (by have := HQ.out; show w.heap.size ≤ q + 1; omega) _).setCell (by have := HQ.out; show w.heap.size ≤ q + 1; omega) _)
      rw [← hwy]
      clear hwy X Y HW hc0 hf0 hf1 hc1
      go_wp2_with (first
        | (refine wpList_load_row rfl 37 (.tmp 5) rfl _ rfl 37 (bva y) (0, 0) _ YY.out Try.underlying37 rfl HIY.out ?_)
        | (refine wpList_store_row rfl 37 (.tmp 4) (.tmp 19) rfl q (bva y) rfl rfl 37 (bva z) XX.out HIY.out (by rw [bva_size, bva_size, HY3.out, HZ3.out]) (bva_one _) ?_))
      exact bodyPost_ret (v := .agg (bva y)) (results_cell_row Try.results37 _ _ q 37 (bva y) (0, 0) _ rfl (setRow_heap _ _ _ _ _ _ XX.out) Try.underlying37 rfl HIY.out) rfl ⟨rfl, below_setRow BW.out HQ.out _⟩
set_option maxRecDepth 100000 in
set_option maxHeartbeats 6400000 in
theorem healthy_any (w : World) (n : Int) (s : List UInt8) (hs : s.length = 128) : Calls Try.prog 36 #[.int .i64 n, .agg (bva s)] w (RetB (.bool (healN n s)) w) := by
  obtain ⟨w1, hw1⟩ : ∃ w1, w1 = w.alloc (.cells (bva s) 37) := ⟨_, rfl⟩
  have X := Lib.hid (show Blk w1 w.heap.size (bva s) 37 from by rw [hw1]; exact heap_alloc_new _ _)
  have B1 := Lib.hid (show Below w.heap.size w w1 from by rw [hw1]; exact (Below.refl _ _).alloc (Nat.le_refl _) _)
  have HS3 := Lib.hid hs
  have HIS : Hid ((Try.prog.info? 37).map (·.size) = some (bva s).size) := by rw [bva_size, hs]; exact info_sec
  obtain ⟨x, hx⟩ : ∃ x, x = s.getD 1 0 := ⟨_, rfl⟩
  obtain ⟨y, hy⟩ : ∃ y, y = sealN n x := ⟨_, rfl⟩
  have HY3 := Lib.hid (show y.length = 128 by rw [hy]; exact sealN_length n x)
  have HSY := Lib.hid (show ∀ w, Calls Try.prog 37 #[.int .i64 n, .int .u8 (x.toNat : Int)] w (RetB (.agg (bva y)) w) from fun w => by rw [hy]; exact sealed_any w n x)
  have HV := Lib.hid (show healN n s = decide (s = y) by rw [healN, hy, hx])
  have HE2 := Lib.hid (show s = y → s.getD 2 0 = x ∧ s.getD 3 0 = x from fun e => by rw [e, hy]; exact ⟨seal_get n x (by omega) (by omega), seal_get n x (by omega) (by omega)⟩)
  have HQ := Lib.hid (show ∀ W, (Op.equalIn 10000 37 (.agg (bva s)) (.agg (bva y))).run Try.prog W = .ok (decide (s = y)) W from fun W => eq_sec s y hs HY3.out W)
  rw [HV.out]
  have HX1 := Lib.hid hx
  clear hx hy HV hs
  obtain ⟨q, hq⟩ : ∃ q, q = w.heap.size := ⟨_, rfl⟩
  have HC1 := Lib.hid (show ∀ w', Below w1.heap.size w1 w' → w'.cell? ⟨q, 1, none⟩ = some (.int .u8 (x.toNat : Int)) from fun w' hb => by rw [hq, blk_byte (X.out.below hb) (by rw [HS3.out]; omega), ← HX1.out])
  have HCJ := Lib.hid (show ∀ j, j < 128 → ∀ w', Below w1.heap.size w1 w' → w'.cell? ⟨q, j, none⟩ = some (.int .u8 ((s.getD j 0).toNat : Int)) from fun j hj w' hb => by rw [hq, blk_byte (X.out.below hb) (by rw [HS3.out]; omega)])
  rw [← hq] at X
  go_enter Try.func36, Try.ntmps36
  go_upto_region 1 with fail
  rw [← hw1, ← hq]
  clear hw1 hq
  by_cases hsy : s = y
  · have hd : decide (s = y) = true := decide_eq_true hsy
    have HD := Lib.hid hd
    rw [hd]
    obtain ⟨h2, h3⟩ := HE2.out hsy
    have HC2 := Lib.hid (show ∀ w', Below w1.heap.size w1 w' → w'.cell? ⟨q, 2, none⟩ = some (.int .u8 (x.toNat : Int)) from fun w' hb => by rw [HCJ.out 2 (by omega) w' hb, h2])
    have HC3 := Lib.hid (show ∀ w', Below w1.heap.size w1 w' → w'.cell? ⟨q, 3, none⟩ = some (.int .u8 (x.toNat : Int)) from fun w' hb => by rw [HCJ.out 3 (by omega) w' hb, h3])
    clear hsy hd h2 h3
    refine wp_region_held_drew (S := fun w' => Below w1.heap.size w1 w') (by kernel_rfl) (Below.refl _ _).drew (fun hh => ?_)
    have HH := Lib.hid hh
    clear hh
    refine wpAnyH_take (i := 0) (v := .agg (bva s)) rfl (by kernel_rfl) (by kernel_rfl) (by kernel_rfl) (fun _ _ _ h => h) (Or.inl ⟨by rfl, fun w' hw' => ?yA0⟩) HH.out ?_
    case yA0 => exact exec_load 37 (.tmp 3) rfl rfl (X.out.below hw') Try.underlying37 rfl HIS.out
    refine wpAnyH_take (i := 1) (v := ?vA1) rfl (by kernel_rfl) (by kernel_rfl) (by kernel_rfl) (fun _ _ _ h => h) (Or.inl ⟨by rfl, fun w' _ => ?yA1⟩) HH.out ?_
    case yA1 => (go_simp; try with_reducible rfl)
    try simp only [List.getElem_toArray, List.getElem_cons_succ, List.getElem_cons_zero, Act.put, List.setIfInBounds_toArray, List.set_cons_zero, List.set_cons_succ]
    refine wpAnyH_take (i := 2) (v := ?vA2) rfl (by kernel_rfl) (by kernel_rfl) (by kernel_rfl) (fun _ _ _ h => h) (Or.inl ⟨by rfl, fun w' _ => ?yA2⟩) HH.out ?_
    case yA2 => (go_simp; try with_reducible rfl)
    refine wpAnyH_take (i := 3) (v := .int .u8 (x.toNat : Int)) rfl (by kernel_rfl) (by kernel_rfl) (by kernel_rfl) (fun _ _ _ h => h) (Or.inl ⟨by rfl, fun w' hw' => ?yA3⟩) HH.out ?_
    case yA3 => (have hc := HC1.out w' hw'; go_simp; try with_reducible rfl)
    try simp only [List.getElem_toArray, List.getElem_cons_succ, List.getElem_cons_zero, Act.put, List.setIfInBounds_toArray, List.set_cons_zero, List.set_cons_succ]
    refine wpAnyH_ready (rs := [4]) (by kernel_rfl) (by simp) (AllReadyH.cons rfl (fun K hK => ?_) AllReadyH.nil)
    go_simp
    refine (HSY.out _).mono ?_
    rintro e v1 ⟨rfl, bw⟩
    go_simp
    refine hK.out _ _ (HH.out.trans (bw.mono HH.out.size)) (fun hh => ?_)
    have HH' := Lib.hid hh
    clear hh hK K HH bw
    have HH := Lib.hid HH'.out
    clear HH'
    try simp only [List.getElem_toArray, List.getElem_cons_succ, List.getElem_cons_zero, Act.put, List.setIfInBounds_toArray, List.set_cons_zero, List.set_cons_succ]
    refine wpAnyH_take (i := 5) (v := .bool true) rfl (by kernel_rfl) (by kernel_rfl) (by kernel_rfl) (fun _ _ _ h => h) (Or.inl ⟨by rfl, fun w' hw' => ?yA5⟩) HH.out ?_
    case yA5 => (go_simp; rw [HQ.out, HD.out]; rfl)
    refine wpAnyH_take (i := 6) (v := ?vA6) rfl (by kernel_rfl) (by kernel_rfl) (by kernel_rfl) (fun _ _ _ h => h) (Or.inl ⟨by rfl, fun w' _ => ?yA6⟩) HH.out ?_
    case yA6 => (go_simp; try with_reducible rfl)
    try simp only [List.getElem_toArray, List.getElem_cons_succ, List.getElem_cons_zero, Act.put, List.setIfInBounds_toArray, List.set_cons_zero, List.set_cons_succ]
    refine wpAnyH_take (i := 7) (v := ?vA7) rfl (by kernel_rfl) (by kernel_rfl) (by kernel_rfl) (fun _ _ _ h => h) (Or.inl ⟨by rfl, fun w' _ => ?yA7⟩) HH.out ?_
    case yA7 => (go_simp; try with_reducible rfl)
    try simp only [List.getElem_toArray, List.getElem_cons_succ, List.getElem_cons_zero, Act.put, List.setIfInBounds_toArray, List.set_cons_zero, List.set_cons_succ]
    refine wpAnyH_take (i := 8) (v := .int .u8 (x.toNat : Int)) rfl (by kernel_rfl) (by kernel_rfl) (by kernel_rfl) (fun _ _ _ h => h) (Or.inl ⟨by rfl, fun w' hw' => ?yA8⟩) HH.out ?_
    case yA8 => (have hc := HC1.out w' hw'; go_simp; try with_reducible rfl)
    try simp only [List.getElem_toArray, List.getElem_cons_succ, List.getElem_cons_zero, Act.put, List.setIfInBounds_toArray, List.set_cons_zero, List.set_cons_succ]
    refine wpAnyH_take (i := 9) (v := ?vA9) rfl (by kernel_rfl) (by kernel_rfl) (by kernel_rfl) (fun _ _ _ h => h) (Or.inl ⟨by rfl, fun w' _ => ?yA9⟩) HH.out ?_
    case yA9 => (go_simp; try with_reducible rfl)
    refine wpAnyH_take (i := 10) (v := .int .u8 (x.toNat : Int)) rfl (by kernel_rfl) (by kernel_rfl) (by kernel_rfl) (fun _ _ _ h => h) (Or.inl ⟨by rfl, fun w' hw' => ?yA10⟩) HH.out ?_
    case yA10 => (have hc := HC2.out w' hw'; go_simp; try with_reducible rfl)
    try simp only [List.getElem_toArray, List.getElem_cons_succ, List.getElem_cons_zero, Act.put, List.setIfInBounds_toArray, List.set_cons_zero, List.set_cons_succ]
    refine wpAnyH_take (i := 11) (v := ?vA11) rfl (by kernel_rfl) (by kernel_rfl) (by kernel_rfl) (fun _ _ _ h => h) (Or.inl ⟨by rfl, fun w' _ => ?yA11⟩) HH.out ?_
    case yA11 => (go_simp; try with_reducible rfl)
    try simp only [List.getElem_toArray, List.getElem_cons_succ, List.getElem_cons_zero, Act.put, List.setIfInBounds_toArray, List.set_cons_zero, List.set_cons_succ]
    refine wpAnyH_take (i := 12) (v := ?vA12) rfl (by kernel_rfl) (by kernel_rfl) (by kernel_rfl) (fun _ _ _ h => h) (Or.inl ⟨by rfl, fun w' _ => ?yA12⟩) HH.out ?_
    case yA12 => (go_simp; try with_reducible rfl)
    try simp only [List.getElem_toArray, List.getElem_cons_succ, List.getElem_cons_zero, Act.put, List.setIfInBounds_toArray, List.set_cons_zero, List.set_cons_succ]
    refine wpAnyH_take (i := 13) (v := ?vA13) rfl (by kernel_rfl) (by kernel_rfl) (by kernel_rfl) (fun _ _ _ h => h) (Or.inl ⟨by rfl, fun w' _ => ?yA13⟩) HH.out ?_
    case yA13 => (go_simp; try with_reducible rfl)
    try simp only [List.getElem_toArray, List.getElem_cons_succ, List.getElem_cons_zero, Act.put, List.setIfInBounds_toArray, List.set_cons_zero, List.set_cons_succ]
    refine wpAnyH_take (i := 14) (v := ?vA14) rfl (by kernel_rfl) (by kernel_rfl) (by kernel_rfl) (fun _ _ _ h => h) (Or.inl ⟨by rfl, fun w' _ => ?yA14⟩) HH.out ?_
    case yA14 => (go_simp; try with_reducible rfl)
    refine wpAnyH_take (i := 15) (v := .int .u8 (x.toNat : Int)) rfl (by kernel_rfl) (by kernel_rfl) (by kernel_rfl) (fun _ _ _ h => h) (Or.inl ⟨by rfl, fun w' hw' => ?yA15⟩) HH.out ?_
    case yA15 => (have hc := HC2.out w' hw'; go_simp; try with_reducible rfl)
    try simp only [List.getElem_toArray, List.getElem_cons_succ, List.getElem_cons_zero, Act.put, List.setIfInBounds_toArray, List.set_cons_zero, List.set_cons_succ]
    refine wpAnyH_take (i := 16) (v := ?vA16) rfl (by kernel_rfl) (by kernel_rfl) (by kernel_rfl) (fun _ _ _ h => h) (Or.inl ⟨by rfl, fun w' _ => ?yA16⟩) HH.out ?_
    case yA16 => (go_simp; try with_reducible rfl)
    try simp only [List.getElem_toArray, List.getElem_cons_succ, List.getElem_cons_zero, Act.put, List.setIfInBounds_toArray, List.set_cons_zero, List.set_cons_succ]
    refine wpAnyH_take (i := 17) (v := .int .u8 (x.toNat : Int)) rfl (by kernel_rfl) (by kernel_rfl) (by kernel_rfl) (fun _ _ _ h => h) (Or.inl ⟨by rfl, fun w' hw' => ?yA17⟩) HH.out ?_
    case yA17 => (have hc := HC3.out w' hw'; go_simp; try with_reducible rfl)
    try simp only [List.getElem_toArray, List.getElem_cons_succ, List.getElem_cons_zero, Act.put, List.setIfInBounds_toArray, List.set_cons_zero, List.set_cons_succ]
    refine wpAnyH_take (i := 18) (v := ?vA18) rfl (by kernel_rfl) (by kernel_rfl) (by kernel_rfl) (fun _ _ _ h => h) (Or.inl ⟨by rfl, fun w' _ => ?yA18⟩) HH.out ?_
    case yA18 => (go_simp; try with_reducible rfl)
    try simp only [List.getElem_toArray, List.getElem_cons_succ, List.getElem_cons_zero, Act.put, List.setIfInBounds_toArray, List.set_cons_zero, List.set_cons_succ]
    refine wpAnyH_take (i := 19) (v := ?vA19) rfl (by kernel_rfl) (by kernel_rfl) (by kernel_rfl) (fun _ _ _ h => h) (Or.inl ⟨by rfl, fun w' _ => ?yA19⟩) HH.out ?_
    case yA19 => (go_simp; try with_reducible rfl)
    try simp only [List.getElem_toArray, List.getElem_cons_succ, List.getElem_cons_zero, Act.put, List.setIfInBounds_toArray, List.set_cons_zero, List.set_cons_succ]
    refine wpAnyH_take (i := 20) (v := ?vA20) rfl (by kernel_rfl) (by kernel_rfl) (by kernel_rfl) (fun _ _ _ h => h) (Or.inl ⟨by rfl, fun w' _ => ?yA20⟩) HH.out ?_
    case yA20 => (go_simp; try with_reducible rfl)
    try simp only [List.getElem_toArray, List.getElem_cons_succ, List.getElem_cons_zero, Act.put, List.setIfInBounds_toArray, List.set_cons_zero, List.set_cons_succ]
    refine wpAnyH_done (by kernel_rfl) ?_ _
    go_wp2_with fail
    go_ret
    exact ⟨by rw [HD.out]; rfl, B1.out.trans (HH.out.mono B1.out.size)⟩
  · have hd : decide (s = y) = false := decide_eq_false hsy
    have HD := Lib.hid hd
    rw [hd]
    clear hsy hd
    refine wp_region_held_drew (S := fun w' => Below w1.heap.size w1 w') (by kernel_rfl) (Below.refl _ _).drew (fun hh => ?_)
    have HH := Lib.hid hh
    clear hh
    refine wpAnyH_take (i := 0) (v := .agg (bva s)) rfl (by kernel_rfl) (by kernel_rfl) (by kernel_rfl) (fun _ _ _ h => h) (Or.inl ⟨by rfl, fun w' hw' => ?yB0⟩) HH.out ?_
    case yB0 => exact exec_load 37 (.tmp 3) rfl rfl (X.out.below hw') Try.underlying37 rfl HIS.out
    refine wpAnyH_take (i := 1) (v := ?vB1) rfl (by kernel_rfl) (by kernel_rfl) (by kernel_rfl) (fun _ _ _ h => h) (Or.inl ⟨by rfl, fun w' _ => ?yB1⟩) HH.out ?_
    case yB1 => (go_simp; try with_reducible rfl)
    try simp only [List.getElem_toArray, List.getElem_cons_succ, List.getElem_cons_zero, Act.put, List.setIfInBounds_toArray, List.set_cons_zero, List.set_cons_succ]
    refine wpAnyH_take (i := 2) (v := ?vB2) rfl (by kernel_rfl) (by kernel_rfl) (by kernel_rfl) (fun _ _ _ h => h) (Or.inl ⟨by rfl, fun w' _ => ?yB2⟩) HH.out ?_
    case yB2 => (go_simp; try with_reducible rfl)
    refine wpAnyH_take (i := 3) (v := .int .u8 (x.toNat : Int)) rfl (by kernel_rfl) (by kernel_rfl) (by kernel_rfl) (fun _ _ _ h => h) (Or.inl ⟨by rfl, fun w' hw' => ?yB3⟩) HH.out ?_
    case yB3 => (have hc := HC1.out w' hw'; go_simp; try with_reducible rfl)
    try simp only [List.getElem_toArray, List.getElem_cons_succ, List.getElem_cons_zero, Act.put, List.setIfInBounds_toArray, List.set_cons_zero, List.set_cons_succ]
    refine wpAnyH_ready (rs := [4]) (by kernel_rfl) (by simp) (AllReadyH.cons rfl (fun K hK => ?_) AllReadyH.nil)
    go_simp
    refine (HSY.out _).mono ?_
    rintro e v1 ⟨rfl, bw⟩
    go_simp
    refine hK.out _ _ (HH.out.trans (bw.mono HH.out.size)) (fun hh => ?_)
    have HH' := Lib.hid hh
    clear hh hK K HH bw
    have HH := Lib.hid HH'.out
    clear HH'
    try simp only [List.getElem_toArray, List.getElem_cons_succ, List.getElem_cons_zero, Act.put, List.setIfInBounds_toArray, List.set_cons_zero, List.set_cons_succ]
    refine wpAnyH_take (i := 5) (v := .bool false) rfl (by kernel_rfl) (by kernel_rfl) (by kernel_rfl) (fun _ _ _ h => h) (Or.inl ⟨by rfl, fun w' hw' => ?yB5⟩) HH.out ?_
    case yB5 => (go_simp; rw [HQ.out, HD.out]; rfl)
    refine wpAnyH_take (i := 6) (v := ?vB6) rfl (by kernel_rfl) (by kernel_rfl) (by kernel_rfl) (fun _ _ _ h => h) (Or.inl ⟨by rfl, fun w' _ => ?yB6⟩) HH.out ?_
    case yB6 => (go_simp; try with_reducible rfl)
    refine wpAnyH_take (i := 7) (v := undef) rfl (by kernel_rfl) (by kernel_rfl) (by kernel_rfl) (fun _ _ _ h => h) (Or.inr ⟨by rfl, rfl⟩) HH.out ?_
    try simp only [List.getElem_toArray, List.getElem_cons_succ, List.getElem_cons_zero, Act.put, List.setIfInBounds_toArray, List.set_cons_zero, List.set_cons_succ]
    refine wpAnyH_take (i := 8) (v := undef) rfl (by kernel_rfl) (by kernel_rfl) (by kernel_rfl) (fun _ _ _ h => h) (Or.inr ⟨by rfl, rfl⟩) HH.out ?_
    refine wpAnyH_take (i := 9) (v := undef) rfl (by kernel_rfl) (by kernel_rfl) (by kernel_rfl) (fun _ _ _ h => h) (Or.inr ⟨by rfl, rfl⟩) HH.out ?_
    refine wpAnyH_take (i := 10) (v := undef) rfl (by kernel_rfl) (by kernel_rfl) (by kernel_rfl) (fun _ _ _ h => h) (Or.inr ⟨by rfl, rfl⟩) HH.out ?_
    try simp only [List.getElem_toArray, List.getElem_cons_succ, List.getElem_cons_zero, Act.put, List.setIfInBounds_toArray, List.set_cons_zero, List.set_cons_succ]
    refine wpAnyH_take (i := 11) (v := undef) rfl (by kernel_rfl) (by kernel_rfl) (by kernel_rfl) (fun _ _ _ h => h) (Or.inr ⟨by rfl, rfl⟩) HH.out ?_
    refine wpAnyH_take (i := 12) (v := ?vB12) rfl (by kernel_rfl) (by kernel_rfl) (by kernel_rfl) (fun _ _ _ h => h) (Or.inl ⟨by rfl, fun w' _ => ?yB12⟩) HH.out ?_
    case yB12 => (go_simp; try with_reducible rfl)
    refine wpAnyH_take (i := 13) (v := ?vB13) rfl (by kernel_rfl) (by kernel_rfl) (by kernel_rfl) (fun _ _ _ h => h) (Or.inl ⟨by rfl, fun w' _ => ?yB13⟩) HH.out ?_
    case yB13 => (go_simp; try with_reducible rfl)
    try simp only [List.getElem_toArray, List.getElem_cons_succ, List.getElem_cons_zero, Act.put, List.setIfInBounds_toArray, List.set_cons_zero, List.set_cons_succ]
    refine wpAnyH_take (i := 14) (v := undef) rfl (by kernel_rfl) (by kernel_rfl) (by kernel_rfl) (fun _ _ _ h => h) (Or.inr ⟨by rfl, rfl⟩) HH.out ?_
    refine wpAnyH_take (i := 15) (v := undef) rfl (by kernel_rfl) (by kernel_rfl) (by kernel_rfl) (fun _ _ _ h => h) (Or.inr ⟨by rfl, rfl⟩) HH.out ?_
    refine wpAnyH_take (i := 16) (v := undef) rfl (by kernel_rfl) (by kernel_rfl) (by kernel_rfl) (fun _ _ _ h => h) (Or.inr ⟨by rfl, rfl⟩) HH.out ?_
    try simp only [List.getElem_toArray, List.getElem_cons_succ, List.getElem_cons_zero, Act.put, List.setIfInBounds_toArray, List.set_cons_zero, List.set_cons_succ]
    refine wpAnyH_take (i := 17) (v := undef) rfl (by kernel_rfl) (by kernel_rfl) (by kernel_rfl) (fun _ _ _ h => h) (Or.inr ⟨by rfl, rfl⟩) HH.out ?_
    refine wpAnyH_take (i := 18) (v := undef) rfl (by kernel_rfl) (by kernel_rfl) (by kernel_rfl) (fun _ _ _ h => h) (Or.inr ⟨by rfl, rfl⟩) HH.out ?_
    refine wpAnyH_take (i := 19) (v := ?vB19) rfl (by kernel_rfl) (by kernel_rfl) (by kernel_rfl) (fun _ _ _ h => h) (Or.inl ⟨by rfl, fun w' _ => ?yB19⟩) HH.out ?_
    case yB19 => (go_simp; try with_reducible rfl)
    try simp only [List.getElem_toArray, List.getElem_cons_succ, List.getElem_cons_zero, Act.put, List.setIfInBounds_toArray, List.set_cons_zero, List.set_cons_succ]
    refine wpAnyH_take (i := 20) (v := ?vB20) rfl (by kernel_rfl) (by kernel_rfl) (by kernel_rfl) (fun _ _ _ h => h) (Or.inl ⟨by rfl, fun w' _ => ?yB20⟩) HH.out ?_
    case yB20 => (go_simp; try with_reducible rfl)
    try simp only [List.getElem_toArray, List.getElem_cons_succ, List.getElem_cons_zero, Act.put, List.setIfInBounds_toArray, List.set_cons_zero, List.set_cons_succ]
    refine wpAnyH_done (by kernel_rfl) ?_ _
    go_wp2_with fail
    go_ret
    exact ⟨by rw [HD.out]; rfl, B1.out.trans (HH.out.mono B1.out.size)⟩
theorem healthy_enter (args : Array Value) (W : World) : (callFunc 36 args).run Try.prog W = .ok (.enter 36 args) W := by kernel_rfl
set_option maxRecDepth 100000 in
def gH : Gd where
  k := some 36
  f := healN
  R _ _ _ _ _ _ := True
  none_ h := by cases h
  enter k' h args W := by injection h with h; subst h; exact healthy_enter args W
  call k' h w n x hx := by injection h with h; subst h; exact healthy_any w n x hx
end Go.Proofs.Ytniamllcoemikaa.Sc
/-
  A set of places that a law keeps (map[int]bool), as a list of them; sealed sectors that are written, rot, and are scrubbed.
-/
namespace Go.Proofs.Ytniamllcoemikaa.Sc
open Go.RowKit Go.Maps Kd Mi
attribute [local go_sem ↓] Go.wp_at_zero Go.wp_at_succ
theorem lawI : Keyed Try.prog 3 := int_keyed Try.underlying3
/-- How the set's elements read. -/
def boolP (P : Program) : Value → Option (DataW Unit × List MemPlace) := plainElem P 4
set_option maxRecDepth 100000 in
theorem wfI {z : Int} (hz : 0 ≤ z ∧ z ≤ 1000) : (Lit.int .i64 z).wf = true := by
  have h1 : IntKind.i64.min = -9223372036854775808 := by decide
  have h2 : IntKind.i64.max = 9223372036854775807 := by decide
  simp [Lit.wf, h1, h2]; omega
theorem boolR_mk (x : Bool) : (boolP Try.prog) (.bool x) = some (.lit (.bool x), []) := plainElem_bool Try.underlying4 x
set_option maxRecDepth 100000 in
theorem boolR_inv {v : Value} {y : DataW Unit × List MemPlace} (h : (boolP Try.prog) v = some y) : ∃ c, v = .bool c := by
  unfold boolP plainElem at h
  rw [Try.underlying4] at h
  cases v <;> simp at h
  exact ⟨_, rfl⟩
set_option maxRecDepth 100000 in
theorem boolR_val {v : Value} {c : Bool} {ps : List MemPlace} (h : (boolP Try.prog) v = some (.lit (.bool c), ps)) : v = .bool c := by
  obtain ⟨d, rfl⟩ := boolR_inv h
  rw [boolR_mk] at h
  injection h with h
  injection h with h _
  injection h with h
  injection h with h
  rw [h]
/-- The datum D is the set of ds. -/
structure CutM (D : DataW Unit) (ds : List Int) : Prop where
  tidy : Tidy D
  nodup : ds.Nodup
  size : Maps.size D = ds.length
  has : ∀ z, Maps.has D (.int .i64 z) = decide (z ∈ ds)
  at_ : ∀ z, D.atKey (.int .i64 z) (.lit (.bool false)) = .lit (.bool (decide (z ∈ ds)))
theorem cut_empty : CutM (.map []) [] := ⟨tidy_empty, List.nodup_nil, rfl, fun _ => rfl, fun _ => rfl⟩
theorem lit_ne {m z : Int} (h : z ≠ m) : (Lit.int .i64 z) ≠ Lit.int .i64 m := fun e => h (by injection e)
theorem CutM.put {D : DataW Unit} {ds : List Int} (h : CutM D ds) (m : Int) : CutM (D.put (.int .i64 m) (.lit (.bool true))) (if m ∈ ds then ds else m :: ds) := by
  have hk : WideAt.IsKeyLit (Lit.int .i64 m) := trivial
  have hm := h.tidy.isMap
  refine ⟨h.tidy.put hk _, ?_, ?_, fun z => ?_, fun z => ?_⟩
  · split
    · exact h.nodup
    · rename_i hn; exact List.nodup_cons.2 ⟨hn, h.nodup⟩
  · rw [size_put h.tidy, h.has]
    by_cases hn : m ∈ ds
    · rw [if_pos hn, if_pos (by simpa using hn), h.size]
    · rw [if_neg hn, if_neg (by simpa using hn), h.size]; rfl
  · by_cases hz : z = m
    · subst hz
      rw [has_put_same hm hk]
      split <;> simp_all
    · rw [has_put_other (lit_ne hz), h.has]
      split
      · rfl
      · simp [hz]
  · by_cases hz : z = m
    · subst hz
      rw [atKey_put_same hm hk]
      split <;> simp_all
    · rw [atKey_put_other (lit_ne hz), h.at_]
      split
      · rfl
      · simp [hz]
theorem put_mem {ds : List Int} (m z : Int) : z ∈ (if m ∈ ds then ds else m :: ds) ↔ z ∈ ds ∨ z = m := by
  split
  · rename_i h
    constructor
    · exact fun hz => .inl hz
    · rintro (hz | rfl)
      · exact hz
      · exact h
  · rw [List.mem_cons]; exact Or.comm
section
variable {w w' : World} {b n : Nat} {D : DataW Unit} {S : Nat → Prop}
theorem map_below (h : w.ownsMap Try.prog 3 (boolP Try.prog) b n D) (hb : Below w.heap.size w w') : w'.ownsMap Try.prog 3 (boolP Try.prog) b n D :=
  h.kept (row := none) ⟨hb.os, hb.tape, hb.output, hb.size, fun k hk _ => hb.block k hk⟩ (by simp)
theorem map_but (h : w.ownsMap Try.prog 3 (boolP Try.prog) b n D) (hb : But S w w') (hs : ¬ S b) : w'.ownsMap Try.prog 3 (boolP Try.prog) b n D := by
  have hlt := h.lt
  obtain ⟨es, clock, hbk, F, hsz, hD⟩ := h
  exact ⟨es, clock, (hb.block b hlt hs).trans hbk, F, hsz, hD⟩
theorem but_of_grown {row : Option Nat} (hg : w.grownBy w' row) (hS : ∀ k, row = some k → S k) : But S w w' := (But.refl w).grown hg (fun k hk => .inl (hS k hk))
theorem grown_of_below (hb : Below w.heap.size w w') : w.grownBy w' none := ⟨hb.os, hb.tape, hb.output, hb.size, fun k hk _ => hb.block k hk⟩
theorem below_of_grown (hg : w.grownBy w' none) : Below w.heap.size w w' := ⟨hg.os, hg.tape, hg.output, hg.size, fun k hk => hg.block k hk (by simp)⟩
end
/-- A look-up in the set. -/
theorem cut_look {w : World} {b n : Nat} {D : DataW Unit} {ds : List Int} (h : w.ownsMap Try.prog 3 (boolP Try.prog) b n D) (hc : CutM D ds) (z : Int) (hz : 0 ≤ z ∧ z ≤ 1000) :
    (Instr.lookup 70 (.map (some b)) (.int .i64 z) false).run Try.prog w = .ok (.bool (decide (z ∈ ds))) w := by
  have hw := wfI hz
  obtain ⟨v, ps, hrun, hv⟩ := h.lookup lawI Try.underlying70 (z := .bool false) (by kernel_rfl) (boolR_mk false) (keyOf_int_mk Try.underlying3 hw)
  rw [hc.at_] at hv
  rw [hrun, boolR_val hv]
/-! ### Sealed sectors, written one by one -/
section
variable {SL : Nat → List UInt8} {n j : Nat}
def LJ (SL : Nat → List UInt8) (j n : Nat) : List (List UInt8) := (List.range j).map SL ++ List.replicate (n - j) zeroS
theorem LJ_zero : LJ SL 0 n = List.replicate n zeroS := by simp [LJ]
theorem LJ_length (h : j ≤ n) : (LJ SL j n).length = n := by rw [LJ, List.length_append, List.length_map, List.length_range, List.length_replicate]; omega
theorem LJ_set (h : j < n) : (LJ SL j n).set j (SL j) = LJ SL (j + 1) n := by
  have hl : ((List.range j).map SL).length = j := by simp
  rw [LJ, List.set_append_right _ _ (by omega), hl, Nat.sub_self, show n - j = (n - (j + 1)) + 1 by omega, List.replicate_succ, List.set_cons_zero, LJ, List.range_succ, List.map_append, List.append_assoc]; rfl
theorem LJ_get {p : Nat} (h : p < n) : (LJ SL n n).getD p zeroS = SL p := by
  rw [LJ, Nat.sub_self, List.replicate_zero, List.append_nil, List.getD_eq_getElem?_getD, List.getElem?_map, List.getElem?_range h]; rfl
theorem start_write {L : List (List UInt8)} (hj : j < n) (y : List UInt8) : (startM L L n).write j y = (0, startM (L.set j y) (L.set j y) n) := by
  have hh : (startM L L n).has (j : Int) = true := by rw [Md.has, start_len]; simp; omega
  rw [Md.write, hh, if_pos rfl, if_neg (by show ¬ (false && false) = true; simp), Int.toNat_natCast]
  show ((0 : Int), (⟨L.set j y, L.set j y, false, false, (List.replicate n false).set j false, (List.replicate n false).set j false⟩ : Md)) = _
  rw [rep_set]; rfl
/-- How many of the first places are in the set. -/
def inK (ds : List Int) (k : Nat) : Nat := ((List.range k).filter fun (p : Nat) => decide ((p : Int) ∈ ds)).length
theorem inK_succ (ds : List Int) (k : Nat) : inK ds (k + 1) = inK ds k + if (k : Int) ∈ ds then 1 else 0 := by
  rw [inK, List.range_succ, List.filter_append, List.length_append, ← inK]
  by_cases h : (k : Int) ∈ ds
  · rw [if_pos h, List.filter_cons_of_pos (by simpa using h)]; rfl
  · rw [if_neg h, List.filter_cons_of_neg (by simpa using h)]; rfl
theorem inK_new {ds : List Int} {p : Nat} (hp : (p : Int) ∉ ds) : ∀ k, inK ((p : Int) :: ds) k = inK ds k + if p < k then 1 else 0
  | 0 => by simp [inK]
  | k + 1 => by
    rw [inK_succ, inK_succ, inK_new hp k]
    by_cases h : k = p
    · subst h
      rw [if_pos (List.mem_cons_self ..), if_neg hp, if_neg (Nat.lt_irrefl _), if_pos (Nat.lt_succ_self _)]
    · have h2 : ((k : Int) ∈ (p : Int) :: ds) ↔ (k : Int) ∈ ds := by
        rw [List.mem_cons]; exact ⟨fun h3 => h3.resolve_left (fun e => h (by omega)), .inr⟩
      simp only [h2]
      by_cases h4 : p < k
      · rw [if_pos h4, if_pos (show p < k + 1 by omega)]; exact Nat.add_right_comm _ _ _
      · rw [if_neg h4, if_neg (show ¬ p < k + 1 by omega)]; rfl
/-- A device of sealed sectors, of which those of the set are rotten. -/
structure Rotten (SL : Nat → List UInt8) (n : Nat) (L : List (List UInt8)) (ds : List Int) : Prop where
  len : L.length = n
  well : ∀ p, p < n → (p : Int) ∉ ds → L.getD p zeroS = SL p
  ill : ∀ p, p < n → (p : Int) ∈ ds → healN p (L.getD p zeroS) = false
  inn : ∀ z ∈ ds, 0 ≤ z ∧ z < (n : Int)
  cnt : inK ds n = ds.length
theorem rotten_start : Rotten SL n (LJ SL n n) [] := ⟨LJ_length (Nat.le_refl _), fun p hp _ => LJ_get hp, fun p _ h => by simp at h, fun z h => by simp at h, by
  have : ∀ k, inK [] k = 0 := fun k => by induction k with
    | zero => rfl
    | succ k ih => rw [inK_succ, ih]; simp
  exact this n⟩
theorem Rotten.rot {L : List (List UInt8)} {ds : List Int} (h : Rotten SL n L ds) (x : Nat → UInt8) (hx : ∀ p, SL p = sealN p (x p)) {p a : Nat} (hp : p < n) (hd : (p : Int) ∉ ds) (ha : a < 128) {b : UInt8} (hb : b ≠ 0) : Rotten SL n (rotL L p a b) ((p : Int) :: ds) := by
  have hg : ∀ i, i < n → (rotL L p a b).getD i zeroS = if i = p then rotS (L.getD i zeroS) a b else L.getD i zeroS := fun i hi => rotL_get (by rw [h.len]; exact hi)
  refine ⟨by rw [Mi.rotL_length]; exact h.len, fun i hi hn => ?_, fun i hi hm => ?_, fun z hz => ?_, ?_⟩
  · rw [List.mem_cons, not_or] at hn
    rw [hg i hi, if_neg (fun e => hn.1 (by rw [e])), h.well i hi hn.2]
  · rw [hg i hi]
    by_cases e : i = p
    · rw [if_pos e, e, h.well p hp hd, hx]; exact rot_ill _ _ ha hb
    · rw [if_neg e]
      exact h.ill i hi ((List.mem_cons.1 hm).resolve_left (fun e2 => e (by omega)))
  · rcases List.mem_cons.1 hz with rfl | hz
    · omega
    · exact h.inn z hz
  · rw [inK_new hd, if_pos hp, h.cnt]; rfl
/-- What is counted, where the other device is whole; and what both have then. -/
theorem rotten_ck {L : List (List UInt8)} {ds : List Int} (h : Rotten SL n L ds) (x : Nat → UInt8) (hx : ∀ p, SL p = sealN p (x p)) {p : Nat} (hp : p < n) :
    ck healN p (L.getD p zeroS) (SL p) = (if (p : Int) ∈ ds then 1 else 0) ∧ ck healN p (SL p) (L.getD p zeroS) = (if (p : Int) ∈ ds then 1 else 0) ∧ hl0 healN p (L.getD p zeroS) (SL p) = SL p ∧ hl1 healN p (SL p) (L.getD p zeroS) = SL p := by
  have hg : healN p (SL p) = true := by rw [hx]; exact heal_seal _ _
  by_cases hm : (p : Int) ∈ ds
  · have hi := h.ill p hp hm
    rw [if_pos hm]
    exact ⟨by unfold ck; rw [hg, hi]; rfl, by unfold ck; rw [hg, hi]; rfl, by unfold hl0; rw [hi, hg]; rfl, by unfold hl1; rw [hg]; rfl⟩
  · have hw := h.well p hp hm
    rw [if_neg hm, hw]
    exact ⟨by unfold ck; rw [hg]; simp, by unfold ck; rw [hg]; simp, by unfold hl0; rw [hg]; rfl, by unfold hl1; rw [hg]; rfl⟩
theorem rotten_cnt {L : List (List UInt8)} {ds : List Int} (h : Rotten SL n L ds) (x : Nat → UInt8) (hx : ∀ p, SL p = sealN p (x p)) : ∀ k, k ≤ n →
    ((cntK healN L (LJ SL n n) k).h = inK ds k ∧ (cntK healN L (LJ SL n n) k).l = 0) ∧ ((cntK healN (LJ SL n n) L k).h = inK ds k ∧ (cntK healN (LJ SL n n) L k).l = 0)
  | 0, _ => ⟨⟨rfl, rfl⟩, rfl, rfl⟩
  | k + 1, hk => by
    obtain ⟨⟨a1, a2⟩, a3, a4⟩ := rotten_cnt h x hx k (by omega)
    obtain ⟨c1, c2, _, _⟩ := rotten_ck h x hx (p := k) (by omega)
    rw [inK_succ, cntK, cntK, LJ_get (by omega : k < n), c1, c2]
    obtain ⟨_, s2, s3⟩ := step_r (cntK healN L (LJ SL n n) k) (if (k : Int) ∈ ds then 1 else 0)
    obtain ⟨_, t2, t3⟩ := step_r (cntK healN (LJ SL n n) L k) (if (k : Int) ∈ ds then 1 else 0)
    rw [s2, s3, t2, t3, a1, a2, a3, a4]
    by_cases hm : (k : Int) ∈ ds
    · simp [hm]
    · simp [hm]
end
end Go.Proofs.Ytniamllcoemikaa.Sc
