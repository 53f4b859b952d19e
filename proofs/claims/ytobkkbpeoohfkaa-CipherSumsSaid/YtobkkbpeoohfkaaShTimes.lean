/-
  The contracts of the reference's times, above: products and order of numbers in digits.
-/
import Derived.Test.YtobkkbpeoohfkaaShPrime
import Derived.BigRegion
namespace Go.Proofs.Ytobkkbpeoohfkaa
open Go.RowKit
theorem info40 : (Try.prog.info? 24).map (fun i => (i.zero, i.size, i.bytes)) = some (some (.int .u64 0), 1, 8) := by kernel_rfl
/-- The cells of a row of numbers of 64 bits. -/
def uq (l : List Nat) : List Value := l.map fun x : Nat => Value.int .u64 (x : Int)
theorem uq_length (l : List Nat) : (uq l).length = l.length := by simp [uq]
theorem uq_get {l : List Nat} {k : Nat} (h : k < l.length) : (uq l)[k]? = some (.int .u64 ((l.getD k 0 : Nat) : Int)) := by
  rw [uq, List.getElem?_map, List.getD_eq_getElem?_getD, List.getElem?_eq_getElem h]; rfl
theorem uq_set (l : List Nat) (k x : Nat) : (uq l).set k (.int .u64 (x : Int)) = uq (l.set k x) := by
  simp [uq, List.map_set]
theorem uq_made (n : Nat) : (madeCells (Value.int IntKind.u64 0).cells (n * 1)).toList = uq (List.replicate n 0) := by
  have e : (Value.int IntKind.u64 0).cells = #[Value.int IntKind.u64 0] := rfl
  rw [e, toList_madeCells_one]
  simp [uq]
theorem rd_u {B : Nat} {w : World} {A : Option Addr} {l : List Nat} (h : Rd B w A (uq l)) {k : Nat} (hk : k < l.length) : ∃ ad, A = some ad ∧ ad.block < B ∧ w.cell? (ad.add k) = some (.int .u64 ((l.getD k 0 : Nat) : Int)) :=
  h k _ (uq_get hk)
theorem wrap_u64 {n : Nat} (h : n < 18446744073709551616) : IntKind.u64.wrap (n : Int) = n := IntWalk.u64_in _ (by omega)
theorem mul_small {a b : Nat} (ha : a < 65536) (hb : b < 65536) : a * b ≤ 4294836225 := Nat.mul_le_mul (show a ≤ 65535 by omega) (show b ≤ 65535 by omega)
set_option maxHeartbeats 1600000 in
theorem times_any {B B' : Nat} (A A' : Option Addr) (n m c c' : Nat) (a b : List Nat) (w : World) (hn : a.length = n) (hm : b.length = m) (hB : B ≤ w.heap.size) (hB' : B' ≤ w.heap.size)
    (ha : Rd B w A (uq a)) (hb : Rd B' w A' (uq b)) (da : Dig a) (db : Dig b) (hn1 : n ≤ 100) (hm1 : m ≤ 100) :
    Calls Try.prog 69 #[.slice A n c, .slice A' m c'] w (RetRow 24 (uq (timesL a b)) w) := by
  obtain ⟨i0, hi, hz0, hz1, hz2⟩ := info_parts info40
  obtain ⟨N, hN⟩ : ∃ N, N = n + m := ⟨_, rfl⟩
  have eN : (n : Int) + (m : Int) = (N : Int) := by omega
  have hN' : n + m = N := hN.symm
  have HA := Lib.hid (ha.more hB)
  have HB := Lib.hid (hb.more hB')
  have HN := Lib.hid hn
  have HM := Lib.hid hm
  have HDA := Lib.hid da
  have HDB := Lib.hid db
  have hNl : n ≤ N ∧ m ≤ N ∧ N ≤ 200 := by omega
  have HNN : Hid (N = n + m) := hN
  clear hn hm ha hb da db hN hN'
  go_enter Try.func69, Try.ntmps69
  go_wp2_with (at_make; refine wpList_make_full _ rfl _ _ _ rfl w.heap.size 24 i0 _ 1 Try.underlying94 hi hz0 hz1 .i64 .i64 _ _ N rfl rfl rfl rfl ?_ ?_ ?_ ?_; (rw [hz2]; omega); (unfold maxLen; omega); (exact Nat.le_refl _); intro w1 hown hg)
  rw [uq_made] at hown
  have p1 : Below w.heap.size w w1 := (Below.refl _ _).grown hg (Nat.le_refl _) (fun _ h => by cases h)
  have hown' : w1.ownsRow w.heap.size 24 1 (.slice (some ⟨w.heap.size, 0, none⟩) N N) N (uq (outerTo a b 0)) := by
    rw [outerTo, HN.out, HM.out, ← HNN.out]; exact hown
  have P1 := Lib.hid p1
  have P2 := Lib.hid hown'
  clear p1 hown hown' hg hi hz0 hz1 hz2
  go_loopw [6, 7, 8] (fun i _ _ wr => ∃ p : Nat, p ≤ n ∧ i = .int .i64 p ∧ Below w.heap.size w wr ∧ wr.ownsRow w.heap.size 24 1 (.slice (some ⟨w.heap.size, 0, none⟩) N N) N (uq (outerTo a b p))) (fun i _ _ _ => n - (intOf i).toNat)
  case atStart => exact ⟨0, Nat.zero_le _, rfl, P1.out, P2.out⟩
  case round =>
    clear P1 P2
    obtain ⟨p, hp, rfl, hbel, how⟩ := hrel
    have HBL := Lib.hid hbel
    have HOW := Lib.hid how
    clear hbel how
    obtain ⟨wo, rfl⟩ : ∃ wo : World, wo = wr := ⟨_, rfl⟩
    by_cases hlt : p < n
    · have hout := outer_all HDA.out HDB.out p (by rw [HN.out]; exact hp)
      obtain ⟨x, hx⟩ : ∃ x, x = a.getD p 0 := ⟨_, rfl⟩
      have hx16 : x < 65536 := by rw [hx]; exact HDA.out p
      have HX := Lib.hid hx
      have HOUT := Lib.hid hout
      clear hx hout
      go_wp2
      go_loopw [7, 8, 9] (fun cy k _ wr => ∃ (q z : Nat), q ≤ m ∧ k = .int .i64 q ∧ cy = .int .u64 (z : Int) ∧ Hid (z = (innerTo x p b (outerTo a b p) q).2) ∧ Below w.heap.size w wr ∧ wr.ownsRow w.heap.size 24 1 (.slice (some ⟨w.heap.size, 0, none⟩) N N) N (uq (innerTo x p b (outerTo a b p) q).1)) (fun _ k _ _ => m - (intOf k).toNat)
      case atStart => exact ⟨0, 0, Nat.zero_le _, rfl, rfl, rfl, HBL.out, HOW.out⟩
      case round =>
        clear HBL HOW
        obtain ⟨q, z, hq, rfl, rfl, HZ, hbel, how⟩ := hrel
        by_cases hlt2 : q < m
        · have hin := inner_all (x := x) (i := p) (b := b) hx16 HDB.out HOUT.out.dig q (by rw [HOUT.out.len, HN.out, HM.out]; omega)
          obtain ⟨j, hj⟩ : ∃ j, j = p + q := ⟨_, rfl⟩
          have hjN : j < N := by have := HNN.out; omega
          have ej : (p : Int) + (q : Int) = (j : Int) := by omega
          have ejw : IntKind.i64.wrap ((p : Int) + (q : Int)) = (j : Int) := by rw [IntWalk.i64_in _ (by omega)]; omega
          have hlen : (innerTo x p b (outerTo a b p) q).1.length = N := by rw [hin.len, HOUT.out.len, HN.out, HM.out, ← HNN.out]
          obtain ⟨ad, hA1, _, hca⟩ := rd_u (HA.out.below hbel) (k := p) (by rw [HN.out]; exact hlt)
          obtain ⟨bd, hB1, _, hcb⟩ := rd_u (HB.out.below hbel) (k := q) (by rw [HM.out]; exact hlt2)
          subst hA1
          subst hB1
          rw [← HX.out] at hca
          obtain ⟨y, hy⟩ : ∃ y, y = b.getD q 0 := ⟨_, rfl⟩
          have hy16 : y < 65536 := by rw [hy]; exact HDB.out q
          rw [← hy] at hcb
          obtain ⟨o, ho⟩ : ∃ o, o = (innerTo x p b (outerTo a b p) q).1.getD j 0 := ⟨_, rfl⟩
          have ho16 : o < 65536 := by rw [ho]; exact hin.dig j
          have hz16 : z < 65536 := by rw [HZ.out]; exact hin.carry
          have hcell := how.cellAt j (by omega)
          rw [uq_get (by rw [hlen]; exact hjN), ← ho] at hcell
          have hfro := how.frozenAt j
          have hmul := mul_small hx16 hy16
          have m1 : IntKind.u64.wrap ((x : Int) * (y : Int)) = ((x * y : Nat) : Int) := by rw [← Int.natCast_mul]; exact wrap_u64 (by omega)
          obtain ⟨t, ht⟩ : ∃ t, t = x * y := ⟨_, rfl⟩
          rw [← ht] at m1 hmul
          have m2 : IntKind.u64.wrap ((o : Int) + (t : Int)) = ((o + t : Nat) : Int) := by rw [← Int.natCast_add]; exact wrap_u64 (by omega)
          obtain ⟨s, hs⟩ : ∃ s, s = o + t := ⟨_, rfl⟩
          rw [← hs] at m2
          have m3 : IntKind.u64.wrap ((s : Int) + (z : Int)) = ((s + z : Nat) : Int) := by rw [← Int.natCast_add]; exact wrap_u64 (by omega)
          obtain ⟨r, hr⟩ : ∃ r, r = s + z := ⟨_, rfl⟩
          rw [← hr] at m3
          have hrb : r ≤ 5000000000 := by omega
          have hrY : r = (innerTo x p b (outerTo a b p) q).1.getD (p + q) 0 + x * b.getD q 0 + (innerTo x p b (outerTo a b p) q).2 := by
            rw [hr, hs, ht, ho, hj, hy, ← HZ.out]
          have HRY := Lib.hid hrY
          have HJ := Lib.hid hj
          have HS := Lib.hid (how.stored j (.int .u64 ((r % 65536 : Nat) : Int))).1
          have HBL := Lib.hid hbel
          have p0 : (0 : Int) ≤ (p : Int) := by omega
          have p1 : (p : Int) < (n : Int) := by omega
          have q0 : (0 : Int) ≤ (q : Int) := by omega
          have q1 : (q : Int) < (m : Int) := by omega
          have j0 : (0 : Int) ≤ (j : Int) := by omega
          have j1 : (j : Int) < (N : Int) := by omega
          have r0 : (0 : Int) ≤ (r : Int) := by omega
          obtain ⟨d, hd⟩ : ∃ d, d = r % 65536 := ⟨_, rfl⟩
          obtain ⟨f, hf⟩ : ∃ f, f = r / 65536 := ⟨_, rfl⟩
          have ed : (r : Int) % 65536 = (d : Int) := by omega
          have ef : (r : Int) / 65536 = (f : Int) := by omega
          have fb0 : (0 : Int) ≤ (f : Int) := by omega
          have fb1 : (f : Int) ≤ 1000000 := by omega
          rw [← hd] at HS
          have HD := Lib.hid hd
          have HF := Lib.hid hf
          clear hj hy ho ht hs hr hrY hin hlen hbel how hd hf
          go_wp2
          go_quiet (fail)
          clear m1 m2 m3 ejw
          go_wp2
          go_roundw
          case rel =>
            refine ⟨q + 1, f, by omega, by go_num, rfl, ?_, (below_drewN' HBL.out _).setCell (Nat.le_refl _) _, ?_⟩
            · show f = _
              rw [innerTo]; dsimp only; rw [← HRY.out, HF.out]
            · have h := HS.out
              rw [uq_set] at h
              rw [innerTo]; dsimp only; rw [← HRY.out, ← HJ.out, ← HD.out]; exact h
          case measure => simp [intOf]; omega
        · obtain rfl : q = m := by omega
          obtain ⟨j, hj⟩ : ∃ j, j = p + q := ⟨_, rfl⟩
          have hjN : j < N := by have := HNN.out; omega
          have ej : (p : Int) + (q : Int) = (j : Int) := by omega
          have hin := inner_all (x := x) (i := p) (b := b) hx16 HDB.out HOUT.out.dig q (by rw [HOUT.out.len, HN.out, HM.out]; omega)
          have hlen : (innerTo x p b (outerTo a b p) q).1.length = N := by rw [hin.len, HOUT.out.len, HN.out, HM.out, ← HNN.out]
          have hcell := how.cellAt j (by omega)
          rw [uq_get (by rw [hlen]; exact hjN)] at hcell
          obtain ⟨o, ho⟩ : ∃ o, o = (innerTo x p b (outerTo a b p) q).1.getD j 0 := ⟨_, rfl⟩
          rw [← ho] at hcell
          have hfro := how.frozenAt j
          have HS := Lib.hid (how.stored j (.int .u64 (z : Int))).1
          have HBL := Lib.hid hbel
          have HJ := Lib.hid hj
          have j0 : (0 : Int) ≤ (j : Int) := by omega
          have j1 : (j : Int) < (N : Int) := by omega
          clear hj hin hlen hbel how ho
          go_wp2
          go_roundw
          case rel =>
            refine ⟨p + 1, by omega, by go_num, HBL.out.setCell (Nat.le_refl _) _, ?_⟩
            have h := HS.out
            rw [uq_set] at h
            rw [outerTo, ← HX.out, HM.out, ← HJ.out, ← HZ.out]; exact h
          case measure => simp [intOf]; omega
    · obtain rfl : p = n := by omega
      have HT : Hid (uq (outerTo a b p) = uq (timesL a b)) := by show _ = _; rw [timesL, HN.out]
      go_wp2
      go_ret
      exact RetRow.mk rfl (by rw [← HT.out]; exact HOW.out) HBL.out
set_option maxHeartbeats 800000 in
theorem above_any {B B' : Nat} (A A' : Option Addr) (n m c c' : Nat) (a b : List Nat) (w : World) (hn : a.length = n) (hm : b.length = m)
    (ha : Rd B w A (uq a)) (hb : Rd B' w A' (uq b)) (hn1 : n ≤ 1000) (hm1 : m ≤ 1000) :
    Calls Try.prog 70 #[.slice A n c, .slice A' m c'] w (fun e w' => e = .returned (.bool (aboveL a b)) ∧ w = w') := by
  obtain ⟨N, hN⟩ : ∃ N, N = max n m := ⟨_, rfl⟩
  have HNN : Hid (aboveL a b = aboveTo a b N) := by show _ = _; rw [aboveL, hn, hm, hN]
  have HA := Lib.hid ha
  have HB := Lib.hid hb
  have HN := Lib.hid hn
  have HM := Lib.hid hm
  have hNle : n ≤ N ∧ m ≤ N ∧ N ≤ 1000 ∧ (N = n ∨ N = m) := by omega
  clear ha hb hn hm
  by_cases hc : n < m
  · have hNm : N = m := by omega
    subst hNm
    clear hN
    go_enter Try.func70, Try.ntmps70
    go_wp2
    go_loop [6, 7, 8] (fun i _ _ => ∃ (k : Nat) (z : Int), k ≤ N ∧ z + 1 = (k : Int) ∧ i = .int .i64 z ∧ Hid (aboveTo a b N = aboveTo a b k)) (fun i _ _ => (intOf i + 1).toNat)
    case atStart => exact ⟨N, (N : Int) - 1, Nat.le_refl _, by omega, rfl, rfl⟩
    case round =>
      obtain ⟨k, z, hk, hz, rfl, HK⟩ := hrel
      by_cases hk0 : k = 0
      · have hzz : ¬ (0 : Int) ≤ z := by omega
        have HE : Hid (aboveL a b = false) := by show _ = _; rw [HNN.out, HK.out, hk0]; rfl
        clear hk0
        go_wp2
        go_ret
        exact ⟨ret_bool HE.out.symm, rfl⟩
      · obtain ⟨j, rfl⟩ : ∃ j, k = j + 1 := ⟨k - 1, by omega⟩
        obtain rfl : z = (j : Int) := by omega
        have j0 : (0 : Int) ≤ (j : Int) := by omega
        clear hk0 hz
        have jm : (j : Int) < (N : Int) := by omega
        obtain ⟨bd, hB1, _, hcb⟩ := rd_u HB.out (k := j) (by rw [HM.out]; omega)
        subst hB1
        obtain ⟨y, hy⟩ : ∃ y, y = b.getD j 0 := ⟨_, rfl⟩
        rw [← hy] at hcb
        by_cases hjn : j < n
        · have jn : (j : Int) < (n : Int) := by omega
          obtain ⟨ad, hA1, _, hca⟩ := rd_u HA.out (k := j) (by rw [HN.out]; omega)
          subst hA1
          obtain ⟨x, hx⟩ : ∃ x, x = a.getD j 0 := ⟨_, rfl⟩
          rw [← hx] at hca
          have HX := Lib.hid hx
          have HY := Lib.hid hy
          clear hx hy
          by_cases hxy : a.getD j 0 = b.getD j 0
          · have hb : ((x : Int) != (y : Int)) = false := by have hx := HX.out; have hy := HY.out; simp <;> omega
            have HK2 : Hid (aboveTo a b N = aboveTo a b j) := by show _ = _; rw [HK.out, aboveTo, if_neg (fun h => h hxy)]
            clear hxy
            go_wp2
            go_round
            case rel => exact ⟨j, (j : Int) - 1, by omega, by omega, rfl, HK2.out⟩
            case measure => simp [intOf]
          · have hb : ((x : Int) != (y : Int)) = true := by have hx := HX.out; have hy := HY.out; simp <;> omega
            have HK2 : Hid (aboveL a b = decide ((y : Int) < (x : Int))) := by show _ = _; rw [HNN.out, HK.out, aboveTo, if_pos hxy]; have hx := HX.out; have hy := HY.out; congr 1; apply propext; omega
            clear hxy
            go_wp2
            go_ret
            refine ⟨ret_bool ?_, rfl⟩
            rw [HK2.out]; try simp
        · have jn : ¬ (j : Int) < (n : Int) := by omega
          have hx := getD_past a (j := j) (by rw [HN.out]; omega)
          have HX := Lib.hid hx
          have HY := Lib.hid hy
          clear hx hy
          by_cases hxy : a.getD j 0 = b.getD j 0
          · have hb : ((0 : Int) != (y : Int)) = false := by have hx := HX.out; have hy := HY.out; simp <;> omega
            have HK2 : Hid (aboveTo a b N = aboveTo a b j) := by show _ = _; rw [HK.out, aboveTo, if_neg (fun h => h hxy)]
            clear hxy
            go_wp2
            go_round
            case rel => exact ⟨j, (j : Int) - 1, by omega, by omega, rfl, HK2.out⟩
            case measure => simp [intOf]
          · have hb : ((0 : Int) != (y : Int)) = true := by have hx := HX.out; have hy := HY.out; simp <;> omega
            have HK2 : Hid (aboveL a b = decide ((y : Int) < (0 : Int))) := by show _ = _; rw [HNN.out, HK.out, aboveTo, if_pos hxy]; have hx := HX.out; have hy := HY.out; congr 1; apply propext; omega
            clear hxy
            go_wp2
            go_ret
            refine ⟨ret_bool ?_, rfl⟩
            rw [HK2.out]; try simp
  · have hNn : N = n := by omega
    subst hNn
    clear hN
    go_enter Try.func70, Try.ntmps70
    go_wp2
    go_loop [6, 7, 8] (fun i _ _ => ∃ (k : Nat) (z : Int), k ≤ N ∧ z + 1 = (k : Int) ∧ i = .int .i64 z ∧ Hid (aboveTo a b N = aboveTo a b k)) (fun i _ _ => (intOf i + 1).toNat)
    case atStart => exact ⟨N, (N : Int) - 1, Nat.le_refl _, by omega, rfl, rfl⟩
    case round =>
      obtain ⟨k, z, hk, hz, rfl, HK⟩ := hrel
      by_cases hk0 : k = 0
      · have hzz : ¬ (0 : Int) ≤ z := by omega
        have HE : Hid (aboveL a b = false) := by show _ = _; rw [HNN.out, HK.out, hk0]; rfl
        clear hk0
        go_wp2
        go_ret
        exact ⟨ret_bool HE.out.symm, rfl⟩
      · obtain ⟨j, rfl⟩ : ∃ j, k = j + 1 := ⟨k - 1, by omega⟩
        obtain rfl : z = (j : Int) := by omega
        have j0 : (0 : Int) ≤ (j : Int) := by omega
        clear hk0 hz
        have jn : (j : Int) < (N : Int) := by omega
        obtain ⟨ad, hA1, _, hca⟩ := rd_u HA.out (k := j) (by rw [HN.out]; omega)
        subst hA1
        obtain ⟨x, hx⟩ : ∃ x, x = a.getD j 0 := ⟨_, rfl⟩
        rw [← hx] at hca
        by_cases hjm : j < m
        · have jm : (j : Int) < (m : Int) := by omega
          obtain ⟨bd, hB1, _, hcb⟩ := rd_u HB.out (k := j) (by rw [HM.out]; omega)
          subst hB1
          obtain ⟨y, hy⟩ : ∃ y, y = b.getD j 0 := ⟨_, rfl⟩
          rw [← hy] at hcb
          have HX := Lib.hid hx
          have HY := Lib.hid hy
          clear hx hy
          by_cases hxy : a.getD j 0 = b.getD j 0
          · have hb : ((x : Int) != (y : Int)) = false := by have hx := HX.out; have hy := HY.out; simp <;> omega
            have HK2 : Hid (aboveTo a b N = aboveTo a b j) := by show _ = _; rw [HK.out, aboveTo, if_neg (fun h => h hxy)]
            clear hxy
            go_wp2
            go_round
            case rel => exact ⟨j, (j : Int) - 1, by omega, by omega, rfl, HK2.out⟩
            case measure => simp [intOf]
          · have hb : ((x : Int) != (y : Int)) = true := by have hx := HX.out; have hy := HY.out; simp <;> omega
            have HK2 : Hid (aboveL a b = decide ((y : Int) < (x : Int))) := by show _ = _; rw [HNN.out, HK.out, aboveTo, if_pos hxy]; have hx := HX.out; have hy := HY.out; congr 1; apply propext; omega
            clear hxy
            go_wp2
            go_ret
            refine ⟨ret_bool ?_, rfl⟩
            rw [HK2.out]; try simp
        · have jm : ¬ (j : Int) < (m : Int) := by omega
          have hy := getD_past b (j := j) (by rw [HM.out]; omega)
          have HX := Lib.hid hx
          have HY := Lib.hid hy
          clear hx hy
          by_cases hxy : a.getD j 0 = b.getD j 0
          · have hb : ((x : Int) != (0 : Int)) = false := by have hx := HX.out; have hy := HY.out; simp <;> omega
            have HK2 : Hid (aboveTo a b N = aboveTo a b j) := by show _ = _; rw [HK.out, aboveTo, if_neg (fun h => h hxy)]
            clear hxy
            go_wp2
            go_round
            case rel => exact ⟨j, (j : Int) - 1, by omega, by omega, rfl, HK2.out⟩
            case measure => simp [intOf]
          · have hb : ((x : Int) != (0 : Int)) = true := by have hx := HX.out; have hy := HY.out; simp <;> omega
            have HK2 : Hid (aboveL a b = decide ((0 : Int) < (x : Int))) := by show _ = _; rw [HNN.out, HK.out, aboveTo, if_pos hxy]; have hx := HX.out; have hy := HY.out; congr 1; apply propext; omega
            clear hxy
            go_wp2
            go_ret
            refine ⟨ret_bool ?_, rfl⟩
            rw [HK2.out]; try simp
end Go.Proofs.Ytobkkbpeoohfkaa
