/-
  The contract of mixed: the rounds of a block.
-/
import Derived.Test.YtobkkbpeoohfkaaShWords
import Derived.Test.YtobkkbpeoohfkaaShVal
namespace Go.Proofs.Ytobkkbpeoohfkaa
open Go.RowKit
theorem run_index_arr {P : Program} {t e n : Nat} {k : IntKind} {cs : Array Value} {i : Nat} {v : Value} {inf : TypeInfo} (ht : P.underlying t = some (.array n e)) (he : P.plainKey e = true) (hi : P.info? e = some inf) (hc : P.cellsOf e = 1)
    (hlt : i < n) (hv : cs[i]? = some v) (w : World) : (Instr.index t (.agg cs) (.int k (i : Int))).run P w = .ok v w := by
  have hs := run_sizeOf (P := P) w hi
  have hp : (part e cs (i * 1)).run P w = .ok v w := run_part_plain w he (by rw [Nat.mul_one]; exact hv)
  rw [hc] at hs
  simp [Instr.index, run_underlying ht, asIntOf, hlt, hs]
  rw [Nat.mul_one] at hp; exact hp
theorem turned_q (X : UInt32) (m : Nat) (h0 : 0 < m) (h1 : m < 32) (w : World) (n : Nat) :
    Calls Try.prog 65 #[.int .u32 X.toNat, .int .i64 (m : Int)] (w.drewN n) (fun e w'' => e = .returned (.int .u32 (rr X m).toNat) ∧ ∃ q, w'' = w.drewN q) :=
  Calls.quiet_of_same ((turned_any X m _ h0 h1).mono fun _ _ ⟨he, hw⟩ => ⟨he, hw.symm⟩)
theorem index_u32 {t n : Nat} (ht : Try.prog.underlying t = some (.array n 54)) (s : List UInt32) (hs : s.length = n) (i : Nat) (hi : i < n) (w : World) : (Instr.index t (.agg (uv s)) (.int .i64 (i : Int))).run Try.prog w = .ok (.int .u32 ((s.getD i 0).toNat : Int)) w := by
  obtain ⟨inf, hinf⟩ := Option.isSome_iff_exists.1 (show (Try.prog.info? 54).isSome = true by kernel_rfl)
  exact run_index_arr ht (by kernel_rfl) hinf (by kernel_rfl) hi (uv_get (by omega)) w
theorem list8 (s : List UInt32) (h : s.length = 8) : ∃ a b c d e f g i, s = [a, b, c, d, e, f, g, i] := by
  match s, h with
  | [a, b, c, d, e, f, g, i], _ => exact ⟨a, b, c, d, e, f, g, i, rfl⟩
set_option maxHeartbeats 800000 in
set_option maxRecDepth 100000 in
theorem mixed_any (s ws : List UInt32) (hs : s.length = 8) (hws : ws.length = 64) (w : World) :
    Calls Try.prog 56 #[.agg (uv s), .agg (uv ws)] w (RetB (.agg (uv (mixL s ws))) w) := by
  obtain ⟨a, b, c, d, e, f, g, h, hst⟩ := list8 s hs
  obtain ⟨b1, b2, b3, hb⟩ := three_blocks w (.cells (uv s) 60) (.cells (uv ws) 83) (.cells (uv (List.replicate 8 0)) 60)
  have hu : ∀ j x, s[j]? = some x → (((w.alloc (.cells (uv s) 60)).alloc (.cells (uv ws) 83)).alloc (.cells #[.int .u32 0, .int .u32 0, .int .u32 0, .int .u32 0, .int .u32 0, .int .u32 0, .int .u32 0, .int .u32 0] 60)).cell? ⟨w.heap.size, j, none⟩ = some (.int .u32 (x.toNat : Int)) := by
    intro j x hj
    have := cell_of_row _ _ j _ _ _ b1
    rw [uv, List.getElem?_toArray, List.getElem?_map, hj] at this; exact this
  have c0 := hu 0 a (by rw [hst]; rfl)
  have c1 := hu 1 b (by rw [hst]; rfl)
  have c2 := hu 2 c (by rw [hst]; rfl)
  have c3 := hu 3 d (by rw [hst]; rfl)
  have c4 := hu 4 e (by rw [hst]; rfl)
  have c5 := hu 5 f (by rw [hst]; rfl)
  have c6 := hu 6 g (by rw [hst]; rfl)
  have c7 := hu 7 h (by rw [hst]; rfl)
  have HST : Hid (St.of s = ⟨a, b, c, d, e, f, g, h⟩) := by rw [hst]; rfl
  have B2 := Lib.hid b2
  have B3 := Lib.hid b3
  have HB := Lib.hid hb
  have HS := Lib.hid hs
  clear hu hst b1 b2 b3 hb hs
  go_enter Try.func56, Try.ntmps56
  go_wp2
  go_quiet (fail)
  go_wp2_with fail
  refine (roundWords_any _).mono ?_
  rintro r w1 ⟨rfl, hw1⟩
  have p2 : Blk w1 (w.heap.size + 1) (uv ws) 83 := Blk.below (Blk.drewN B2.out _) hw1
  have p3 : Blk w1 (w.heap.size + 1 + 1) (uv (List.replicate 8 0)) 60 := Blk.below (Blk.drewN B3.out _) hw1
  have pb : Below w.heap.size w w1 := (below_drewN' HB.out _).trans (hw1.mono (by simp; omega))
  have P2 := Lib.hid p2
  have P3 := Lib.hid p3
  have PB := Lib.hid pb
  clear B2 B3 HB p2 p3 pb hw1 c0 c1 c2 c3 c4 c5 c6 c7
  go_wp2_with fail
  go_loopw [5, 6, 7, 8, 9, 10, 11, 12, 34] (fun v5 v6 v7 v8 v9 v10 v11 v12 i wr => ∃ (k : Nat) (z : St), k ≤ 64 ∧ i = .int .i64 k ∧ Hid (z = mixTo (St.of s) ws k) ∧ v5 = .int .u32 z.a.toNat ∧ v6 = .int .u32 z.b.toNat ∧ v7 = .int .u32 z.c.toNat ∧ v8 = .int .u32 z.d.toNat ∧ v9 = .int .u32 z.e.toNat ∧ v10 = .int .u32 z.f.toNat ∧ v11 = .int .u32 z.g.toNat ∧ v12 = .int .u32 z.h.toNat ∧ Blk wr (w.heap.size + 1) (uv ws) 83 ∧ Blk wr (w.heap.size + 1 + 1) (uv (List.replicate 8 0)) 60 ∧ Below w.heap.size w wr) (fun _ _ _ _ _ _ _ _ i _ => 64 - (intOf i).toNat)
  case atStart => exact ⟨0, ⟨a, b, c, d, e, f, g, h⟩, by omega, rfl, HST.out.symm, rfl, rfl, rfl, rfl, rfl, rfl, rfl, rfl, P2.out, P3.out, PB.out⟩
  case round =>
    clear P2 P3 PB HST
    obtain ⟨k, ⟨a, b, c, d, e, f, g, h0⟩, hk, rfl, HZ, rfl, rfl, rfl, rfl, rfl, rfl, rfl, rfl, B2, B3, hbel⟩ := hrel
    by_cases hlt : k < 64
    · have hix := index_u32 Try.underlying83 kL kL_length k hlt
      obtain ⟨y, hy⟩ : ∃ y, y = kL.getD k 0 := ⟨_, rfl⟩
      obtain ⟨x, hx⟩ : ∃ x, x = ws.getD k 0 := ⟨_, rfl⟩
      rw [← hy] at hix
      have C0 := B2.cellu (k := k) (by omega)
      rw [← hx] at C0
      have k0 : (0 : Int) ≤ (k : Int) := by omega
      have k1 : (k : Int) < 64 := by omega
      have HX := Lib.hid hx
      have HY := Lib.hid hy
      have G2 := Lib.hid B2
      have G3 := Lib.hid B3
      clear hx hy B2 B3
      go_wp2_with fail
      go_quiet ((first | exact turned_q e 6 (by decide) (by decide) _ _ | exact turned_q e 11 (by decide) (by decide) _ _ | exact turned_q e 25 (by decide) (by decide) _ _))
      go_wp2_with fail
      refine (turned_any a 2 _ (by decide) (by decide)).mono ?_
      rintro r w' ⟨rfl, rfl⟩
      go_wp2_with fail
      refine (turned_any a 13 _ (by decide) (by decide)).mono ?_
      rintro r w' ⟨rfl, rfl⟩
      go_wp2_with fail
      refine (turned_any a 22 _ (by decide) (by decide)).mono ?_
      rintro r w' ⟨rfl, rfl⟩
      go_wp2_with fail
      go_roundw
      case rel =>
        refine ⟨k + 1, (⟨a, b, c, d, e, f, g, h0⟩ : St).step y x, by omega, by go_num, ?_, ?_, rfl, rfl, rfl, ?_, rfl, rfl, rfl, G2.out.drewN _, G3.out.drewN _, below_drewN' hbel _⟩
        · show _ = _
          rw [mixTo, ← HZ.out, ← HX.out, ← HY.out]
        · refine int_eq ?_
          rw [t1_val a b c d e f g h0, t2_val a b c d e f g h0, w_add]; rfl
        · refine int_eq ?_
          rw [t1_val a b c d e f g h0, w_add]; rfl
      case measure => simp [intOf]; omega
    · obtain rfl : k = 64 := by omega
      have E : mixL s ws = [a, b, c, d, e, f, g, h0] := by rw [mixL, ← HZ.out]; rfl
      have HE := Lib.hid E
      clear E
      have G3 := Lib.hid B3
      clear B2 B3
      go_wp2_with (refine wpList_store_row rfl 60 (.tmp 4) (.tmp 104) rfl (w.heap.size + 1 + 1) (uv [a, b, c, d, e, f, g, h0]) rfl rfl 60 (uv (List.replicate 8 0)) G3.out info28 rfl (uv_one _) ?_)
      exact bodyPost_ret (v := .agg (uv [a, b, c, d, e, f, g, h0])) (results_cell_row Try.results56 _ _ (w.heap.size + 1 + 1) 60 (uv [a, b, c, d, e, f, g, h0]) (0, 0) _ rfl (setRow_heap _ _ _ _ _ _ G3.out) Try.underlying60 rfl info28) rfl ⟨by rw [HE.out], below_setRow hbel (by omega) _⟩
end Go.Proofs.Ytobkkbpeoohfkaa
