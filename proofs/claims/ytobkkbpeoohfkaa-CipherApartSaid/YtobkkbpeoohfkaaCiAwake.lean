/-
  The contract of layer 5's awake: one pad is put upon bytes.
-/
import Derived.Test.YtobkkbpeoohfkaaCiUse
import Derived.Deep.QuietTactic
import Derived.BigQuiet
namespace Go.Proofs.Ytobkkbpeoohfkaa.Ci
open Go.RowKit
attribute [local go_sem ↓] Go.wp_at_zero Go.wp_at_succ
/-- The key of the example. -/
def key1 : List UInt8 := zeros.set 0 1
theorem key1_length : key1.length = 32 := rfl
set_option maxRecDepth 100000 in
set_option maxHeartbeats 1600000 in
theorem ciAwake_any (w : World) : Calls Try.prog 10 #[] w (RetB (.bool true) w) := by
  obtain ⟨z, hz0⟩ : ∃ z : List UInt8, z = zeros := ⟨_, rfl⟩
  obtain ⟨cz, hcz⟩ : ∃ cz, cz = litC zeros 0 zeros := ⟨_, rfl⟩
  have hb : ∀ W, (zeroValue 30).run Try.prog W = .ok (.agg (bva z)) W := fun _ => by rw [hz0]; kernel_rfl
  have hl : ∀ W, (zeroValue 46).run Try.prog W = .ok (.agg cz) W := fun _ => by rw [hcz]; kernel_rfl
  have Z3 : Hid (z.length = 32) := by show _ = _; rw [hz0]; rfl
  obtain ⟨P, hP⟩ : ∃ P, P = litL key1 3 := ⟨_, rfl⟩
  have P3 : P.length = 32 := by rw [hP, litL_length]
  obtain ⟨p0, p1, r, hr⟩ : ∃ p0 p1 r, P = p0 :: p1 :: r := by
    match P, P3 with
    | p0 :: p1 :: r, _ => exact ⟨p0, p1, r, rfl⟩
  have HP := Lib.hid hP
  have HR := Lib.hid hr
  have HP3 := Lib.hid P3
  have HI : Hid ((Try.prog.info? 30).map (·.size) = some (bva P).size) := by rw [bva_size, P3]; exact info_blk
  have HC := Lib.hid hcz
  clear hz0 hcz hP hr P3
  go_enter Try.func10, Try.ntmps10
  go_wp2_with fail
  rw [HC.out]
  change Calls Try.prog 17 #[.iface 46 (.agg (litC zeros 0 zeros)), .agg (bva key1), .int .u64 3, .slice (some ⟨w.heap.size, 0, none⟩) 2 2] (w.alloc (.cells (bv [5, 6]).toArray 5)) _
  refine (hide_zero key1 3 (some ⟨w.heap.size, 0, none⟩) 2 2 [5, 6] _ key1_length rfl (by omega) (Rd.more (Rd.lit w 5 (bv [5, 6])) (by simp))).mono ?_
  rintro e w1 ⟨A1, n1, c1, rfl, ho, hb1⟩
  rw [← HP.out, HR.out] at ho
  have n2 : n1 = 2 := by have := own_blen ho; rw [← this]; simp [Wi.xorL]
  subst n2
  obtain ⟨g, hA, hg, _, _⟩ := own_addr ho (by omega)
  subst hA
  have hb0 : Below w.heap.size w w1 := ((Below.refl _ _).alloc (Nat.le_refl _) _).trans (hb1.mono (by simp))
  have r1 := Rd.own ho
  have HO := Lib.hid r1
  have HB := Lib.hid hb0
  clear ho hg hb1 r1 hb0
  go_wp2_with fail
  refine (litpad_any key1 key1_length 3 w1).mono ?_
  rintro e w2 ⟨rfl, bw⟩
  rw [← HP.out]
  have c0 : w1.cell? ⟨g, 0, none⟩ = some (.int .u8 (bits .xor .u8 5 (p0.toNat : Int))) := by
    obtain ⟨ad, e, _, h⟩ := HO.out 0 (.int .u8 ((5 ^^^ p0).toNat : Int)) rfl
    injection e with e; subst e
    rw [add_head] at h; rw [h]; exact congrArg (fun v => some (Value.int .u8 v)) (Wi.bits_xor8 5 p0).symm
  have c1' : w1.cell? ⟨g, 1, none⟩ = some (.int .u8 (bits .xor .u8 6 (p1.toNat : Int))) := by
    obtain ⟨ad, e, _, h⟩ := HO.out 1 (.int .u8 ((6 ^^^ p1).toNat : Int)) rfl
    injection e with e; subst e
    rw [add_head] at h; rw [h]; exact congrArg (fun v => some (Value.int .u8 v)) (Wi.bits_xor8 6 p1).symm
  have hg : g < w1.heap.size := by obtain ⟨ad, e, h, _⟩ := HO.out 0 (.int .u8 ((5 ^^^ p0).toNat : Int)) rfl; injection e with e; subst e; exact h
  have d0 := (bw.cell (p := ⟨g, 0, none⟩) hg).trans c0
  have d1 := (bw.cell (p := ⟨g, 1, none⟩) hg).trans c1'
  have D0 := Lib.hid d0
  have D1 := Lib.hid d1
  have hg2 : g < w2.heap.size := Nat.lt_of_lt_of_le hg bw.size
  have DB := Lib.hid (HB.out.trans (bw.mono HB.out.size))
  clear c0 c1' d0 d1 bw HB HO
  go_wp2_with (refine wpList_store_row rfl 30 (.tmp 2) (.tmp 9) rfl w2.heap.size (bva P) rfl rfl 30 (bva z) (heap_alloc_new _ _) HI.out (by simp only [bva_size, HP3.out, Z3.out]) (bva_one _) ?_
               generalize hw3 : World.setRow _ _ _ = w3
               have q4 : Blk w3 w2.heap.size (bva P) 30 := by rw [← hw3]; exact blk_new _
               have qb : Below w2.heap.size w2 w3 := by rw [← hw3]; exact below_new (Below.refl _ _) (Nat.le_refl _)
               have f0 := (qb.cell (p := ⟨g, 0, none⟩) hg2).trans D0.out
               have f1 := (qb.cell (p := ⟨g, 1, none⟩) hg2).trans D1.out
               have f2 : w3.cell? ⟨w2.heap.size, 0, none⟩ = some (.int .u8 (p0.toNat : Int)) := by rw [q4.cell, HR.out]; rfl
               have f3 : w3.cell? ⟨w2.heap.size, 1, none⟩ = some (.int .u8 (p1.toNat : Int)) := by rw [q4.cell, HR.out]; rfl
               have QB := Lib.hid (DB.out.trans (qb.mono DB.out.size))
               clear q4 qb hw3 D0 D1 DB)
  go_quiet (fail)
  go_wp2
  go_ret
  exact ⟨rfl, below_drewN' QB.out nq⟩
end Go.Proofs.Ytobkkbpeoohfkaa.Ci
