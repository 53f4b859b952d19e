/-
  LogNone holds: of any shape and any byte the law returns true.
-/
import Derived.Test.YthadomboiockhaaLb1
import Derived.Deep.RegionHeld
import Derived.Deep.Cut
import Derived.Test.YthadomboiockhaaRows
import Derived.ProofKit
import Derived.OpenShut
import Derived.ShutString
import Derived.ChangeOld
namespace Go.Proofs.Ythadomboiockhaa
open Go.RowKit Kd Mi Sx Lo Go.ChangeShapes Go.WideShapes Go.ChangeAt
attribute [local go_sem ↓] Go.wp_at_zero Go.wp_at_succ
theorem srch_out {f : List UInt8 → List UInt8 → List UInt8} {gf : Int → List UInt8 → Bool} {x : Md} (h0 : x.o0 = true) (h1 : x.o1 = true) : ∀ k, srchX f gf x k = (x, [])
  | 0 => rfl
  | k + 1 => by
    have e : x.both gf ((k + 2 : Nat) : Int) = [] := by
      unfold Md.both
      split
      · simp [Md.bothTo, Md.o, h0, h1]
      · rfl
    rw [srchX, srch_out h0 h1 k, e]
    rfl
theorem lm_below {p g1 g2 g : Nat} {G : Gd} {w0 w w' : World} {s : Mr (Mu.one p g1 g2)} {F : Nat → Prop} {x : Md} {m : Nat} (h : Mu.LM p g1 g2 G g w0 w s F x m) (hb : Below w.heap.size w w') : Mu.LM p g1 g2 G g w0 w' s F x m :=
  ⟨⟨(ML (Mu.one p g1 g2) G g).below h.live.at_ hb, h.live.new, h.live.bel.trans (hb.mono h.live.bel.size)⟩, h.sees, h.dry⟩
theorem base_zeros {n N : Nat} (hN : N ≤ n) (hn : n < 256) : baseF litS.f (List.replicate n zeroS) (List.replicate n zeroS) N = [] := by
  unfold baseF
  rw [List.filterMap_eq_nil_iff]
  intro i hi
  have hi := List.mem_range.1 hi
  have h1 : (List.replicate n zeroS).getD (i + 2) zeroS = zeroS := by
    rw [List.getD_eq_getElem?_getD, List.getElem?_replicate]; split <;> rfl
  have h2 : okS litS.f ((i + 2 : Nat) : Int) zeroS = false := zero_no2 (by omega)
  unfold foundAt bestS
  simp only [h1, h2]
  rfl
set_option maxRecDepth 100000 in
set_option maxHeartbeats 25600000 in
theorem logNone_any (w : World) (a b : Int) (_ : Sg.i64B a) (_ : Sg.i64B b) (kk : Int) (hk : 0 ≤ kk ∧ kk ≤ 255) : Calls Try.prog 8 #[.agg #[.int .i64 a, .int .i64 b], .int .u8 kk] w (RetB (.bool true) w) := by
  obtain ⟨n, rfl⟩ : ∃ n : Nat, kk = (n : Int) := ⟨kk.toNat, by omega⟩
  have HN := Lib.hid (show n ≤ 255 by omega)
  have wk : wrap64 (n : Int) = (n : Int) := by unfold wrap64; omega
  have wk2 : IntKind.i64.wrap (n : Int) = (n : Int) := IntWalk.i64_in _ (by omega)
  clear hk
  obtain ⟨W, hW⟩ : ∃ W, W = w.alloc (.cells #[.int .i64 a, .int .i64 b] 71) := ⟨_, rfl⟩
  have B1 := Lib.hid (show Blk W w.heap.size #[.int .i64 a, .int .i64 b] 71 by rw [hW]; exact heap_alloc_new _ _)
  have BB := Lib.hid (show Below w.heap.size w W by rw [hW]; exact (Below.refl w.heap.size w).alloc (Nat.le_refl _) _)
  go_enter Try.func8, Try.ntmps8
  go_wp2_with fail
  rw [show (w.alloc (Obj.cells #[.int .i64 a, .int .i64 b] 71)) = W from hW.symm]
  clear hW
  refine (Lo.awake_any _).mono ?_
  rintro e w1 ⟨rfl, bw⟩
  have B2 := Lib.hid (B1.out.below bw)
  have BB2 := Lib.hid (BB.out.trans (bw.mono BB.out.size))
  clear bw B1 BB
  go_wp2_with fail
  refine live_power.mono ?_
  rintro e w2 ⟨p, rfl, F2, h⟩
  have H2 := Lib.hid h
  clear h
  go_wp2_with fail
  refine (live_new H2.out (by decide) (n : Int)).mono ?_
  rintro e w3 ⟨g1, rfl, F3, h, -, -⟩
  have H3 := Lib.hid h
  clear h H2
  go_wp2_with fail
  refine (live_new H3.out (by show 1 < 1000; omega) (n : Int)).mono ?_
  rintro e w4 ⟨g2, rfl, F4, h, -, -⟩
  have H4 := Lib.hid h
  clear h H3
  go_wp2_with fail
  refine (good_iface 111 (.agg zeroLit) _).mono ?_
  rintro e w5 ⟨rfl, hw5⟩
  obtain ⟨bG, hbG⟩ : ∃ v, v = w4.heap.size := ⟨_, rfl⟩
  rw [← hbG]
  have bw : Below w4.heap.size w4 w5 := by rw [hw5]; exact (Below.refl _ _).alloc (Nat.le_refl _) _
  have HBG := Lib.hid (show Blk w5 bG #[litS.v] 152 by rw [hw5, hbG]; exact heap_alloc_new _ _)
  have NG := Lib.hid (show ¬F4 bG ∧ w1.heap.size ≤ bG from ⟨fun hf => by have := H4.out.sys.lt bG hf; omega, by rw [hbG]; exact H4.out.bel.size⟩)
  have H5 := Lib.hid (show Live w1 w5 _ _ _ _ from ⟨H4.out.sys.but (but_below (T := fun _ => False) bw) (fun _ _ h => h), H4.out.new, H4.out.bel.trans (bw.mono H4.out.bel.size)⟩)
  clear bw hw5 hbG H4
  go_wp2_with fail
  have hsee := Mu.see_new n (by have := HN.out; omega)
  refine (lm_newB (G := gdS litS bG) (fun _ _ _ _ _ _ => trivial) (Mu.ld_new (g1 := g1) (g2 := g2) H5.out hsee.1 hsee.2) (fun y hy => by rw [show (gdS litS bG).l = [(bG, #[litS.v], 152)] from rfl, List.mem_singleton] at hy; subst hy; exact ⟨HBG.out, NG.out.1, NG.out.2⟩) (n := n) List.length_replicate List.length_replicate).mono ?_
  rintro e w6 ⟨g, s6, F6, rfl, h, -, -⟩
  have H6 := Lib.hid (show Mu.LM p g1 g2 (gdS litS bG) g w1 w6 s6 F6 (Sc.startM (List.replicate n zeroS) (List.replicate n zeroS) n) 0 from h)
  have X6 := Lib.hid (B2.out.below (H6.out.live.bel.mono (Nat.le_refl _)))
  clear h hsee HBG NG H5
  have c00 : w6.cell? ⟨w.heap.size, 0, none⟩ = some (.int .i64 a) := X6.out.cell 0
  have c01 : w6.cell? ⟨w.heap.size, 1, none⟩ = some (.int .i64 b) := X6.out.cell 1
  have HPU : ∀ l : Nat, (l : Int) = (n : Int) → l = n := fun l h => by omega
  clear HPU
  by_cases hok : Sg.okS a b
  · have HOK := Lib.hid hok
    clear hok
    go_wp2_with fail
    refine (Sg.check_yes a b HOK.out _).mono ?_
    rintro e w7 ⟨rfl, bw⟩
    have H7 := Lib.hid (lm_below H6.out bw)
    have X7 := Lib.hid (X6.out.below bw)
    clear bw c00 c01 H6 X6
    have c00 : w7.cell? ⟨w.heap.size, 0, none⟩ = some (.int .i64 a) := X7.out.cell 0
    have c01 : w7.cell? ⟨w.heap.size, 1, none⟩ = some (.int .i64 b) := X7.out.cell 1
    go_wp2_with fail
    refine (Sg.sectors_yes a b HOK.out _).mono ?_
    rintro e w8 ⟨rfl, bw⟩
    have H8 := Lib.hid (lm_below H7.out bw)
    have X8 := Lib.hid (X7.out.below bw)
    clear bw c00 c01 H7 X7
    have c00 : w8.cell? ⟨w.heap.size, 0, none⟩ = some (.int .i64 a) := X8.out.cell 0
    have c01 : w8.cell? ⟨w.heap.size, 1, none⟩ = some (.int .i64 b) := X8.out.cell 1
    by_cases hle : 2 + a * b ≤ (n : Int)
    · obtain ⟨A, rfl⟩ : ∃ A : Nat, a = (A : Int) := ⟨a.toNat, by have := HOK.out; unfold Sg.okS at this; omega⟩
      obtain ⟨B, rfl⟩ : ∃ B : Nat, b = (B : Int) := ⟨b.toNat, by have := HOK.out; unfold Sg.okS at this; omega⟩
      have HLE := Lib.hid (show 2 + A * B ≤ n by have : ((A * B : Nat) : Int) = (A : Int) * (B : Int) := Int.natCast_mul _ _; omega)
      obtain ⟨sc, hsc⟩ : ∃ v : Int, v = 2 + (A : Int) * (B : Int) := ⟨_, rfl⟩
      rw [← hsc] at hle ⊢
      have d1 : decide (sc > (n : Int)) = false := decide_eq_false (by omega)
      have d2 : decide ((n : Int) < sc) = false := decide_eq_false (by omega)
      clear hle hsc
      go_wp2_with fail
      refine (rnew_any H8.out.live.at_ litS A B HOK.out (by rw [H8.out.sees.a]; exact Nat.le_trans HLE.out (Nat.le_of_eq List.length_replicate.symm))).mono ?_
      rintro e w9 ⟨q9, F9, rfl, -, -, bw⟩
      have H9 := Lib.hid (lm_below H8.out bw)
      have X9 := Lib.hid (X8.out.below bw)
      clear bw c00 c01 H8 X8
      have c00 : w9.cell? ⟨w.heap.size, 0, none⟩ = some (.int .i64 (A : Int)) := X9.out.cell 0
      have c01 : w9.cell? ⟨w.heap.size, 1, none⟩ = some (.int .i64 (B : Int)) := X9.out.cell 1
      go_wp2_with fail
      have hbz := base_zeros (n := n) (N := 2 + A * B) HLE.out (by have := HN.out; omega)
      refine (open_any H9.out List.length_replicate List.length_replicate (by omega) A B HOK.out HLE.out (by rw [hbz]; intro x hx; cases hx)).mono ?_
      rintro e w10 ⟨q10, A10, k10, c10, fd, s10, F10, FF10, rfl, hlg, hfd, hp, -, -, -, -, -⟩
      rw [hbz] at hp
      obtain rfl : fd = [] := List.map_eq_nil_iff.1 (List.perm_nil.1 hp)
      obtain rfl : 0 = k10 := fd_len hfd
      obtain ⟨F11, hlm, -, -⟩ := lgm_lm hlg
      obtain ⟨L0, hL0⟩ : ∃ L, L = chosen litS.f (List.replicate n zeroS) (List.replicate n zeroS) (List.replicate n zeroS) (A * B) := ⟨_, rfl⟩
      rw [← hL0] at hlm
      have H10 := Lib.hid hlm
      have X10 := Lib.hid (B2.out.below H10.out.live.bel)
      clear hlg hfd hp hlm c00 c01 H9 X9 hbz hL0
      have c00 : w10.cell? ⟨w.heap.size, 0, none⟩ = some (.int .i64 (A : Int)) := X10.out.cell 0
      have c01 : w10.cell? ⟨w.heap.size, 1, none⟩ = some (.int .i64 (B : Int)) := X10.out.cell 1
      go_wp2_with fail
      refine (lnew_nilM _ _ _ _).mono ?_
      rintro e w11 ⟨rfl, bw⟩
      have H11 := Lib.hid (lm_below H10.out bw)
      have X11 := Lib.hid (X10.out.below bw)
      clear bw c00 c01 H10 X10
      have c00 : w11.cell? ⟨w.heap.size, 0, none⟩ = some (.int .i64 (A : Int)) := X11.out.cell 0
      have c01 : w11.cell? ⟨w.heap.size, 1, none⟩ = some (.int .i64 (B : Int)) := X11.out.cell 1
      go_wp2_with fail
      refine (lnew_nilC _ _ _ _).mono ?_
      rintro e w12 ⟨rfl, bw⟩
      have H12 := Lib.hid (lm_below H11.out bw)
      have X12 := Lib.hid (X11.out.below bw)
      clear bw c00 c01 H11 X11
      have c00 : w12.cell? ⟨w.heap.size, 0, none⟩ = some (.int .i64 (A : Int)) := X12.out.cell 0
      have c01 : w12.cell? ⟨w.heap.size, 1, none⟩ = some (.int .i64 (B : Int)) := X12.out.cell 1
      go_wp2_with fail
      refine (open_nilM _ _ _ _).mono ?_
      rintro e w13 ⟨rfl, bw⟩
      have H13 := Lib.hid (lm_below H12.out bw)
      have X13 := Lib.hid (X12.out.below bw)
      clear bw c00 c01 H12 X12
      have c00 : w13.cell? ⟨w.heap.size, 0, none⟩ = some (.int .i64 (A : Int)) := X13.out.cell 0
      have c01 : w13.cell? ⟨w.heap.size, 1, none⟩ = some (.int .i64 (B : Int)) := X13.out.cell 1
      go_wp2_with fail
      refine (open_nilC _ _ _ _).mono ?_
      rintro e w14 ⟨rfl, bw⟩
      have H14 := Lib.hid (lm_below H13.out bw)
      have X14 := Lib.hid (X13.out.below bw)
      clear bw c00 c01 H13 X13
      have c00 : w14.cell? ⟨w.heap.size, 0, none⟩ = some (.int .i64 (A : Int)) := X14.out.cell 0
      have c01 : w14.cell? ⟨w.heap.size, 1, none⟩ = some (.int .i64 (B : Int)) := X14.out.cell 1
      go_wp2_with fail
      refine (Mu.lm_out0 H14.out true).mono ?_
      rintro e w15 ⟨rfl, s15, F15, h, -⟩
      have H15 := Lib.hid h
      have X15 := Lib.hid (B2.out.below H15.out.live.bel)
      clear h c00 c01 H14 X14
      have c00 : w15.cell? ⟨w.heap.size, 0, none⟩ = some (.int .i64 (A : Int)) := X15.out.cell 0
      have c01 : w15.cell? ⟨w.heap.size, 1, none⟩ = some (.int .i64 (B : Int)) := X15.out.cell 1
      go_wp2_with fail
      refine (Mu.lm_out1 H15.out true).mono ?_
      rintro e w16 ⟨rfl, s16, F16, h, -⟩
      have H16 := Lib.hid h
      have X16 := Lib.hid (B2.out.below H16.out.live.bel)
      clear h c00 c01 H15 X15
      have c00 : w16.cell? ⟨w.heap.size, 0, none⟩ = some (.int .i64 (A : Int)) := X16.out.cell 0
      have c01 : w16.cell? ⟨w.heap.size, 1, none⟩ = some (.int .i64 (B : Int)) := X16.out.cell 1
      go_wp2_with fail
      refine (open_down (ci := litS) H16.out.live.at_ H16.out.sees H16.out.dry A B HOK.out (by have := HLE.out; have := HN.out; omega) (Nat.le_trans HLE.out (Nat.le_of_eq List.length_replicate.symm)) (by rw [srch_out rfl rfl]; rfl)).mono ?_
      rintro e w17 ⟨rfl, hb⟩
      have TT := Lib.hid (show Below w.heap.size w w17 from BB2.out.trans ((H16.out.live.bel.trans (hb.below (fun j hj hF => by have := H16.out.live.new j hF; omega) H16.out.live.bel.size)).mono BB2.out.size))
      clear hb c00 c01 H16 X16
      go_wp2_with fail
      have T0 := Lib.hid (show Below w.heap.size w w17 from TT.out)
      refine (nil_append _).mono ?_
      rintro e v0 ⟨rfl, bw⟩
      have T1 := Lib.hid (T0.out.trans (bw.mono T0.out.size))
      clear bw T0
      go_wp2_with fail
      refine (nil_read _ _).mono ?_
      rintro e v1 ⟨rfl, bw⟩
      have T2 := Lib.hid (T1.out.trans (bw.mono T1.out.size))
      clear bw T1
      go_wp2_with fail
      refine (nil_head _).mono ?_
      rintro e v2 ⟨rfl, bw⟩
      have T3 := Lib.hid (T2.out.trans (bw.mono T2.out.size))
      clear bw T2
      go_wp2_with fail
      refine (nil_flush _).mono ?_
      rintro e v3 ⟨rfl, bw⟩
      have T4 := Lib.hid (T3.out.trans (bw.mono T3.out.size))
      clear bw T3
      go_wp2_with fail
      refine (nil_free _ _).mono ?_
      rintro e v4 ⟨rfl, bw⟩
      have T5 := Lib.hid (T4.out.trans (bw.mono T4.out.size))
      clear bw T4
      go_wp2_with fail
      refine (nil_gen _ _).mono ?_
      rintro e v5 ⟨rfl, bw⟩
      have T6 := Lib.hid (T5.out.trans (bw.mono T5.out.size))
      clear bw T5
      go_wp2_with fail
      refine (nil_room _).mono ?_
      rintro e v6 ⟨rfl, bw⟩
      have T7 := Lib.hid (T6.out.trans (bw.mono T6.out.size))
      clear bw T6
      go_wp2_with fail
      go_ret
      exact ⟨rfl, T7.out⟩
    · have HNO := Lib.hid (show ∀ l : Nat, l = n → ¬(Sg.okS a b ∧ 2 + a * b ≤ (l : Int)) from fun l hl h => by subst hl; exact hle h.2)
      obtain ⟨sc, hsc⟩ : ∃ v : Int, v = 2 + a * b := ⟨_, rfl⟩
      rw [← hsc] at hle ⊢
      have d1 : decide (sc > (n : Int)) = true := decide_eq_true (by omega)
      have d2 : decide ((n : Int) < sc) = true := decide_eq_true (by omega)
      clear hle hsc
      go_wp2_with fail
      refine (lnew_shape H8.out.live.at_ litS a b (HNO.out _ (by rw [H8.out.sees.a]; exact List.length_replicate))).mono ?_
      rintro e w9 ⟨rfl, bw⟩
      have H9 := Lib.hid (lm_below H8.out bw)
      have X9 := Lib.hid (X8.out.below bw)
      clear bw c00 c01 H8 X8
      have c00 : w9.cell? ⟨w.heap.size, 0, none⟩ = some (.int .i64 a) := X9.out.cell 0
      have c01 : w9.cell? ⟨w.heap.size, 1, none⟩ = some (.int .i64 b) := X9.out.cell 1
      go_wp2_with fail
      refine (open_shape H9.out.live.at_ litS a b (HNO.out _ (by rw [H9.out.sees.a]; exact List.length_replicate))).mono ?_
      rintro e w10 ⟨rfl, bw⟩
      have H10 := Lib.hid (lm_below H9.out bw)
      have X10 := Lib.hid (X9.out.below bw)
      clear bw c00 c01 H9 X9
      have c00 : w10.cell? ⟨w.heap.size, 0, none⟩ = some (.int .i64 a) := X10.out.cell 0
      have c01 : w10.cell? ⟨w.heap.size, 1, none⟩ = some (.int .i64 b) := X10.out.cell 1
      go_wp2_with fail
      refine (lnew_nilM _ _ _ _).mono ?_
      rintro e w11 ⟨rfl, bw⟩
      have H11 := Lib.hid (lm_below H10.out bw)
      have X11 := Lib.hid (X10.out.below bw)
      clear bw c00 c01 H10 X10
      have c00 : w11.cell? ⟨w.heap.size, 0, none⟩ = some (.int .i64 a) := X11.out.cell 0
      have c01 : w11.cell? ⟨w.heap.size, 1, none⟩ = some (.int .i64 b) := X11.out.cell 1
      go_wp2_with fail
      refine (lnew_nilC _ _ _ _).mono ?_
      rintro e w12 ⟨rfl, bw⟩
      have H12 := Lib.hid (lm_below H11.out bw)
      have X12 := Lib.hid (X11.out.below bw)
      clear bw c00 c01 H11 X11
      have c00 : w12.cell? ⟨w.heap.size, 0, none⟩ = some (.int .i64 a) := X12.out.cell 0
      have c01 : w12.cell? ⟨w.heap.size, 1, none⟩ = some (.int .i64 b) := X12.out.cell 1
      go_wp2_with fail
      refine (open_nilM _ _ _ _).mono ?_
      rintro e w13 ⟨rfl, bw⟩
      have H13 := Lib.hid (lm_below H12.out bw)
      have X13 := Lib.hid (X12.out.below bw)
      clear bw c00 c01 H12 X12
      have c00 : w13.cell? ⟨w.heap.size, 0, none⟩ = some (.int .i64 a) := X13.out.cell 0
      have c01 : w13.cell? ⟨w.heap.size, 1, none⟩ = some (.int .i64 b) := X13.out.cell 1
      go_wp2_with fail
      refine (open_nilC _ _ _ _).mono ?_
      rintro e w14 ⟨rfl, bw⟩
      have H14 := Lib.hid (lm_below H13.out bw)
      have X14 := Lib.hid (X13.out.below bw)
      clear bw c00 c01 H13 X13
      have c00 : w14.cell? ⟨w.heap.size, 0, none⟩ = some (.int .i64 a) := X14.out.cell 0
      have c01 : w14.cell? ⟨w.heap.size, 1, none⟩ = some (.int .i64 b) := X14.out.cell 1
      go_wp2_with fail
      refine (Mu.lm_out0 H14.out true).mono ?_
      rintro e w15 ⟨rfl, s15, F15, h, -⟩
      have H15 := Lib.hid h
      have X15 := Lib.hid (B2.out.below H15.out.live.bel)
      clear h c00 c01 H14 X14
      have c00 : w15.cell? ⟨w.heap.size, 0, none⟩ = some (.int .i64 a) := X15.out.cell 0
      have c01 : w15.cell? ⟨w.heap.size, 1, none⟩ = some (.int .i64 b) := X15.out.cell 1
      go_wp2_with fail
      refine (Mu.lm_out1 H15.out true).mono ?_
      rintro e w16 ⟨rfl, s16, F16, h, -⟩
      have H16 := Lib.hid h
      have X16 := Lib.hid (B2.out.below H16.out.live.bel)
      clear h c00 c01 H15 X15
      have c00 : w16.cell? ⟨w.heap.size, 0, none⟩ = some (.int .i64 a) := X16.out.cell 0
      have c01 : w16.cell? ⟨w.heap.size, 1, none⟩ = some (.int .i64 b) := X16.out.cell 1
      go_wp2_with fail
      refine (open_shape H16.out.live.at_ litS a b (HNO.out _ (by rw [H16.out.sees.a]; exact List.length_replicate))).mono ?_
      rintro e w17 ⟨rfl, bw⟩
      have TT := Lib.hid (show Below w.heap.size w w17 from BB2.out.trans ((H16.out.live.bel.trans (bw.mono H16.out.live.bel.size)).mono BB2.out.size))
      clear bw c00 c01 H16 X16
      go_wp2_with fail
      have T0 := Lib.hid (show Below w.heap.size w w17 from TT.out)
      refine (nil_append _).mono ?_
      rintro e v0 ⟨rfl, bw⟩
      have T1 := Lib.hid (T0.out.trans (bw.mono T0.out.size))
      clear bw T0
      go_wp2_with fail
      refine (nil_read _ _).mono ?_
      rintro e v1 ⟨rfl, bw⟩
      have T2 := Lib.hid (T1.out.trans (bw.mono T1.out.size))
      clear bw T1
      go_wp2_with fail
      refine (nil_head _).mono ?_
      rintro e v2 ⟨rfl, bw⟩
      have T3 := Lib.hid (T2.out.trans (bw.mono T2.out.size))
      clear bw T2
      go_wp2_with fail
      refine (nil_flush _).mono ?_
      rintro e v3 ⟨rfl, bw⟩
      have T4 := Lib.hid (T3.out.trans (bw.mono T3.out.size))
      clear bw T3
      go_wp2_with fail
      refine (nil_free _ _).mono ?_
      rintro e v4 ⟨rfl, bw⟩
      have T5 := Lib.hid (T4.out.trans (bw.mono T4.out.size))
      clear bw T4
      go_wp2_with fail
      refine (nil_gen _ _).mono ?_
      rintro e v5 ⟨rfl, bw⟩
      have T6 := Lib.hid (T5.out.trans (bw.mono T5.out.size))
      clear bw T5
      go_wp2_with fail
      refine (nil_room _).mono ?_
      rintro e v6 ⟨rfl, bw⟩
      have T7 := Lib.hid (T6.out.trans (bw.mono T6.out.size))
      clear bw T6
      go_wp2_with fail
      go_ret
      exact ⟨rfl, T7.out⟩
  · have HNO := Lib.hid (show ∀ l : Nat, l = n → ¬(Sg.okS a b ∧ 2 + a * b ≤ (l : Int)) from fun l _ h => hok h.1)
    have HOK := Lib.hid hok
    clear hok
    go_wp2_with fail
    refine (Sg.check_no a b HOK.out _).mono ?_
    rintro e w7 ⟨rfl, bw⟩
    have H7 := Lib.hid (lm_below H6.out bw)
    have X7 := Lib.hid (X6.out.below bw)
    clear bw c00 c01 H6 X6
    have c00 : w7.cell? ⟨w.heap.size, 0, none⟩ = some (.int .i64 a) := X7.out.cell 0
    have c01 : w7.cell? ⟨w.heap.size, 1, none⟩ = some (.int .i64 b) := X7.out.cell 1
    go_wp2_with fail
    refine (lnew_shape H7.out.live.at_ litS a b (HNO.out _ (by rw [H7.out.sees.a]; exact List.length_replicate))).mono ?_
    rintro e w8 ⟨rfl, bw⟩
    have H8 := Lib.hid (lm_below H7.out bw)
    have X8 := Lib.hid (X7.out.below bw)
    clear bw c00 c01 H7 X7
    have c00 : w8.cell? ⟨w.heap.size, 0, none⟩ = some (.int .i64 a) := X8.out.cell 0
    have c01 : w8.cell? ⟨w.heap.size, 1, none⟩ = some (.int .i64 b) := X8.out.cell 1
    go_wp2_with fail
    refine (open_shape H8.out.live.at_ litS a b (HNO.out _ (by rw [H8.out.sees.a]; exact List.length_replicate))).mono ?_
    rintro e w9 ⟨rfl, bw⟩
    have H9 := Lib.hid (lm_below H8.out bw)
    have X9 := Lib.hid (X8.out.below bw)
    clear bw c00 c01 H8 X8
    have c00 : w9.cell? ⟨w.heap.size, 0, none⟩ = some (.int .i64 a) := X9.out.cell 0
    have c01 : w9.cell? ⟨w.heap.size, 1, none⟩ = some (.int .i64 b) := X9.out.cell 1
    go_wp2_with fail
    refine (lnew_nilM _ _ _ _).mono ?_
    rintro e w10 ⟨rfl, bw⟩
    have H10 := Lib.hid (lm_below H9.out bw)
    have X10 := Lib.hid (X9.out.below bw)
    clear bw c00 c01 H9 X9
    have c00 : w10.cell? ⟨w.heap.size, 0, none⟩ = some (.int .i64 a) := X10.out.cell 0
    have c01 : w10.cell? ⟨w.heap.size, 1, none⟩ = some (.int .i64 b) := X10.out.cell 1
    go_wp2_with fail
    refine (lnew_nilC _ _ _ _).mono ?_
    rintro e w11 ⟨rfl, bw⟩
    have H11 := Lib.hid (lm_below H10.out bw)
    have X11 := Lib.hid (X10.out.below bw)
    clear bw c00 c01 H10 X10
    have c00 : w11.cell? ⟨w.heap.size, 0, none⟩ = some (.int .i64 a) := X11.out.cell 0
    have c01 : w11.cell? ⟨w.heap.size, 1, none⟩ = some (.int .i64 b) := X11.out.cell 1
    go_wp2_with fail
    refine (open_nilM _ _ _ _).mono ?_
    rintro e w12 ⟨rfl, bw⟩
    have H12 := Lib.hid (lm_below H11.out bw)
    have X12 := Lib.hid (X11.out.below bw)
    clear bw c00 c01 H11 X11
    have c00 : w12.cell? ⟨w.heap.size, 0, none⟩ = some (.int .i64 a) := X12.out.cell 0
    have c01 : w12.cell? ⟨w.heap.size, 1, none⟩ = some (.int .i64 b) := X12.out.cell 1
    go_wp2_with fail
    refine (open_nilC _ _ _ _).mono ?_
    rintro e w13 ⟨rfl, bw⟩
    have H13 := Lib.hid (lm_below H12.out bw)
    have X13 := Lib.hid (X12.out.below bw)
    clear bw c00 c01 H12 X12
    have c00 : w13.cell? ⟨w.heap.size, 0, none⟩ = some (.int .i64 a) := X13.out.cell 0
    have c01 : w13.cell? ⟨w.heap.size, 1, none⟩ = some (.int .i64 b) := X13.out.cell 1
    go_wp2_with fail
    refine (Mu.lm_out0 H13.out true).mono ?_
    rintro e w14 ⟨rfl, s14, F14, h, -⟩
    have H14 := Lib.hid h
    have X14 := Lib.hid (B2.out.below H14.out.live.bel)
    clear h c00 c01 H13 X13
    have c00 : w14.cell? ⟨w.heap.size, 0, none⟩ = some (.int .i64 a) := X14.out.cell 0
    have c01 : w14.cell? ⟨w.heap.size, 1, none⟩ = some (.int .i64 b) := X14.out.cell 1
    go_wp2_with fail
    refine (Mu.lm_out1 H14.out true).mono ?_
    rintro e w15 ⟨rfl, s15, F15, h, -⟩
    have H15 := Lib.hid h
    have X15 := Lib.hid (B2.out.below H15.out.live.bel)
    clear h c00 c01 H14 X14
    have c00 : w15.cell? ⟨w.heap.size, 0, none⟩ = some (.int .i64 a) := X15.out.cell 0
    have c01 : w15.cell? ⟨w.heap.size, 1, none⟩ = some (.int .i64 b) := X15.out.cell 1
    go_wp2_with fail
    refine (open_shape H15.out.live.at_ litS a b (HNO.out _ (by rw [H15.out.sees.a]; exact List.length_replicate))).mono ?_
    rintro e w16 ⟨rfl, bw⟩
    have TT := Lib.hid (show Below w.heap.size w w16 from BB2.out.trans ((H15.out.live.bel.trans (bw.mono H15.out.live.bel.size)).mono BB2.out.size))
    clear bw c00 c01 H15 X15
    go_wp2_with fail
    have T0 := Lib.hid (show Below w.heap.size w w16 from TT.out)
    refine (nil_append _).mono ?_
    rintro e v0 ⟨rfl, bw⟩
    have T1 := Lib.hid (T0.out.trans (bw.mono T0.out.size))
    clear bw T0
    go_wp2_with fail
    refine (nil_read _ _).mono ?_
    rintro e v1 ⟨rfl, bw⟩
    have T2 := Lib.hid (T1.out.trans (bw.mono T1.out.size))
    clear bw T1
    go_wp2_with fail
    refine (nil_head _).mono ?_
    rintro e v2 ⟨rfl, bw⟩
    have T3 := Lib.hid (T2.out.trans (bw.mono T2.out.size))
    clear bw T2
    go_wp2_with fail
    refine (nil_flush _).mono ?_
    rintro e v3 ⟨rfl, bw⟩
    have T4 := Lib.hid (T3.out.trans (bw.mono T3.out.size))
    clear bw T3
    go_wp2_with fail
    refine (nil_free _ _).mono ?_
    rintro e v4 ⟨rfl, bw⟩
    have T5 := Lib.hid (T4.out.trans (bw.mono T4.out.size))
    clear bw T4
    go_wp2_with fail
    refine (nil_gen _ _).mono ?_
    rintro e v5 ⟨rfl, bw⟩
    have T6 := Lib.hid (T5.out.trans (bw.mono T5.out.size))
    clear bw T5
    go_wp2_with fail
    refine (nil_room _).mono ?_
    rintro e v6 ⟨rfl, bw⟩
    have T7 := Lib.hid (T6.out.trans (bw.mono T6.out.size))
    clear bw T6
    go_wp2_with fail
    go_ret
    exact ⟨rfl, T7.out⟩
theorem logNone_own : ownKnob Try.prog.godebug = none := by kernel_rfl
theorem logNone_laid : laidOutB Try.prog = true := by kernel_rfl

set_option maxRecDepth 100000 in
theorem logNone_lifted (os : Os) (started : os.Started) (H : Type) (enc : TypeId × Value → H) :
    ReturnsInHanded {} Try.checked os 8 .any (Rows.logNoneSpec.pre6 enc Try.prog Try.f8 Rows.logNoneRow.domain false) (Rows.logNoneSpec.post enc Try.prog Try.f8 false true false false) := by
  refine returnsInHanded_of_change (C := Try.checked) logNone_own started (by kernel_rfl) Try.func8
    (ChangeSpec.witness6 (enc := enc) (C := Try.checked) false ⟨#[], #[.agg #[.int .i64 0, .int .i64 0], .int .u8 0], []⟩ 8 (by kernel_rfl) (by kernel_rfl) (by kernel_rfl) (by kernel_rfl)) ?_
  intro W base args ds gs before hval0 hW _ _
  have hval : ∀ (j : Nat) t v, Try.f8.params[j]? = some t → args[j]? = some v → Value.okWide Try.prog W .any base t v := hval0
  have hW' := hW
  obtain ⟨p, q, hA0, hV, rfl, hfz, hnd⟩ := hW
  have hA : DataW.TrodAll enc Try.prog W 0 (fun _ => true) true Try.f8.params.toList args.toList ds p := hA0
  rw [Try.params8] at hA hval
  obtain ⟨v0, vs0, d0, ds0, p0, q0, hargs, rfl, rfl, h0, r0⟩ := trodAll_cons hA
  obtain ⟨v1, vs1, d1, ds1, p1, q1, rfl, rfl, rfl, h1, r1⟩ := trodAll_cons r0
  obtain ⟨rfl, rfl, rfl⟩ := trodAll_nil r1
  obtain rfl : args = #[v0, v1] := by cases args; simp_all
  obtain ⟨rfl, rfl⟩ := trodVars_none hV
  have lt0 : ∀ x ∈ p0, x.block < W.heap.size := by obtain ⟨m, hm⟩ := h0; exact DataW.trod_lt m _ _ _ hm
  obtain ⟨x0, y0, rfl, bx0, by0⟩ := Sg.open_shape (hval 0 71 v0 rfl rfl) h0
  obtain ⟨a1, rfl, rfl, rfl, w1⟩ := open_int Try.underlying5 (hval 1 5 v1 rfl rfl) h1
  have b1 := bounds_u8 w1
  clear hA0 hval0
  refine (logNone_any W x0 y0 bx0 by0 a1 b1).mono fun e W' ⟨he, bel⟩ => ?_
  subst he
  exact ⟨_, rfl, _, _, _, [], _, [], hW', trodAll_mk1 (shut_bool Try.underlying4 _), (trodAll_cons_mk (Below.trod logNone_laid (by kernel_rfl) (of_decide_eq_true (by kernel_rfl)) h0 bel lt0) (trodAll_cons_mk (shut_int Try.underlying5 w1) trodAll_mk0)), rfl, bel.frame _, fun h => by cases h⟩

theorem logNone_holds : Rows.LogNoneSaid :=
  OpenClaim.holds_of_wide 8 Try.f8 rfl rfl rfl rfl rfl rfl rfl ⟨rfl, rfl, rfl, rfl, rfl⟩ rfl rfl rfl rfl rfl (by kernel_rfl) Try.func8 (by kernel_rfl)
    (of_decide_eq_true (by kernel_rfl)) (by unfold Func.isWrapper; rw [if_neg (of_decide_eq_false (by kernel_rfl))]; exact ⟨rfl, rfl⟩)
    (fun os started H enc _ => logNone_lifted os started H enc)

#print axioms logNone_holds

end Go.Proofs.Ythadomboiockhaa
