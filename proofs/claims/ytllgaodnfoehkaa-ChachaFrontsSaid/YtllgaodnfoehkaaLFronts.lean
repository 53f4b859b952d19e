/-
  ChachaFronts holds: of every key, nonce and two sizes the law returns true, and its arguments read as they did.
-/
import Derived.Test.YtllgaodnfoehkaaAwake
import Derived.Test.YtllgaodnfoehkaaRStream
import Derived.Test.YtllgaodnfoehkaaEqArr
import Derived.Test.YtllgaodnfoehkaaOpenA
import Derived.ProofKit
import Derived.OpenShut
import Derived.ShutString
import Derived.ChangeOld
namespace Go.Proofs.Ytllgaodnfoehkaa
open Go.RowKit Go.ChangeShapes Go.WideShapes Go.ChangeAt
theorem own_caps {w : World} {base n c : Nat} {e : TypeId} {A : Option Addr} {xs : List Value} (h : w.ownsRow base e 1 (.slice A n c) n xs) : n ≤ c ∧ c ≤ maxLen := by
  rcases h.2 with ⟨h0, h1⟩ | ⟨g, cap, cur, h0, _, _, h1, h2, _⟩
  · injection h0 with _ e2 e3
    subst e3
    omega
  · injection h0 with _ _ e3
    omega
theorem rd_of_blk {w : World} {g : Nat} {l : List UInt8} {A : TypeId} (h : Blk w g (bva l) A) : Rd (g + 1) w (some ⟨g, 0, none⟩) (bv l) := fun j u hu =>
  ⟨_, rfl, Nat.lt_succ_self _, by rw [add_head, h.cell, bva, List.getElem?_toArray]; exact hu⟩
theorem streamI_nat (k : List UInt8) (N F : Nat) (h : F ≤ 65536) : streamI k N (F : Int) = streamL k N F := by
  unfold streamI
  by_cases h0 : F = 0
  · subst h0; rfl
  · rw [if_pos (by omega), Int.toNat_natCast]
theorem streamL_take (k : List UInt8) (N : Nat) {F M : Nat} (h : F ≤ M) : streamL k N F = (streamL k N M).take F := by
  unfold streamL
  rw [← List.map_take, List.take_range, Nat.min_eq_left h]
theorem streamL_block (k : List UInt8) (N : Nat) {i t M : Nat} (ht : t = 64 * i) (h : t + 64 ≤ M) : blockL k (UInt32.ofNat i) N = ((streamL k N M).drop t).take 64 := by
  have hl := blockL_length k (UInt32.ofNat i) N
  apply List.ext_getElem?
  intro j
  by_cases hj : j < 64
  · rw [List.getElem?_take, if_pos hj, List.getElem?_drop, streamL, List.getElem?_map, List.getElem?_range (by omega), Option.map_some, show (t + j) / 64 = i by omega, show (t + j) % 64 = j by omega, List.getD_eq_getElem?_getD, List.getElem?_eq_getElem (by rw [hl]; exact hj)]
    rfl
  · rw [List.getElem?_eq_none (by rw [hl]; omega), List.getElem?_eq_none (by simp; omega)]
set_option maxHeartbeats 1000000 in
theorem fronts_up (w : World) (k : List UInt8) (hk : k.length = 32) (N : Nat) (X Y : Int) (X0 : 0 ≤ X) (X1 : X ≤ 65535) (Y0 : 0 ≤ Y) (Y1 : Y ≤ 65535) (F M : Nat) (eF : X % 400 = (F : Int)) (eM : Y % 400 = (M : Int)) (hFM : F ≤ M) :
    Calls Try.prog 10 #[.agg (bva k), .int .u64 (N : Int), .agg #[.int .u16 X, .int .u16 Y]] w (RetB (.bool true) w) := by
  have HI : Hid ((Try.prog.info? 36).map (·.size) = some (bva k).size) := by rw [bva_size, hk]; exact info36
  have lF : F < 400 := by omega
  have lM : M < 400 := by omega
  have HK := Lib.hid hk
  clear hk
  have hlt' : ¬ (M : Int) < (F : Int) := by omega
  go_enter Try.func10, Try.ntmps10
  go_wp2_with fail
  refine (awake_any _).mono ?_
  rintro e w1 ⟨rfl, bw1⟩
  have B1 : Blk w1 w.heap.size (bva k) 36 := Blk.below (heap_alloc2_old _ _ _) bw1
  have B3 : Blk w1 (w.heap.size + 1) #[.int .u16 X, .int .u16 Y] 50 := Blk.below (heap_alloc2_new _ _ _) bw1
  have B2 : Below w.heap.size w w1 := (((Below.refl _ _).alloc (Nat.le_refl _) _).alloc (by simp) _).trans (bw1.mono (by simp; omega))
  have C0 : w1.cell? ⟨w.heap.size + 1, 0, none⟩ = some (.int .u16 X) := by rw [B3.cell]; rfl
  have C1 : w1.cell? ⟨w.heap.size + 1, 1, none⟩ = some (.int .u16 Y) := by rw [B3.cell]; rfl
  have G1 := Lib.hid B1
  have G2 := Lib.hid B2
  clear B1 B2 B3 bw1
  go_wp2_with fail
  go_quiet (fail)
  go_wp2_with fail
  clear C0 C1
  refine wp_region_held_drew (S := fun w' => Blk w' w.heap.size (bva k) 36 ∧ Below w.heap.size w w') (by kernel_rfl) ⟨G1.out, (below_drewN' G2.out _).drew⟩ (fun hh => ?_)
  have HH := Lib.hid hh
  clear hh
  refine wpAnyH_take (i := 0) (v := .agg (bva k)) rfl (by kernel_rfl) (by kernel_rfl) (by kernel_rfl) (fun _ _ _ h => h) (Or.inl ⟨by rfl, fun w' hw' => ?y0⟩) HH.out ?_
  case y0 => exact exec_load 36 (.tmp 3) rfl rfl hw'.1 Try.underlying36 rfl HI.out
  refine wpAnyH_take (i := 1) (v := ?v1) rfl (by kernel_rfl) (by kernel_rfl) (by kernel_rfl) (fun _ _ _ h => h) (Or.inl ⟨by rfl, fun w' _ => ?y1⟩) HH.out ?_
  case y1 => (go_simp; try with_reducible rfl)
  refine wpAnyH_take (i := 2) (v := ?v2) rfl (by kernel_rfl) (by kernel_rfl) (by kernel_rfl) (fun _ _ _ h => h) (Or.inl ⟨by rfl, fun w' _ => ?y2⟩) HH.out ?_
  case y2 => (go_simp; try with_reducible rfl)
  refine wpAnyH_take (i := 4) (v := .agg (bva k)) rfl (by kernel_rfl) (by kernel_rfl) (by kernel_rfl) (fun _ _ _ h => h) (Or.inl ⟨by rfl, fun w' hw' => ?y4⟩) HH.out ?_
  case y4 => exact exec_load 36 (.tmp 3) rfl rfl hw'.1 Try.underlying36 rfl HI.out
  refine wpAnyH_take (i := 5) (v := ?v5) rfl (by kernel_rfl) (by kernel_rfl) (by kernel_rfl) (fun _ _ _ h => h) (Or.inl ⟨by rfl, fun w' _ => ?y5⟩) HH.out ?_
  case y5 => (go_simp; try with_reducible rfl)
  refine wpAnyH_take (i := 6) (v := ?v6) rfl (by kernel_rfl) (by kernel_rfl) (by kernel_rfl) (fun _ _ _ h => h) (Or.inl ⟨by rfl, fun w' _ => ?y6⟩) HH.out ?_
  case y6 => (go_simp; try with_reducible rfl)
  refine wpAnyH_ready (rs := [3]) (by kernel_rfl) (by simp) (AllReadyH.cons rfl (fun K hK => ?_) AllReadyH.nil)
  go_simp
  refine (stream_any k HK.out N (F : Int) _).mono ?_
  rintro e w2 ⟨A2, n2, c2, rfl, ho2, bw2⟩
  rw [streamI_nat k N F (by omega)] at ho2
  have O2 := Lib.hid ho2
  clear ho2
  go_simp
  refine hK.out _ _ ⟨HH.out.1.below bw2, HH.out.2.trans (bw2.mono HH.out.2.size)⟩ (fun hh => ?_)
  have HH' := Lib.hid hh
  clear hh hK K HH bw2
  have HH := Lib.hid HH'.out
  clear HH'
  refine wpAnyH_ready (rs := [7]) (by kernel_rfl) (by simp) (AllReadyH.cons rfl (fun K hK => ?_) AllReadyH.nil)
  go_simp
  refine (stream_any k HK.out N (M : Int) _).mono ?_
  rintro e w3 ⟨A3, n3, c3, rfl, ho3, bw3⟩
  rw [streamI_nat k N M (by omega)] at ho3
  have ho2' := own_below O2.out bw3
  have P2 := Lib.hid ho2'
  have P3 := Lib.hid ho3
  clear O2 ho2' ho3
  go_simp
  refine hK.out _ _ ⟨HH.out.1.below bw3, HH.out.2.trans (bw3.mono HH.out.2.size)⟩ (fun hh => ?_)
  have HH' := Lib.hid hh
  clear hh hK K HH bw3
  have HH := Lib.hid HH'.out
  clear HH'
  refine wpAnyH_take (i := 8) (v := ?v8) rfl (by kernel_rfl) (by kernel_rfl) (by kernel_rfl) (fun _ _ _ h => h) (Or.inl ⟨by rfl, fun w' _ => ?y8⟩) HH.out ?_
  case y8 => (go_simp; try with_reducible rfl)
  refine wpAnyH_take (i := 9) (v := ?v9) rfl (by kernel_rfl) (by kernel_rfl) (by kernel_rfl) (fun _ _ _ h => h) (Or.inl ⟨by rfl, fun w' _ => ?y9⟩) HH.out ?_
  case y9 => (go_simp; try with_reducible rfl)
  refine wpAnyH_done (by kernel_rfl) ?_ _
  obtain rfl : F = n2 := (streamL_length k N F).symm.trans (own_blen P2.out)
  obtain rfl : M = n3 := (streamL_length k N M).symm.trans (own_blen P3.out)
  have hc3 := (own_caps P3.out).1
  have hm3 := (own_caps P3.out).2
  have hm2 := own_max P2.out
  have hm4 := own_max P3.out
  unfold maxLen at hm3
  have hFc : (F : Int) ≤ (c3 : Int) := by omega
  have hF0 : (0 : Int) ≤ (F : Int) := by omega
  go_wp2_with fail
  refine (same_r (b := true) (xs := streamL k N F) (ys := (streamL k N M).take F) (decide_eq_true (streamL_take k N hFM)) (streamL_length _ _ _) ?_ (Rd.own P2.out) ((Rd.own P3.out).take F) hm2 (by omega)).mono ?_
  · simp [streamL_length]; omega
  rintro e w4 ⟨rfl, bw4⟩
  go_wp2_with fail
  have k4 := HH.out.1.below bw4
  have l4 := HH.out.2.trans (bw4.mono HH.out.2.size)
  have o4 := own_below P3.out bw4
  have K4 := Lib.hid k4
  have L4 := Lib.hid l4
  have O4 := Lib.hid o4
  clear k4 l4 o4 bw4 HH P2 P3 G1 G2
  obtain ⟨bs, hbs⟩ : ∃ bs, bs = streamL k N M := ⟨_, rfl⟩
  have HBS := Lib.hid hbs
  have HBL : Hid (bs.length = M) := by rw [hbs]; exact streamL_length _ _ _
  have O5 : Hid (w4.ownsRow w2.heap.size 5 1 (.slice A3 M c3) M (bv bs)) := by rw [hbs]; exact O4.out
  clear hbs O4
  obtain ⟨Z, hZ⟩ : ∃ Z : Nat, Z = w2.heap.size := ⟨_, rfl⟩
  rw [← hZ] at O5
  clear hZ
  go_loopw [11, 12] (fun i _ wr => ∃ j t : Nat, Hid (t = 64 * j) ∧ j ≤ 1000 ∧ t ≤ M + 64 ∧ i = .int .i64 j ∧ Blk wr w.heap.size (bva k) 36 ∧ wr.ownsRow Z 5 1 (.slice A3 M c3) M (bv bs) ∧ Below w.heap.size w wr) (fun i _ _ => 1000 - (intOf i).toNat)
  case atStart => exact ⟨0, 0, rfl, by omega, by omega, rfl, K4.out, O5.out, L4.out⟩
  case round =>
    obtain ⟨j, t, HT, hj, ht, rfl, hk5, ho5, hb5⟩ := hrel
    clear K4 L4 O5
    have et : 64 * (j : Int) = (t : Int) := by have := HT.out; omega
    have K5 := Lib.hid hk5
    have P5 := Lib.hid ho5
    have L5 := Lib.hid hb5
    clear hk5 ho5 hb5
    by_cases hlt : t + 64 ≤ M
    · have hlti : (t : Int) + 64 ≤ (M : Int) := by omega
      have j0 : (0 : Int) ≤ (j : Int) := by omega
      have j1 : (j : Int) ≤ 1000 := by omega
      have kc : (j : Int) = ((UInt32.ofNat j).toNat : Int) := by rw [UInt32.toNat_ofNat']; omega
      have KC := Lib.hid kc
      clear kc
      go_wp2_with (refine wpList_load_row rfl 36 (.tmp 3) rfl w.heap.size rfl 36 (bva k) (0, 0) _ ?hg Try.underlying36 rfl HI.out ?_; case hg => exact K5.out)
      refine (block_as k HK.out _ (UInt32.ofNat j) N _ KC.out).mono ?_
      rintro e w6 ⟨rfl, b6⟩
      have HX : Hid ((Try.prog.info? 38).map (·.size) = some (bva (blockL k (UInt32.ofNat j) N)).size) := by rw [bva_size, blockL_length]; exact info38
      have p1 := K5.out.below b6
      have p2 := own_below P5.out b6
      have p3 := L5.out.trans (b6.mono L5.out.size)
      have K6 := Lib.hid p1
      have P6 := Lib.hid p2
      have L6 := Lib.hid p3
      clear p1 p2 p3 K5 P5 L5 b6
      go_wp2_with (refine wpList_store_row rfl 38 (.tmp 12) (.tmp 65) rfl w6.heap.size (bva (blockL k (UInt32.ofNat j) N)) rfl rfl 38 (bva (List.replicate 64 0)) (heap_alloc_new _ _) HX.out (by rw [bva_size, bva_size, blockL_length]; rfl) (bva_one _) ?_; generalize hw7 : World.setRow _ _ _ = w7; have HW := Lib.hid hw7; clear hw7)
      have r1 : Blk w7 w.heap.size (bva k) 36 := by rw [← HW.out]; exact blk_past K6.out
      have r2 : w7.ownsRow Z 5 1 (.slice A3 M c3) M (bv bs) := by rw [← HW.out]; exact own_below P6.out (below_new (Below.refl _ _) (Nat.le_refl _))
      have r3 : Blk w7 w6.heap.size (bva (blockL k (UInt32.ofNat j) N)) 38 := by rw [← HW.out]; exact blk_new _
      have r4 : Below w.heap.size w w7 := by rw [← HW.out]; exact below_new L6.out L6.out.size
      have R1 := Lib.hid r1
      have R2 := Lib.hid r2
      have R3 := Lib.hid r3
      have R4 := Lib.hid r4
      clear r1 r2 r3 r4 K6 P6 L6 HW
      obtain ⟨g3, hA3, _, _, _⟩ := own_addr R2.out (by omega)
      subst hA3
      have rb : Rd (w6.heap.size + 1) w7.drew (some ⟨w6.heap.size, 0, none⟩) (bv (blockL k (UInt32.ofNat j) N)) := rd_of_blk R3.out
      have rc : Rd w7.heap.size w7.drew (some ⟨g3, t, none⟩) (bv ((bs.drop t).take 64)) := by
        have h := (Rd.own R2.out).drop t
        rw [add_head] at h
        exact h.take 64
      have RB := Lib.hid rb
      have RC := Lib.hid rc
      clear rb rc
      have t0 : (0 : Int) ≤ (t : Int) := by omega
      have t1 : (t : Int) ≤ (t : Int) + 64 := by omega
      have t2 : (t : Int) + 64 ≤ (c3 : Int) := by omega
      have t3 : (t : Int) ≤ (c3 : Int) := by omega
      have t4 : ¬ c3 = t := by omega
      have t5 : (0 : Int) ≤ (t : Int) + 64 := by omega
      have wt : IntKind.i64.wrap (t : Int) = (t : Int) := IntWalk.i64_in _ (by omega)
      have wt64 : IntKind.i64.wrap ((t : Int) + 64) = (t : Int) + 64 := IntWalk.i64_in _ (by omega)
      have nt64 : ((t : Int) + 64).toNat = t + 64 := by omega
      refine wp_region_held_drew (S := fun w' => Below w7.heap.size w7 w') (by kernel_rfl) (Below.refl _ _).drew (fun hh => ?_)
      have HH := Lib.hid hh
      clear hh
      refine wpAnyH_take (i := 0) (v := ?vr0) rfl (by kernel_rfl) (by kernel_rfl) (by kernel_rfl) (fun _ _ _ h => h) (Or.inl ⟨by rfl, fun w' _ => ?yr0⟩) HH.out ?_
      case yr0 => (go_simp; try with_reducible rfl)
      refine wpAnyH_take (i := 1) (v := ?vr1) rfl (by kernel_rfl) (by kernel_rfl) (by kernel_rfl) (fun _ _ _ h => h) (Or.inl ⟨by rfl, fun w' _ => ?yr1⟩) HH.out ?_
      case yr1 => (go_simp; try with_reducible rfl)
      refine wpAnyH_take (i := 2) (v := ?vr2) rfl (by kernel_rfl) (by kernel_rfl) (by kernel_rfl) (fun _ _ _ h => h) (Or.inl ⟨by rfl, fun w' _ => ?yr2⟩) HH.out ?_
      case yr2 => (go_simp; try with_reducible rfl)
      refine wpAnyH_take (i := 3) (v := ?vr3) rfl (by kernel_rfl) (by kernel_rfl) (by kernel_rfl) (fun _ _ _ h => h) (Or.inl ⟨by rfl, fun w' _ => ?yr3⟩) HH.out ?_
      case yr3 => (go_simp; try with_reducible rfl)
      refine wpAnyH_take (i := 4) (v := ?vr4) rfl (by kernel_rfl) (by kernel_rfl) (by kernel_rfl) (fun _ _ _ h => h) (Or.inl ⟨by rfl, fun w' _ => ?yr4⟩) HH.out ?_
      case yr4 => (go_simp; try with_reducible rfl)
      refine wpAnyH_take (i := 5) (v := ?vr5) rfl (by kernel_rfl) (by kernel_rfl) (by kernel_rfl) (fun _ _ _ h => h) (Or.inl ⟨by rfl, fun w' _ => ?yr5⟩) HH.out ?_
      case yr5 => (go_simp; try with_reducible rfl)
      refine wpAnyH_take (i := 6) (v := ?vr6) rfl (by kernel_rfl) (by kernel_rfl) (by kernel_rfl) (fun _ _ _ h => h) (Or.inl ⟨by rfl, fun w' _ => ?yr6⟩) HH.out ?_
      case yr6 => (go_simp; try with_reducible rfl)
      refine wpAnyH_take (i := 7) (v := ?vr7) rfl (by kernel_rfl) (by kernel_rfl) (by kernel_rfl) (fun _ _ _ h => h) (Or.inl ⟨by rfl, fun w' _ => ?yr7⟩) HH.out ?_
      case yr7 => (go_simp; try with_reducible rfl)
      clear wt wt64 nt64
      refine wpAnyH_ready (rs := [8]) (by kernel_rfl) (by simp) (AllReadyH.cons rfl (fun K hK => ?_) AllReadyH.nil)
      go_simp
      refine (same_r (b := true) (xs := blockL k (UInt32.ofNat j) N) (ys := (bs.drop t).take 64) ?_ (blockL_length _ _ _) ?_ RB.out RC.out ?_ ?_).mono ?_
      · exact decide_eq_true (by rw [HBS.out]; exact streamL_block k N HT.out hlt)
      · have h := HBL.out; simp [h]; omega
      · unfold maxLen; omega
      · unfold maxLen; omega
      rintro e w8 ⟨rfl, b8⟩
      go_simp
      refine hK.out _ _ (HH.out.trans (b8.mono HH.out.size)) (fun hh => ?_)
      have HH' := Lib.hid hh
      clear hh hK K HH b8
      have HH := Lib.hid HH'.out
      clear HH'
      refine wpAnyH_take (i := 9) (v := ?vr9) rfl (by kernel_rfl) (by kernel_rfl) (by kernel_rfl) (fun _ _ _ h => h) (Or.inl ⟨by rfl, fun w' _ => ?yr9⟩) HH.out ?_
      case yr9 => (go_simp; try with_reducible rfl)
      refine wpAnyH_done (by kernel_rfl) ?_ _
      go_wp2
      go_roundw
      case rel => exact ⟨j + 1, t + 64, (by have h := HT.out; show t + 64 = 64 * (j + 1); omega), by have := HT.out; omega, by omega, by go_num, R1.out.below HH.out, own_below R2.out HH.out, R4.out.trans (HH.out.mono R4.out.size)⟩
      case measure => simp [intOf]; omega
    · have hlti : ¬ (t : Int) + 64 ≤ (M : Int) := by omega
      go_wp2
      go_ret
      exact ⟨rfl, L5.out⟩
set_option maxHeartbeats 1000000 in
theorem fronts_down (w : World) (k : List UInt8) (hk : k.length = 32) (N : Nat) (X Y : Int) (X0 : 0 ≤ X) (X1 : X ≤ 65535) (Y0 : 0 ≤ Y) (Y1 : Y ≤ 65535) (F M : Nat) (eF : Y % 400 = (F : Int)) (eM : X % 400 = (M : Int)) (hFM : F ≤ M) (hlt : F < M) :
    Calls Try.prog 10 #[.agg (bva k), .int .u64 (N : Int), .agg #[.int .u16 X, .int .u16 Y]] w (RetB (.bool true) w) := by
  have HI : Hid ((Try.prog.info? 36).map (·.size) = some (bva k).size) := by rw [bva_size, hk]; exact info36
  have lF : F < 400 := by omega
  have lM : M < 400 := by omega
  have HK := Lib.hid hk
  clear hk
  have hlt' : (F : Int) < (M : Int) := by omega
  go_enter Try.func10, Try.ntmps10
  go_wp2_with fail
  refine (awake_any _).mono ?_
  rintro e w1 ⟨rfl, bw1⟩
  have B1 : Blk w1 w.heap.size (bva k) 36 := Blk.below (heap_alloc2_old _ _ _) bw1
  have B3 : Blk w1 (w.heap.size + 1) #[.int .u16 X, .int .u16 Y] 50 := Blk.below (heap_alloc2_new _ _ _) bw1
  have B2 : Below w.heap.size w w1 := (((Below.refl _ _).alloc (Nat.le_refl _) _).alloc (by simp) _).trans (bw1.mono (by simp; omega))
  have C0 : w1.cell? ⟨w.heap.size + 1, 0, none⟩ = some (.int .u16 X) := by rw [B3.cell]; rfl
  have C1 : w1.cell? ⟨w.heap.size + 1, 1, none⟩ = some (.int .u16 Y) := by rw [B3.cell]; rfl
  have G1 := Lib.hid B1
  have G2 := Lib.hid B2
  clear B1 B2 B3 bw1
  go_wp2_with fail
  go_quiet (fail)
  go_wp2_with fail
  clear C0 C1
  refine wp_region_held_drew (S := fun w' => Blk w' w.heap.size (bva k) 36 ∧ Below w.heap.size w w') (by kernel_rfl) ⟨G1.out, (below_drewN' G2.out _).drew⟩ (fun hh => ?_)
  have HH := Lib.hid hh
  clear hh
  refine wpAnyH_take (i := 0) (v := .agg (bva k)) rfl (by kernel_rfl) (by kernel_rfl) (by kernel_rfl) (fun _ _ _ h => h) (Or.inl ⟨by rfl, fun w' hw' => ?y0⟩) HH.out ?_
  case y0 => exact exec_load 36 (.tmp 3) rfl rfl hw'.1 Try.underlying36 rfl HI.out
  refine wpAnyH_take (i := 1) (v := ?v1) rfl (by kernel_rfl) (by kernel_rfl) (by kernel_rfl) (fun _ _ _ h => h) (Or.inl ⟨by rfl, fun w' _ => ?y1⟩) HH.out ?_
  case y1 => (go_simp; try with_reducible rfl)
  refine wpAnyH_take (i := 2) (v := ?v2) rfl (by kernel_rfl) (by kernel_rfl) (by kernel_rfl) (fun _ _ _ h => h) (Or.inl ⟨by rfl, fun w' _ => ?y2⟩) HH.out ?_
  case y2 => (go_simp; try with_reducible rfl)
  refine wpAnyH_take (i := 4) (v := .agg (bva k)) rfl (by kernel_rfl) (by kernel_rfl) (by kernel_rfl) (fun _ _ _ h => h) (Or.inl ⟨by rfl, fun w' hw' => ?y4⟩) HH.out ?_
  case y4 => exact exec_load 36 (.tmp 3) rfl rfl hw'.1 Try.underlying36 rfl HI.out
  refine wpAnyH_take (i := 5) (v := ?v5) rfl (by kernel_rfl) (by kernel_rfl) (by kernel_rfl) (fun _ _ _ h => h) (Or.inl ⟨by rfl, fun w' _ => ?y5⟩) HH.out ?_
  case y5 => (go_simp; try with_reducible rfl)
  refine wpAnyH_take (i := 6) (v := ?v6) rfl (by kernel_rfl) (by kernel_rfl) (by kernel_rfl) (fun _ _ _ h => h) (Or.inl ⟨by rfl, fun w' _ => ?y6⟩) HH.out ?_
  case y6 => (go_simp; try with_reducible rfl)
  refine wpAnyH_ready (rs := [3]) (by kernel_rfl) (by simp) (AllReadyH.cons rfl (fun K hK => ?_) AllReadyH.nil)
  go_simp
  refine (stream_any k HK.out N (F : Int) _).mono ?_
  rintro e w2 ⟨A2, n2, c2, rfl, ho2, bw2⟩
  rw [streamI_nat k N F (by omega)] at ho2
  have O2 := Lib.hid ho2
  clear ho2
  go_simp
  refine hK.out _ _ ⟨HH.out.1.below bw2, HH.out.2.trans (bw2.mono HH.out.2.size)⟩ (fun hh => ?_)
  have HH' := Lib.hid hh
  clear hh hK K HH bw2
  have HH := Lib.hid HH'.out
  clear HH'
  refine wpAnyH_ready (rs := [7]) (by kernel_rfl) (by simp) (AllReadyH.cons rfl (fun K hK => ?_) AllReadyH.nil)
  go_simp
  refine (stream_any k HK.out N (M : Int) _).mono ?_
  rintro e w3 ⟨A3, n3, c3, rfl, ho3, bw3⟩
  rw [streamI_nat k N M (by omega)] at ho3
  have ho2' := own_below O2.out bw3
  have P2 := Lib.hid ho2'
  have P3 := Lib.hid ho3
  clear O2 ho2' ho3
  go_simp
  refine hK.out _ _ ⟨HH.out.1.below bw3, HH.out.2.trans (bw3.mono HH.out.2.size)⟩ (fun hh => ?_)
  have HH' := Lib.hid hh
  clear hh hK K HH bw3
  have HH := Lib.hid HH'.out
  clear HH'
  refine wpAnyH_take (i := 8) (v := ?v8) rfl (by kernel_rfl) (by kernel_rfl) (by kernel_rfl) (fun _ _ _ h => h) (Or.inl ⟨by rfl, fun w' _ => ?y8⟩) HH.out ?_
  case y8 => (go_simp; try with_reducible rfl)
  refine wpAnyH_take (i := 9) (v := ?v9) rfl (by kernel_rfl) (by kernel_rfl) (by kernel_rfl) (fun _ _ _ h => h) (Or.inl ⟨by rfl, fun w' _ => ?y9⟩) HH.out ?_
  case y9 => (go_simp; try with_reducible rfl)
  refine wpAnyH_done (by kernel_rfl) ?_ _
  obtain rfl : F = n2 := (streamL_length k N F).symm.trans (own_blen P2.out)
  obtain rfl : M = n3 := (streamL_length k N M).symm.trans (own_blen P3.out)
  have hc3 := (own_caps P3.out).1
  have hm3 := (own_caps P3.out).2
  have hm2 := own_max P2.out
  have hm4 := own_max P3.out
  unfold maxLen at hm3
  have hFc : (F : Int) ≤ (c3 : Int) := by omega
  have hF0 : (0 : Int) ≤ (F : Int) := by omega
  go_wp2_with fail
  refine (same_r (b := true) (xs := streamL k N F) (ys := (streamL k N M).take F) (decide_eq_true (streamL_take k N hFM)) (streamL_length _ _ _) ?_ (Rd.own P2.out) ((Rd.own P3.out).take F) hm2 (by omega)).mono ?_
  · simp [streamL_length]; omega
  rintro e w4 ⟨rfl, bw4⟩
  go_wp2_with fail
  have k4 := HH.out.1.below bw4
  have l4 := HH.out.2.trans (bw4.mono HH.out.2.size)
  have o4 := own_below P3.out bw4
  have K4 := Lib.hid k4
  have L4 := Lib.hid l4
  have O4 := Lib.hid o4
  clear k4 l4 o4 bw4 HH P2 P3 G1 G2
  obtain ⟨bs, hbs⟩ : ∃ bs, bs = streamL k N M := ⟨_, rfl⟩
  have HBS := Lib.hid hbs
  have HBL : Hid (bs.length = M) := by rw [hbs]; exact streamL_length _ _ _
  have O5 : Hid (w4.ownsRow w2.heap.size 5 1 (.slice A3 M c3) M (bv bs)) := by rw [hbs]; exact O4.out
  clear hbs O4
  obtain ⟨Z, hZ⟩ : ∃ Z : Nat, Z = w2.heap.size := ⟨_, rfl⟩
  rw [← hZ] at O5
  clear hZ
  go_loopw [11, 12] (fun i _ wr => ∃ j t : Nat, Hid (t = 64 * j) ∧ j ≤ 1000 ∧ t ≤ M + 64 ∧ i = .int .i64 j ∧ Blk wr w.heap.size (bva k) 36 ∧ wr.ownsRow Z 5 1 (.slice A3 M c3) M (bv bs) ∧ Below w.heap.size w wr) (fun i _ _ => 1000 - (intOf i).toNat)
  case atStart => exact ⟨0, 0, rfl, by omega, by omega, rfl, K4.out, O5.out, L4.out⟩
  case round =>
    obtain ⟨j, t, HT, hj, ht, rfl, hk5, ho5, hb5⟩ := hrel
    clear K4 L4 O5
    have et : 64 * (j : Int) = (t : Int) := by have := HT.out; omega
    have K5 := Lib.hid hk5
    have P5 := Lib.hid ho5
    have L5 := Lib.hid hb5
    clear hk5 ho5 hb5
    by_cases hlt : t + 64 ≤ M
    · have hlti : (t : Int) + 64 ≤ (M : Int) := by omega
      have j0 : (0 : Int) ≤ (j : Int) := by omega
      have j1 : (j : Int) ≤ 1000 := by omega
      have kc : (j : Int) = ((UInt32.ofNat j).toNat : Int) := by rw [UInt32.toNat_ofNat']; omega
      have KC := Lib.hid kc
      clear kc
      go_wp2_with (refine wpList_load_row rfl 36 (.tmp 3) rfl w.heap.size rfl 36 (bva k) (0, 0) _ ?hg Try.underlying36 rfl HI.out ?_; case hg => exact K5.out)
      refine (block_as k HK.out _ (UInt32.ofNat j) N _ KC.out).mono ?_
      rintro e w6 ⟨rfl, b6⟩
      have HX : Hid ((Try.prog.info? 38).map (·.size) = some (bva (blockL k (UInt32.ofNat j) N)).size) := by rw [bva_size, blockL_length]; exact info38
      have p1 := K5.out.below b6
      have p2 := own_below P5.out b6
      have p3 := L5.out.trans (b6.mono L5.out.size)
      have K6 := Lib.hid p1
      have P6 := Lib.hid p2
      have L6 := Lib.hid p3
      clear p1 p2 p3 K5 P5 L5 b6
      go_wp2_with (refine wpList_store_row rfl 38 (.tmp 12) (.tmp 65) rfl w6.heap.size (bva (blockL k (UInt32.ofNat j) N)) rfl rfl 38 (bva (List.replicate 64 0)) (heap_alloc_new _ _) HX.out (by rw [bva_size, bva_size, blockL_length]; rfl) (bva_one _) ?_; generalize hw7 : World.setRow _ _ _ = w7; have HW := Lib.hid hw7; clear hw7)
      have r1 : Blk w7 w.heap.size (bva k) 36 := by rw [← HW.out]; exact blk_past K6.out
      have r2 : w7.ownsRow Z 5 1 (.slice A3 M c3) M (bv bs) := by rw [← HW.out]; exact own_below P6.out (below_new (Below.refl _ _) (Nat.le_refl _))
      have r3 : Blk w7 w6.heap.size (bva (blockL k (UInt32.ofNat j) N)) 38 := by rw [← HW.out]; exact blk_new _
      have r4 : Below w.heap.size w w7 := by rw [← HW.out]; exact below_new L6.out L6.out.size
      have R1 := Lib.hid r1
      have R2 := Lib.hid r2
      have R3 := Lib.hid r3
      have R4 := Lib.hid r4
      clear r1 r2 r3 r4 K6 P6 L6 HW
      obtain ⟨g3, hA3, _, _, _⟩ := own_addr R2.out (by omega)
      subst hA3
      have rb : Rd (w6.heap.size + 1) w7.drew (some ⟨w6.heap.size, 0, none⟩) (bv (blockL k (UInt32.ofNat j) N)) := rd_of_blk R3.out
      have rc : Rd w7.heap.size w7.drew (some ⟨g3, t, none⟩) (bv ((bs.drop t).take 64)) := by
        have h := (Rd.own R2.out).drop t
        rw [add_head] at h
        exact h.take 64
      have RB := Lib.hid rb
      have RC := Lib.hid rc
      clear rb rc
      have t0 : (0 : Int) ≤ (t : Int) := by omega
      have t1 : (t : Int) ≤ (t : Int) + 64 := by omega
      have t2 : (t : Int) + 64 ≤ (c3 : Int) := by omega
      have t3 : (t : Int) ≤ (c3 : Int) := by omega
      have t4 : ¬ c3 = t := by omega
      have t5 : (0 : Int) ≤ (t : Int) + 64 := by omega
      have wt : IntKind.i64.wrap (t : Int) = (t : Int) := IntWalk.i64_in _ (by omega)
      have wt64 : IntKind.i64.wrap ((t : Int) + 64) = (t : Int) + 64 := IntWalk.i64_in _ (by omega)
      have nt64 : ((t : Int) + 64).toNat = t + 64 := by omega
      refine wp_region_held_drew (S := fun w' => Below w7.heap.size w7 w') (by kernel_rfl) (Below.refl _ _).drew (fun hh => ?_)
      have HH := Lib.hid hh
      clear hh
      refine wpAnyH_take (i := 0) (v := ?vr0) rfl (by kernel_rfl) (by kernel_rfl) (by kernel_rfl) (fun _ _ _ h => h) (Or.inl ⟨by rfl, fun w' _ => ?yr0⟩) HH.out ?_
      case yr0 => (go_simp; try with_reducible rfl)
      refine wpAnyH_take (i := 1) (v := ?vr1) rfl (by kernel_rfl) (by kernel_rfl) (by kernel_rfl) (fun _ _ _ h => h) (Or.inl ⟨by rfl, fun w' _ => ?yr1⟩) HH.out ?_
      case yr1 => (go_simp; try with_reducible rfl)
      refine wpAnyH_take (i := 2) (v := ?vr2) rfl (by kernel_rfl) (by kernel_rfl) (by kernel_rfl) (fun _ _ _ h => h) (Or.inl ⟨by rfl, fun w' _ => ?yr2⟩) HH.out ?_
      case yr2 => (go_simp; try with_reducible rfl)
      refine wpAnyH_take (i := 3) (v := ?vr3) rfl (by kernel_rfl) (by kernel_rfl) (by kernel_rfl) (fun _ _ _ h => h) (Or.inl ⟨by rfl, fun w' _ => ?yr3⟩) HH.out ?_
      case yr3 => (go_simp; try with_reducible rfl)
      refine wpAnyH_take (i := 4) (v := ?vr4) rfl (by kernel_rfl) (by kernel_rfl) (by kernel_rfl) (fun _ _ _ h => h) (Or.inl ⟨by rfl, fun w' _ => ?yr4⟩) HH.out ?_
      case yr4 => (go_simp; try with_reducible rfl)
      refine wpAnyH_take (i := 5) (v := ?vr5) rfl (by kernel_rfl) (by kernel_rfl) (by kernel_rfl) (fun _ _ _ h => h) (Or.inl ⟨by rfl, fun w' _ => ?yr5⟩) HH.out ?_
      case yr5 => (go_simp; try with_reducible rfl)
      refine wpAnyH_take (i := 6) (v := ?vr6) rfl (by kernel_rfl) (by kernel_rfl) (by kernel_rfl) (fun _ _ _ h => h) (Or.inl ⟨by rfl, fun w' _ => ?yr6⟩) HH.out ?_
      case yr6 => (go_simp; try with_reducible rfl)
      refine wpAnyH_take (i := 7) (v := ?vr7) rfl (by kernel_rfl) (by kernel_rfl) (by kernel_rfl) (fun _ _ _ h => h) (Or.inl ⟨by rfl, fun w' _ => ?yr7⟩) HH.out ?_
      case yr7 => (go_simp; try with_reducible rfl)
      clear wt wt64 nt64
      refine wpAnyH_ready (rs := [8]) (by kernel_rfl) (by simp) (AllReadyH.cons rfl (fun K hK => ?_) AllReadyH.nil)
      go_simp
      refine (same_r (b := true) (xs := blockL k (UInt32.ofNat j) N) (ys := (bs.drop t).take 64) ?_ (blockL_length _ _ _) ?_ RB.out RC.out ?_ ?_).mono ?_
      · exact decide_eq_true (by rw [HBS.out]; exact streamL_block k N HT.out hlt)
      · have h := HBL.out; simp [h]; omega
      · unfold maxLen; omega
      · unfold maxLen; omega
      rintro e w8 ⟨rfl, b8⟩
      go_simp
      refine hK.out _ _ (HH.out.trans (b8.mono HH.out.size)) (fun hh => ?_)
      have HH' := Lib.hid hh
      clear hh hK K HH b8
      have HH := Lib.hid HH'.out
      clear HH'
      refine wpAnyH_take (i := 9) (v := ?vr9) rfl (by kernel_rfl) (by kernel_rfl) (by kernel_rfl) (fun _ _ _ h => h) (Or.inl ⟨by rfl, fun w' _ => ?yr9⟩) HH.out ?_
      case yr9 => (go_simp; try with_reducible rfl)
      refine wpAnyH_done (by kernel_rfl) ?_ _
      go_wp2
      go_roundw
      case rel => exact ⟨j + 1, t + 64, (by have h := HT.out; show t + 64 = 64 * (j + 1); omega), by have := HT.out; omega, by omega, by go_num, R1.out.below HH.out, own_below R2.out HH.out, R4.out.trans (HH.out.mono R4.out.size)⟩
      case measure => simp [intOf]; omega
    · have hlti : ¬ (t : Int) + 64 ≤ (M : Int) := by omega
      go_wp2
      go_ret
      exact ⟨rfl, L5.out⟩
theorem chachaFronts_any (w : World) (k : List UInt8) (hk : k.length = 32) (n : Int) (hn : 0 ≤ n ∧ n ≤ 18446744073709551615) (X Y : Int) (hX : 0 ≤ X ∧ X ≤ 65535) (hY : 0 ≤ Y ∧ Y ≤ 65535) :
    Calls Try.prog 10 #[.agg (bva k), .int .u64 n, .agg #[.int .u16 X, .int .u16 Y]] w (RetB (.bool true) w) := by
  obtain ⟨N, rfl⟩ := Int.eq_ofNat_of_zero_le hn.1
  obtain ⟨A, eA⟩ : ∃ A : Nat, X % 400 = (A : Int) := ⟨(X % 400).toNat, by omega⟩
  obtain ⟨B, eB⟩ : ∃ B : Nat, Y % 400 = (B : Int) := ⟨(Y % 400).toNat, by omega⟩
  by_cases h : B < A
  · exact fronts_down w k hk N X Y hX.1 hX.2 hY.1 hY.2 B A eB eA (by omega) h
  · exact fronts_up w k hk N X Y hX.1 hX.2 hY.1 hY.2 A B eA eB (by omega)
theorem open_two16 {H : Type} {enc : TypeId × Value → H} {P : Program} {w : World} {r : Reach} {b0 base : Nat} {spare : Nat → Bool} {held : Bool} {t e : Nat} {v : Value} {d : DataW H} {ps : List MemPlace} (ht : P.underlying t = some (.array 2 e)) (he : P.underlying e = some (.int .u16)) (hc : P.cellsOf e = 1) (hn : P.cellsOf t = 2)
    (hval : Value.okWide P w r b0 t v) (h : DataW.Trod enc P w base spare held t v d ps) : ∃ x y : Int, v = .agg #[.int .u16 x, .int .u16 y] ∧ (0 ≤ x ∧ x ≤ 65535) ∧ (0 ≤ y ∧ y ≤ 65535) := by
  obtain ⟨zs, hl, rfl, hw⟩ := open_arr ht he hc hn hval h
  match zs, hl with
  | [x, y], _ => exact ⟨x, y, rfl, bounds_u16 (hw x (by simp)), bounds_u16 (hw y (by simp))⟩
theorem chachaFronts_own : ownKnob Try.prog.godebug = none := by kernel_rfl
theorem chachaFronts_laid : laidOutB Try.prog = true := by kernel_rfl

set_option maxRecDepth 100000 in
theorem chachaFronts_lifted (os : Os) (started : os.Started) (H : Type) (enc : TypeId × Value → H) :
    ReturnsInHanded {} Try.checked os 10 .any (Rows.chachaFrontsSpec.pre6 enc Try.prog Try.f10 Rows.chachaFrontsRow.domain false) (Rows.chachaFrontsSpec.post enc Try.prog Try.f10 false true false false) := by
  refine returnsInHanded_of_change (C := Try.checked) chachaFronts_own started (by kernel_rfl) Try.func10
    (ChangeSpec.witness6 (enc := enc) (C := Try.checked) false ⟨#[], #[.agg #[.int .u8 0, .int .u8 0, .int .u8 0, .int .u8 0, .int .u8 0, .int .u8 0, .int .u8 0, .int .u8 0, .int .u8 0, .int .u8 0, .int .u8 0, .int .u8 0, .int .u8 0, .int .u8 0, .int .u8 0, .int .u8 0, .int .u8 0, .int .u8 0, .int .u8 0, .int .u8 0, .int .u8 0, .int .u8 0, .int .u8 0, .int .u8 0, .int .u8 0, .int .u8 0, .int .u8 0, .int .u8 0, .int .u8 0, .int .u8 0, .int .u8 0, .int .u8 0], .int .u64 0, .agg #[.int .u16 0, .int .u16 0]], []⟩ 8 (by kernel_rfl) (by kernel_rfl) (by kernel_rfl) (by kernel_rfl)) ?_
  intro W base args ds gs before hval0 hW _ _
  have hval : ∀ (j : Nat) t v, Try.f10.params[j]? = some t → args[j]? = some v → Value.okWide Try.prog W .any base t v := hval0
  have hW' := hW
  obtain ⟨p, q, hA0, hV, rfl, hfz, hnd⟩ := hW
  have hA : DataW.TrodAll enc Try.prog W 0 (fun _ => true) true Try.f10.params.toList args.toList ds p := hA0
  rw [Try.params10] at hA hval
  obtain ⟨v0, vs0, d0, ds0, p0, q0, hargs, rfl, rfl, h0, r0⟩ := trodAll_cons hA
  obtain ⟨v1, vs1, d1, ds1, p1, q1, rfl, rfl, rfl, h1, r1⟩ := trodAll_cons r0
  obtain ⟨v2, vs2, d2, ds2, p2, q2, rfl, rfl, rfl, h2, r2⟩ := trodAll_cons r1
  obtain ⟨rfl, rfl, rfl⟩ := trodAll_nil r2
  obtain rfl : args = #[v0, v1, v2] := by cases args; simp_all
  obtain ⟨rfl, rfl⟩ := trodVars_none hV
  have lt0 : ∀ x ∈ p0, x.block < W.heap.size := by obtain ⟨m, hm⟩ := h0; exact DataW.trod_lt m _ _ _ hm
  obtain ⟨l0, hl0, rfl⟩ := open_u8s Try.underlying36 Try.underlying5 (by kernel_rfl) (by kernel_rfl) (hval 0 36 v0 rfl rfl) h0
  obtain ⟨a1, rfl, rfl, rfl, w1⟩ := open_int Try.underlying37 (hval 1 37 v1 rfl rfl) h1
  have b1 := bounds_u64 w1
  have lt2 : ∀ x ∈ p2, x.block < W.heap.size := by obtain ⟨m, hm⟩ := h2; exact DataW.trod_lt m _ _ _ hm
  obtain ⟨x2, y2, rfl, bx2, by2⟩ := open_two16 Try.underlying50 Try.underlying49 (by kernel_rfl) (by kernel_rfl) (hval 2 50 v2 rfl rfl) h2
  clear hA0 hval0
  refine (chachaFronts_any W l0 hl0 a1 b1 x2 y2 bx2 by2).mono fun e W' ⟨he, bel⟩ => ?_
  subst he
  exact ⟨_, rfl, _, _, _, [], _, [], hW', trodAll_mk1 (shut_bool Try.underlying4 _), (trodAll_cons_mk (Below.trod chachaFronts_laid (by kernel_rfl) (of_decide_eq_true (by kernel_rfl)) h0 bel lt0) (trodAll_cons_mk (shut_int Try.underlying37 w1) (trodAll_cons_mk (Below.trod chachaFronts_laid (by kernel_rfl) (of_decide_eq_true (by kernel_rfl)) h2 bel lt2) trodAll_mk0))), rfl, bel.frame _, fun h => by cases h⟩

theorem chachaFronts_holds : Rows.ChachaFrontsSaid :=
  OpenClaim.holds_of_wide 10 Try.f10 rfl rfl rfl rfl rfl rfl rfl ⟨rfl, rfl, rfl, rfl, rfl⟩ rfl rfl rfl rfl rfl (by kernel_rfl) Try.func10 (by kernel_rfl)
    (of_decide_eq_true (by kernel_rfl)) (by unfold Func.isWrapper; rw [if_neg (of_decide_eq_false (by kernel_rfl))]; exact ⟨rfl, rfl⟩)
    (fun os started H enc _ => chachaFronts_lifted os started H enc)

#print axioms chachaFronts_holds

end Go.Proofs.Ytllgaodnfoehkaa
